/- The reference's Target. · fight.strike: what Life they lose. · fight.strike where nobody is. · slices.IndexFunc and slices.DeleteFunc of jobs. · fight.Fight's two functions; strike of any list of one's own. -/
import Derived.Test.YteieikgkmfglaaaGreatDoorZTurnPlays20
import Derived.Test.YteieikgkmfglaaaGreatDoorZTurnPlays9
import Derived.Test.YteieikgkmfglaaaGreatDoorZTurnPlays7
import Derived.Test.YteieikgkmfglaaaGreatDoorZTurnPlays16
import Derived.Laws.CopyRow
import Derived.Lib.SliceRun
import Derived.Deep.DeepCutAuto
import Derived.Test.YteieikgkmfglaaaGreatDoorZTurnPlays5
namespace Go.Proofs.YteieikgkmfglaaaGreatDoor
open Go.RowKit
set_option linter.unusedVariables false

set_option maxRecDepth 100000 in
set_option maxHeartbeats 8000000 in
theorem rtarget_any (vk vw : Value) (ks : List KV) (X : WV) (n0 Wn : Nat) (u : UnV) (k : KV) (w : World) (hk : Kl w vk ks) (hw : Wl w vw X) (hr : WRight ks X) (hui : X.us[n0]? = some u) (hwd : X.wide = (Wn : Nat)) (hkk : ks[u.kind.toNat]? = some k) :
    Calls Tryz.prog 75 #[vk, vw, .int .i64 (n0 : Nat)] w fun e w' => e = .returned (.int .i64 (tgt Wn u k X.us)) ∧ Below w.heap.size w w' := by
  have WR : Hid (WRight ks X) := hr
  have H : Hid (Wl w vw X) := hw
  have FT : Hid (∀ h ∈ X.us, InF h ∧ 0 ≤ h.life ∧ h.life ≤ 1000000) := right_fit hr
  obtain ⟨Wn', Hn, e1, e2, G⟩ := hr.good
  obtain rfl : Wn = Wn' := by omega
  have GG : Hid (Fd.Good Wn Hn X.gs X.os) := G
  have AT : Hid (∀ h ∈ X.us, ∃ c : Nat, h.at_ = c ∧ c < Wn * Hn ∧ c ≤ 144) := fun h hh => by
    obtain ⟨i, hi⟩ := List.mem_iff_getElem?.1 hh
    obtain ⟨k', f⟩ := hr.fine hi
    have h1 := f.at_
    have h2 := G.gl
    have h3 := (FT.out h hh).1.2
    exact ⟨h.at_.toNat, by omega, by omega, by omega⟩
  obtain ⟨k0, fu⟩ := hr.fine hui
  have KF : Hid (0 ≤ k.n1) := (kind_nums hr.kinds (List.mem_of_getElem? hkk)).2.2.2.2.1
  obtain ⟨an, han, han1, han2⟩ := AT.out u (List.mem_of_getElem? hui)
  obtain ⟨kn, hkn⟩ : ∃ n : Nat, u.kind = n := ⟨u.kind.toNat, by have := fu.k0.1; omega⟩
  have hk2 : ks[kn]? = some k := by rw [hkn, Int.toNat_natCast] at hkk; exact hkk
  have hkl : kn < ks.length := (List.getElem?_eq_some_iff.1 hk2).1
  have hil : n0 < X.us.length := (List.getElem?_eq_some_iff.1 hui).1
  have hul : X.us.length ≤ 40 := hr.ul
  have GD : Hid (X.wide = (Wn : Nat) ∧ X.high = (Hn : Nat) ∧ u.at_ = (an : Nat) ∧ an < Wn * Hn ∧ u.kind = (kn : Nat)) := ⟨e1, e2, han, han1, hkn⟩
  obtain ⟨p1, q1, p2, q2, p3, q3, p4, q4, p5, q5, rfl⟩ := wl_shape9 hw
  obtain ⟨pa, pc, he, -, -, hu⟩ := H.out.slices.2.2.2.1
  obtain ⟨xu, hxu, hxul, hxuc⟩ := hu (by intro h; rw [h] at hil; simp at hil)
  injection he with he1 he2 he3
  subst he1
  subst hxu
  obtain ⟨pk, qk, rfl, ck1, ck2, kc⟩ := hk
  obtain ⟨xk, hxk, hxl, hxc⟩ := kc (by intro h; subst h; simp at hkl)
  subst hxk
  have UC : Hid (∀ (i : Nat) k, X.us[i]? = some k → Unc w (xu.add (i * 8)) k) := hxuc
  have UL : Hid (xu.block < w.heap.size) := hxul
  have KK : Hid (Kc w (xk.add (kn * 11)) k ∧ (xk.add (kn * 11)).block < w.heap.size) := ⟨hxc kn k hk2, by rw [add_block]; exact hxl⟩
  have HI : Hid (X.us[n0]? = some u) := hui
  clear hu he2 he3 hxul hxuc hxl hxc hwd hkk hk2 kc han han1 han2 hkn fu G e1 e2 hui hr hw
  go_enter Tryz.func75, Tryz.ntmps75
  go_upto_region 1 with fail
  have B0 : Hid (Below w.heap.size w (w.alloc (Obj.cells #[.int .i64 X.turn, .int .i64 X.next, .int .i64 X.wide, .int .i64 X.high, .slice p1 X.gs.length q1, .slice p2 X.os.length q2, .slice p3 X.gold.length q3, .slice (some xu) X.us.length q4, .slice p5 X.qs.length q5] 29))) := (Below.refl _ _).alloc (Nat.le_refl _) _
  have X0 : Hid (Bw (w.alloc (Obj.cells #[.int .i64 X.turn, .int .i64 X.next, .int .i64 X.wide, .int .i64 X.high, .slice p1 X.gs.length q1, .slice p2 X.os.length q2, .slice p3 X.gold.length q3, .slice (some xu) X.us.length q4, .slice p5 X.qs.length q5] 29)) w.heap.size X (.slice p1 X.gs.length q1) (.slice p2 X.os.length q2) (.slice p3 X.gold.length q3) (.slice (some xu) X.us.length q4) (.slice p5 X.qs.length q5)) := Bw.mk' X _ _ _ _ _ rfl
  generalize (w.alloc (Obj.cells #[.int .i64 X.turn, .int .i64 X.next, .int .i64 X.wide, .int .i64 X.high, .slice p1 X.gs.length q1, .slice p2 X.os.length q2, .slice p3 X.gold.length q3, .slice (some xu) X.us.length q4, .slice p5 X.qs.length q5] 29)) = w0 at *
  obtain ⟨y0, y1, y2, y3, y4, y5, y6, y7⟩ := (UC.out n0 u HI.out).below B0.out (by rw [add_block]; exact UL.out)
  have x7 := X0.out.c7
  go_upto_region 2 with fail
  have BA : Hid (Below w0.heap.size w0 (w0.alloc (Obj.cells #[.int .i64 u.id, .int .i64 u.player, .int .i64 u.kind, .int .i64 u.at_, .int .i64 u.life, .int .i64 u.load, .int .i64 u.task, .int .i64 u.goal] 44))) := (Below.refl _ _).alloc (Nat.le_refl _) _
  obtain ⟨bu, hbu⟩ : ∃ z, w0.heap.size = z := ⟨_, rfl⟩
  have U1 : Hid (Unc (w0.alloc (Obj.cells #[.int .i64 u.id, .int .i64 u.player, .int .i64 u.kind, .int .i64 u.at_, .int .i64 u.life, .int .i64 u.load, .int .i64 u.task, .int .i64 u.goal] 44)) ⟨bu, 0, none⟩ u) := Unc.mk' u hbu
  rw [hbu]
  generalize (w0.alloc (Obj.cells #[.int .i64 u.id, .int .i64 u.player, .int .i64 u.kind, .int .i64 u.at_, .int .i64 u.life, .int .i64 u.load, .int .i64 u.task, .int .i64 u.goal] 44)) = w1 at *
  have B1 : Hid (Below w.heap.size w w1) := B0.out.trans (BA.out.mono B0.out.size)
  have X1 : Hid (Bw w1 w.heap.size X (.slice p1 X.gs.length q1) (.slice p2 X.os.length q2) (.slice p3 X.gold.length q3) (.slice (some xu) X.us.length q4) (.slice p5 X.qs.length q5)) := X0.out.below BA.out X0.out.lt
  clear y0 y1 y2 y3 y4 y5 y6 y7 x7 hbu BA B0 X0
  go_wp2
  go_loopw [8, 9, 10] (fun v8 v9 v10 V => ∃ (n : Nat) (best far : Int), v8 = .int .i64 best ∧ v9 = .int .i64 far ∧ v10 = .int .i64 (n : Nat) ∧ n ≤ X.us.length ∧ RBest Wn u k.n2 X.us n best far ∧ (k.n1 = 0 → best = -1) ∧ Below w1.heap.size w1 V) (fun _ _ v10 _ => X.us.length - (intOf v10).toNat)
  case atStart => exact ⟨0, -1, 0, rfl, rfl, rfl, Nat.zero_le _, RBest.start _ _ _ _ _, fun _ => rfl, Below.refl _ _⟩
  case round =>
    obtain ⟨n, best, far, rfl, rfl, rfl, hn, hR, hz, hB⟩ := hrel
    have RB : Hid (RBest Wn u k.n2 X.us n best far) := hR
    have ZB : Hid (k.n1 = 0 → best = -1) := hz
    have BR : Hid (Below w1.heap.size w1 wr) := hB
    have BB : Hid (Below w.heap.size w wr) := B1.out.trans (hB.mono B1.out.size)
    have XR : Hid (Bw wr w.heap.size X (.slice p1 X.gs.length q1) (.slice p2 X.os.length q2) (.slice p3 X.gold.length q3) (.slice (some xu) X.us.length q4) (.slice p5 X.qs.length q5)) := X1.out.below hB X1.out.lt
    have UR : Hid (Unc wr ⟨bu, 0, none⟩ u) := U1.out.below hB U1.out.lt
    clear hR hB hz
    have x7 := XR.out.c7
    have z2 := (KK.out.1.below BB.out KK.out.2).c2
    have u2 : wr.cell? ⟨bu, 2, none⟩ = some (.int .i64 (kn : Nat)) := by have := UR.out.c2; rw [Nat.zero_add, GD.out.2.2.2.2] at this; exact this
    by_cases h0 : n = X.us.length
    · have DN : Hid (best = tgt Wn u k X.us) := by
        by_cases hz : k.n1 = 0
        · exact (ZB.out hz).trans (tgt_none hz).symm
        · have := RB.out; rw [h0] at this; exact this.done WR.out hz
      subst h0
      clear RB ZB
      have hnl : ¬ (((X.us.length : Nat) : Int) < (X.us.length : Nat)) := by omega
      go_wp2
      go_ret
      exact ⟨by rw [DN.out]; rfl, BB.out⟩
    have hnl : n < X.us.length := by omega
    have hni : ((n : Nat) : Int) < (X.us.length : Nat) := by omega
    by_cases hz : k.n1 = 0
    · have DN : Hid (best = tgt Wn u k X.us) := (ZB.out hz).trans (tgt_none hz).symm
      clear RB ZB
      rw [hz] at z2
      go_wp2
      go_ret
      exact ⟨by rw [DN.out]; rfl, BB.out⟩
    have NZ : Hid (k.n1 ≠ 0) := hz
    have hpos : 0 < k.n1 := by have := KF.out; omega
    obtain ⟨x, hx⟩ : ∃ x, X.us[n]? = some x := ⟨_, List.getElem?_eq_getElem hnl⟩
    have HX : Hid (X.us[n]? = some x) := hx
    obtain ⟨cn, hcn, hcl, -⟩ := AT.out x (List.mem_of_getElem? hx)
    have CN : Hid (x.at_ = (cn : Nat) ∧ cn < Wn * Hn) := ⟨hcn, hcl⟩
    obtain ⟨f, hf⟩ : ∃ f, farN Wn an cn = f := ⟨_, rfl⟩
    have FF : Hid (farN Wn an cn = f) := hf
    have FU : Hid (farU Wn u x = f) := by unfold Hid farU; rw [GD.out.2.2.1, hcn]; exact hf
    have WN : IntKind.i64.wrap ((n : Nat) + 1 : Int) = ((n : Nat) : Int) + 1 := by rw [IntKind.wrap_i64]; omega
    obtain ⟨y0, y1, y2, y3, y4, y5, y6, y7⟩ := (UC.out n x hx).below BB.out (by rw [add_block]; exact UL.out)
    clear hx hcn hcl hf hz ZB
    go_upto_region 8 with fail
    have BA : Hid (Below wr.heap.size wr (wr.alloc (Obj.cells #[.int .i64 x.id, .int .i64 x.player, .int .i64 x.kind, .int .i64 x.at_, .int .i64 x.life, .int .i64 x.load, .int .i64 x.task, .int .i64 x.goal] 44))) := (Below.refl _ _).alloc (Nat.le_refl _) _
    obtain ⟨bx, hbx⟩ : ∃ z, wr.heap.size = z := ⟨_, rfl⟩
    have Q2 : Hid (Unc (wr.alloc (Obj.cells #[.int .i64 x.id, .int .i64 x.player, .int .i64 x.kind, .int .i64 x.at_, .int .i64 x.life, .int .i64 x.load, .int .i64 x.task, .int .i64 x.goal] 44)) ⟨bx, 0, none⟩ x) := Unc.mk' x hbx
    rw [hbx]
    generalize (wr.alloc (Obj.cells #[.int .i64 x.id, .int .i64 x.player, .int .i64 x.kind, .int .i64 x.at_, .int .i64 x.life, .int .i64 x.load, .int .i64 x.task, .int .i64 x.goal] 44)) = w2 at *
    have B2 : Hid (Below w.heap.size w w2) := BB.out.trans (BA.out.mono BB.out.size)
    have R2 : Hid (Below w1.heap.size w1 w2) := BR.out.trans (BA.out.mono BR.out.size)
    have U2 : Hid (Unc w2 ⟨bu, 0, none⟩ u) := UR.out.below BA.out UR.out.lt
    have X2 : Hid (Bw w2 w.heap.size X (.slice p1 X.gs.length q1) (.slice p2 X.os.length q2) (.slice p3 X.gold.length q3) (.slice (some xu) X.us.length q4) (.slice p5 X.qs.length q5)) := XR.out.below BA.out XR.out.lt
    clear y0 y1 y2 y3 y4 y5 y6 y7 x7 z2 u2 hbx BA BR BB UR XR
    have a3 : w2.cell? ⟨bx, 3, none⟩ = some (.int .i64 (cn : Nat)) := by have := Q2.out.c3; rw [Nat.zero_add, CN.out.1] at this; exact this
    have u3 : w2.cell? ⟨bu, 3, none⟩ = some (.int .i64 (an : Nat)) := by have := U2.out.c3; rw [Nat.zero_add, GD.out.2.2.1] at this; exact this
    obtain ⟨-, -, f2, f3, f4, f5, -, -, -⟩ := X2.out
    have FL : Hid (Fl w2 (.agg #[.int .i64 X.wide, .int .i64 X.high, .slice p1 X.gs.length q1, .slice p2 X.os.length q2]) Wn Hn X.gs X.os) := by
      have := fl_of (H.out.below B2.out)
      rw [GD.out.1, GD.out.2.1] at this ⊢
      exact this
    go_wp2_with fail
    refine (rapart_any _ Wn Hn X.gs X.os an cn w2 FL.out GG.out.w1 GG.out.w2 GG.out.h2 GD.out.2.2.2.1 CN.out.2).mono ?_
    rintro e w3 ⟨rfl, hb⟩
    rw [FF.out]
    have B3 : Hid (Below w.heap.size w w3) := B2.out.trans (hb.mono B2.out.size)
    have R3 : Hid (Below w1.heap.size w1 w3) := R2.out.trans (hb.mono R2.out.size)
    have U3 : Hid (Unc w3 ⟨bu, 0, none⟩ u) := U2.out.below hb U2.out.lt
    have Q3 : Hid (Unc w3 ⟨bx, 0, none⟩ x) := Q2.out.below hb Q2.out.lt
    have X3 : Hid (Bw w3 w.heap.size X (.slice p1 X.gs.length q1) (.slice p2 X.os.length q2) (.slice p3 X.gold.length q3) (.slice (some xu) X.us.length q4) (.slice p5 X.qs.length q5)) := X2.out.below hb X2.out.lt
    clear hb a3 u3 f2 f3 f4 f5 B2 R2 U2 Q2 X2 FL
    have z3 := (KK.out.1.below B3.out KK.out.2).c3
    have u2 : w3.cell? ⟨bu, 2, none⟩ = some (.int .i64 (kn : Nat)) := by have := U3.out.c2; rw [Nat.zero_add, GD.out.2.2.2.2] at this; exact this
    have u1 : w3.cell? ⟨bu, 1, none⟩ = some (.int .i64 u.player) := by have := U3.out.c1; rw [Nat.zero_add] at this; exact this
    have a1 : w3.cell? ⟨bx, 1, none⟩ = some (.int .i64 x.player) := by have := Q3.out.c1; rw [Nat.zero_add] at this; exact this
    have a4 : w3.cell? ⟨bx, 4, none⟩ = some (.int .i64 x.life) := by have := Q3.out.c4; rw [Nat.zero_add] at this; exact this
    have x7 := X3.out.c7
    have BE : Hid (Below w1.heap.size w1 w3) := R3.out
    have SF : Hid (safeU Wn u k.n2 x = true ↔ x.player = u.player ∨ k.n2 < f) := by have := safe_iff (W := Wn) (u := u) (y := x) (rng := k.n2); rw [FU.out] at this; exact this
    obtain ⟨px, hpx⟩ : ∃ p, x.player = p := ⟨_, rfl⟩
    obtain ⟨pu, hpu⟩ : ∃ p, u.player = p := ⟨_, rfl⟩
    rw [hpx, hpu] at SF
    rw [hpx] at a1
    rw [hpu] at u1
    clear hpx hpu
    by_cases hp : px = pu
    · have NX : Hid (RBest Wn u k.n2 X.us (n + 1) best far) := RB.out.safe HX.out (SF.out.2 (.inl hp))
      subst hp
      clear RB SF
      go_wp2
      go_round
      case rel => exact ⟨n + 1, best, far, rfl, rfl, by go_num, by omega, NX.out, fun h => absurd h NZ.out, ⟨BE.out.os, BE.out.tape, BE.out.output, BE.out.size, BE.out.block⟩⟩
      case measure => simp [intOf]; omega
    have hp' : (px == pu) = false := by rw [beq_eq_false_iff_ne]; exact hp
    by_cases hfr : k.n2 < f
    · have NX : Hid (RBest Wn u k.n2 X.us (n + 1) best far) := RB.out.safe HX.out (SF.out.2 (.inr hfr))
      clear RB SF
      go_wp2
      go_round
      case rel => exact ⟨n + 1, best, far, rfl, rfl, by go_num, by omega, NX.out, fun h => absurd h NZ.out, ⟨BE.out.os, BE.out.tape, BE.out.output, BE.out.size, BE.out.block⟩⟩
      case measure => simp [intOf]; omega
    have NS : Hid (safeU Wn u k.n2 x = false) := by
      unfold Hid
      rw [Bool.eq_false_iff]
      intro h
      rcases SF.out.1 h with h | h
      · exact hp h
      · exact hfr h
    clear SF
    rcases RB.out.who hn with rfl | ⟨b, y, rfl, hbl, hby, hfy⟩
    · have NX : Hid (RBest Wn u k.n2 X.us (n + 1) (n : Nat) f) := by have := RB.out.first HX.out NS.out; rw [FU.out] at this; exact this
      clear RB
      go_upto_region 10 with fail
      go_quiet (fail)
      go_wp2
      go_round
      case rel => exact ⟨n + 1, (n : Nat), f, rfl, rfl, by go_num, by omega, NX.out, fun h => absurd h NZ.out, ⟨BE.out.os, BE.out.tape, BE.out.output, BE.out.size, BE.out.block⟩⟩
      case measure => simp [intOf]; omega
    have KY : Hid (keyU Wn u x < keyU Wn u y ↔ f < far ∨ (f = far ∧ x.life < y.life)) := by
      have := key_lt (W := Wn) (u := u) (FT.out y (List.mem_of_getElem? hby)).2 (FT.out x (List.mem_of_getElem? HX.out)).2
      rw [FU.out, ← hfy] at this
      exact this
    have NY : Hid (f < far ∨ (f = far ∧ x.life < y.life) → RBest Wn u k.n2 X.us (n + 1) (n : Nat) f) := fun h => by have := RB.out.nearer hby HX.out NS.out (KY.out.2 h); rw [FU.out] at this; exact this
    have NK : Hid (¬ (f < far ∨ (f = far ∧ x.life < y.life)) → RBest Wn u k.n2 X.us (n + 1) (b : Nat) far) := fun h => RB.out.keeps hby HX.out NS.out (fun h' => h (KY.out.1 h'))
    have c4 := ((UC.out b y hby).below B3.out (by rw [add_block]; exact UL.out)).c4
    have hbi : ((b : Nat) : Int) < (X.us.length : Nat) := by omega
    have hb1 : decide (((b : Nat) : Int) < 0) = false := decide_eq_false (by omega)
    obtain ⟨lx, hlx⟩ : ∃ l, x.life = l := ⟨_, rfl⟩
    obtain ⟨ly, hly⟩ : ∃ l, y.life = l := ⟨_, rfl⟩
    rw [hlx, hly] at NY NK
    rw [hlx] at a4
    rw [hly] at c4
    clear RB KY hfy hby hlx hly
    by_cases h1 : f < far
    · have hd : decide (f < far) = true := decide_eq_true h1
      have NX : Hid (RBest Wn u k.n2 X.us (n + 1) (n : Nat) f) := NY.out (.inl h1)
      clear NY NK c4 a4 h1
      go_upto_region 10 with fail
      go_quiet (fail)
      go_wp2
      go_round
      case rel => exact ⟨n + 1, (n : Nat), f, rfl, rfl, by go_num, by omega, NX.out, fun h => absurd h NZ.out, ⟨BE.out.os, BE.out.tape, BE.out.output, BE.out.size, BE.out.block⟩⟩
      case measure => simp [intOf]; omega
    by_cases h2 : f = far
    · subst h2
      have h2' : (f == f) = true := beq_self_eq_true f
      by_cases h3 : lx < ly
      · go_upto_region 10 with fail
        go_quiet (fail)
        go_wp2
        go_round
        case rel => exact ⟨n + 1, (n : Nat), f, rfl, rfl, by go_num, by omega, NY.out (.inr ⟨by trivial, h3⟩), fun h => absurd h NZ.out, ⟨BE.out.os, BE.out.tape, BE.out.output, BE.out.size, BE.out.block⟩⟩
        case measure => simp [intOf]; omega
      · go_upto_region 10 with fail
        go_quiet (fail)
        go_wp2
        go_round
        case rel => exact ⟨n + 1, (b : Nat), f, rfl, rfl, by go_num, by omega, NK.out (by omega), fun h => absurd h NZ.out, ⟨BE.out.os, BE.out.tape, BE.out.output, BE.out.size, BE.out.block⟩⟩
        case measure => simp [intOf]; omega
    have h2' : (f == far) = false := by rw [beq_eq_false_iff_ne]; exact h2
    have hd : decide (f < far) = false := decide_eq_false h1
    have NX : Hid (RBest Wn u k.n2 X.us (n + 1) (b : Nat) far) := NK.out (by omega)
    clear NY NK c4 a4 h1 h2
    go_upto_region 10 with fail
    go_quiet (fail)
    go_wp2
    go_round
    case rel => exact ⟨n + 1, (b : Nat), far, rfl, rfl, by go_num, by omega, NX.out, fun h => absurd h NZ.out, ⟨BE.out.os, BE.out.tape, BE.out.output, BE.out.size, BE.out.block⟩⟩
    case measure => simp [intOf]; omega
end Go.Proofs.YteieikgkmfglaaaGreatDoor

namespace Go.Proofs.YteieikgkmfglaaaGreatDoor
open Go.RowKit
set_option linter.unusedVariables false

theorem tgtOf_some {ks : List KV} {W : Nat} {us : List UnV} {u : UnV} {k : KV} (hk : ks[u.kind.toNat]? = some k) : tgtOf ks W us u = tgt W u k us := by
  unfold tgtOf; rw [hk]
theorem hitOf_some {ks : List KV} {u : UnV} {k : KV} (hk : ks[u.kind.toNat]? = some k) : hitOf ks u = k.n1 := by
  unfold hitOf; rw [hk]

set_option maxRecDepth 100000 in
set_option maxHeartbeats 16000000 in
theorem strike_some (vk : Value) (ks : List KV) (X : WV) (us : List UnV) (g1 g2 g3 g5 : Value) (g cap Wn : Nat) (rest : List Value) (w : World) (hX : WRight ks X) (hus : X.us = us) (hW : X.wide = (Wn : Nat)) (h1 : 0 < Wn) (h2 : Wn ≤ 12) (hne : us ≠ [])
    (hk : Kl w vk ks) (hw : Wl w (.agg #[.int .i64 X.turn, .int .i64 X.next, .int .i64 X.wide, .int .i64 X.high, g1, g2, g3, .slice (some ⟨g, 0, none⟩) us.length cap, g5]) X) (hub : Ub w g us rest) :
    Calls Tryz.prog 77 #[vk, .agg #[.int .i64 X.turn, .int .i64 X.next, .int .i64 X.wide, .int .i64 X.high, g1, g2, g3, .slice (some ⟨g, 0, none⟩) us.length cap, g5]] w fun e w' => ∃ ev, e = .returned ev ∧ Evo w' w.heap.size ev (strikes ks Wn us us).2 ∧ Ub w' g (hurt us (strikes ks Wn us us).1) rest ∧ Kp g w w' := by
  obtain ⟨xu, hxu⟩ : ∃ x : Addr, (⟨g, 0, none⟩ : Addr) = x := ⟨_, rfl⟩
  have HXU : Hid ((⟨g, 0, none⟩ : Addr) = xu) := hxu
  have HUB : Hid (Ub w g us rest) := hub
  have K : Hid (Kl w vk ks) := hk
  have R : Hid (WRight ks X ∧ X.us = us ∧ X.wide = (Wn : Nat) ∧ 0 < Wn ∧ Wn ≤ 12 ∧ us ≠ []) := ⟨hX, hus, hW, h1, h2, hne⟩
  have FT : Hid (∀ h ∈ us, InF h ∧ 0 ≤ h.life ∧ h.life ≤ 1000000) := by rw [← hus]; exact right_fit hX
  have hul : us.length ≤ 40 := by rw [← hus]; exact hX.ul
  have UC : Hid (∀ (i : Nat) k, us[i]? = some k → Unc w (xu.add (i * 8)) k) := fun i k hi => by
    rw [← hxu, Addr.add_lit, Nat.zero_add]
    exact hub.unc hi
  have UL : Hid (xu.block < w.heap.size ∧ g < w.heap.size) := ⟨by rw [← hxu]; exact hub.lt, hub.lt⟩
  have hcap : us.length ≤ cap ∧ cap ≤ 9223372036854775807 := by
    obtain ⟨a, c, he, h1, h2, -⟩ := hw.slices.2.2.2.1
    injection he with _ _ he
    subst he
    rw [hus] at h1
    exact ⟨h1, h2⟩
  obtain ⟨hcap1, hcap2⟩ := hcap
  have hlen : 0 < us.length := List.length_pos_iff.2 hne
  have HL : Hid (0 < us.length) := hlen
  rw [hxu] at hw ⊢
  have H : Hid (Wl w (.agg #[.int .i64 X.turn, .int .i64 X.next, .int .i64 X.wide, .int .i64 X.high, g1, g2, g3, .slice (some xu) us.length cap, g5]) X) := hw
  obtain ⟨pk, qk, rfl, ck1, ck2, kc⟩ := hk
  have hkn0 : ks ≠ [] := by
    intro h
    obtain ⟨u, hu⟩ : ∃ u, us[0]? = some u := ⟨_, List.getElem?_eq_getElem hlen⟩
    rw [← hus] at hu
    obtain ⟨k, f⟩ := hX.fine hu
    have := f.kk
    rw [h] at this
    simp at this
  obtain ⟨xk, rfl, hxl, hxc⟩ := kc hkn0
  have KC : Hid ((∀ (i : Nat) k, ks[i]? = some k → Kc w (xk.add (i * 11)) k) ∧ xk.block < w.heap.size) := ⟨hxc, hxl⟩
  clear hub hX hus hW h1 h2 hne hw kc hkn0 hxc hxl hxu hlen
  go_enter Tryz.func77, Tryz.ntmps77
  go_upto_region 2 with fail
  have B0 : Hid (Below w.heap.size w (w.alloc (Obj.cells #[.int .i64 X.turn, .int .i64 X.next, .int .i64 X.wide, .int .i64 X.high, g1, g2, g3, .slice (some xu) us.length cap, g5] 29))) := (Below.refl _ _).alloc (Nat.le_refl _) _
  have X0 : Hid (Bw (w.alloc (Obj.cells #[.int .i64 X.turn, .int .i64 X.next, .int .i64 X.wide, .int .i64 X.high, g1, g2, g3, .slice (some xu) us.length cap, g5] 29)) w.heap.size X g1 g2 g3 (.slice (some xu) us.length cap) g5) := Bw.mk' X _ _ _ _ _ rfl
  generalize (w.alloc (Obj.cells #[.int .i64 X.turn, .int .i64 X.next, .int .i64 X.wide, .int .i64 X.high, g1, g2, g3, .slice (some xu) us.length cap, g5] 29)) = w0 at *
  have x7 := X0.out.c7
  obtain ⟨w1, hmk, hbk, hb1, hs1⟩ := makeI us.length w0 (by omega)
  go_upto_region 3 with fail
  have BK : Hid (Bk w1 w0.heap.size (List.replicate us.length 0) #[]) := hbk
  have B1 : Hid (Below w.heap.size w w1) := B0.out.trans (hb1.mono B0.out.size)
  have X1 : Hid (Bw w1 w.heap.size X g1 g2 g3 (.slice (some xu) us.length cap) g5) := X0.out.below hb1 X0.out.lt
  obtain ⟨lb, hlb⟩ : ∃ z, w0.heap.size = z := ⟨_, rfl⟩
  have LBG : Hid (w.heap.size < lb ∧ w1.heap.size = lb + 1) := ⟨by rw [← hlb]; exact X0.out.lt, by rw [← hlb]; exact hs1⟩
  rw [hlb] at BK ⊢
  clear hmk hbk hb1 hs1 x7 hlb B0 X0
  have x7 := X1.out.c7
  go_upto_region 4 with fail
  clear x7
  go_loopw [5, 19] (fun v5 v19 V => ∃ (n : Nat) (ev : Value), v19 = .int .i64 (n : Nat) ∧ ev = v5 ∧ n ≤ us.length ∧ Bk V lb (strikes ks Wn us (us.take n)).1 #[] ∧ Evo V w1.heap.size ev (strikes ks Wn us (us.take n)).2 ∧ (strikes ks Wn us (us.take n)).2.length ≤ n ∧ Kp lb w1 V) (fun _ v19 _ => us.length - (intOf v19).toNat)
  case atStart => exact ⟨0, _, rfl, rfl, Nat.zero_le _, BK.out, Evo.nil _ _, Nat.le_refl _, Kp.refl _ _⟩
  case round =>
    obtain ⟨n, ev, rfl, rfl, hn, hbk, hev, hel, hkp⟩ := hrel
    have L1 : Hid (Bk wr lb (strikes ks Wn us (us.take n)).1 #[]) := hbk
    have E1 : Hid (Evo wr w1.heap.size ev (strikes ks Wn us (us.take n)).2 ∧ (strikes ks Wn us (us.take n)).2.length ≤ n) := ⟨hev, hel⟩
    have KP : Hid (Kp lb w1 wr) := hkp
    have BL : Hid (Below lb w1 wr) := hkp.below (Below.refl _ _) (by have := LBG.out.2; omega) (Nat.le_refl _)
    have BB : Hid (Below w.heap.size w wr) := B1.out.trans (BL.out.mono (by have := LBG.out.1; omega))
    have XR : Hid (Bw wr w.heap.size X g1 g2 g3 (.slice (some xu) us.length cap) g5) := X1.out.below BL.out LBG.out.1
    clear hbk hev hel hkp BK
    by_cases h0 : n = us.length
    · subst h0
      have hx9 := HXU.out
      subst hx9
      have hnl : ¬ (((us.length : Nat) : Int) < (us.length : Nat)) := by omega
      rw [List.take_of_length_le (Nat.le_refl _)] at L1 E1
      obtain ⟨ls, hls⟩ : ∃ l, (strikes ks Wn us us).1 = l := ⟨_, rfl⟩
      obtain ⟨es, hes⟩ : ∃ l, (strikes ks Wn us us).2 = l := ⟨_, rfl⟩
      have LS : Hid (ls.length = us.length ∧ Upto 40000 ls ∧ (strikes ks Wn us us).1 = ls ∧ (strikes ks Wn us us).2 = es) := ⟨by rw [← hls]; exact strikes_len', by
        have := strikes_upto (W := Wn) (us := us) R.out.1.kinds us.length (Nat.le_refl _)
        rw [List.take_of_length_le (Nat.le_refl _), hls] at this
        intro x hx
        have := this x hx
        omega, hls, hes⟩
      rw [hls] at L1
      rw [hes] at E1
      generalize wr = w2 at *
      have UB : Hid (Ub w2 g us rest) := HUB.out.below BB.out HUB.out.lt
      have NG : Hid (g < w.heap.size ∧ w.heap.size < lb) := ⟨UL.out.2, LBG.out.1⟩
      clear hls hes hnl
      go_upto_region 12 with fail
      go_loopw [56] (fun v56 V => ∃ (n : Nat), v56 = .int .i64 (n : Nat) ∧ n ≤ us.length ∧ Ub V g (hurtN us ls n) rest ∧ Kp g w2 V) (fun v56 _ => us.length - (intOf v56).toNat)
      case atStart => exact ⟨0, rfl, Nat.zero_le _, by rw [hurtN_zero]; exact UB.out, Kp.refl _ _⟩
      case round =>
        obtain ⟨n, rfl, hn, hub, hkp⟩ := hrel
        have U2 : Hid (Ub wr g (hurtN us ls n) rest) := hub
        have P2 : Hid (Kp g w2 wr) := hkp
        have L2 : Hid (Bk wr lb ls #[]) := L1.out.kp hkp (by have := NG.out; omega)
        have X2 : Hid (Bw wr w.heap.size X g1 g2 g3 (.slice (some ⟨g, 0, none⟩) us.length cap) g5) := XR.out.kp9 hkp (by have := NG.out; omega)
        clear hub hkp
        by_cases h0 : n = us.length
        · subst h0
          have hnl : ¬ (((us.length : Nat) : Int) < (us.length : Nat)) := by omega
          go_wp2
          go_ret
          refine ⟨ev, rfl, ?_, ?_, ?_⟩
          · rw [LS.out.2.2.2]
            exact (E1.out.1.kp9 P2.out (by have := NG.out; have := LBG.out.2; omega)).mono (by have := LBG.out; omega)
          · have := U2.out
            rw [hurtN_all LS.out.1] at this
            rw [LS.out.2.2.1]
            exact this
          · exact (Kp.of BB.out).trans P2.out
        · have hnl : n < us.length := by omega
          have hni : ((n : Nat) : Int) < (us.length : Nat) := by omega
          obtain ⟨u, hu⟩ : ∃ u, us[n]? = some u := ⟨_, List.getElem?_eq_getElem hnl⟩
          obtain ⟨x, hx⟩ : ∃ x, ls[n]? = some x := ⟨_, List.getElem?_eq_getElem (by rw [LS.out.1]; exact hnl)⟩
          have xb := LS.out.2.1 x (List.mem_of_getElem? hx)
          have ub := (FT.out u (List.mem_of_getElem? hu)).2
          have wsub : IntKind.i64.wrap (u.life - x) = u.life - x := by rw [IntKind.wrap_i64]; omega
          have WN : IntKind.i64.wrap ((n : Nat) + 1 : Int) = ((n : Nat) : Int) + 1 := by rw [IntKind.wrap_i64]; omega
          have cl := L2.out.cell hx
          have x7 := X2.out.c7
          have c4 := (U2.out.unc (hurtN_at LS.out.1 hu)).c4
          have t4 := U2.out.thaw (n * 8 + 4)
          have U3 : Hid (Ub (wr.setCell ⟨g, n * 8 + 4, none⟩ (.int .i64 (u.life - x))) g (hurtN us ls (n + 1)) rest) := by
            unfold Hid
            rw [← hurtN_next LS.out.1 hu hx]
            exact U2.out.set4 (hurtN_at LS.out.1 hu) _
          have P3 : Hid (Kp g w2 (wr.setCell ⟨g, n * 8 + 4, none⟩ (.int .i64 (u.life - x)))) := P2.out.trans (Kp.set _ _ _)
          clear xb ub hu hx
          go_wp2
          go_round
          case rel => exact ⟨n + 1, by go_num, by omega, U3.out, P3.out⟩
          case measure => simp [intOf]; omega
    · have hnl : n < us.length := by omega
      have hni : ((n : Nat) : Int) < (us.length : Nat) := by omega
      obtain ⟨u, hu⟩ : ∃ u, us[n]? = some u := ⟨_, List.getElem?_eq_getElem hnl⟩
      obtain ⟨k, fu⟩ := R.out.1.fine (show X.us[n]? = some u by rw [R.out.2.1]; exact hu)
      obtain ⟨kn, hkn⟩ : ∃ n : Nat, u.kind = n := ⟨u.kind.toNat, by have := fu.k0.1; omega⟩
      have hkk : ks[kn]? = some k := by have := fu.kk; rw [hkn, Int.toNat_natCast] at this; exact this
      have hkl : kn < ks.length := (List.getElem?_eq_some_iff.1 hkk).1
      have UK : Hid (us[n]? = some u ∧ u.kind = (kn : Nat) ∧ ks[u.kind.toNat]? = some k ∧ 0 ≤ u.kind) := ⟨hu, hkn, fu.kk, fu.k0.1⟩
      have KK : Hid (Kc w (xk.add (kn * 11)) k ∧ (xk.add (kn * 11)).block < w.heap.size) := ⟨KC.out.1 kn k hkk, by rw [add_block]; exact KC.out.2⟩
      have NX := strikes_next (ks := ks) (W := Wn) (us := us) hu
      have WN : IntKind.i64.wrap ((n : Nat) + 1 : Int) = ((n : Nat) : Int) + 1 := by rw [IntKind.wrap_i64]; omega
      obtain ⟨y0, y1, y2, y3, y4, y5, y6, y7⟩ := (UC.out n u hu).below BB.out (by rw [add_block]; exact UL.out.1)
      clear hu fu hkn hkk
      have NXH : Hid (strikes ks Wn us (us.take (n + 1)) = stk ks Wn us (strikes ks Wn us (us.take n)) u) := NX
      clear NX
      go_upto_region 6 with fail
      have BA : Hid (Below wr.heap.size wr (wr.alloc (Obj.cells #[.int .i64 u.id, .int .i64 u.player, .int .i64 u.kind, .int .i64 u.at_, .int .i64 u.life, .int .i64 u.load, .int .i64 u.task, .int .i64 u.goal] 44))) := (Below.refl _ _).alloc (Nat.le_refl _) _
      obtain ⟨bu, hbu⟩ : ∃ z, wr.heap.size = z := ⟨_, rfl⟩
      have U2 : Hid (Unc (wr.alloc (Obj.cells #[.int .i64 u.id, .int .i64 u.player, .int .i64 u.kind, .int .i64 u.at_, .int .i64 u.life, .int .i64 u.load, .int .i64 u.task, .int .i64 u.goal] 44)) ⟨bu, 0, none⟩ u) := Unc.mk' u hbu
      have VB : Hid (∀ b, ev.ownBlock = some b → b < bu) := fun b hb => by rw [← hbu]; exact (E1.out.1.block b hb).2
      have BUL : Hid (w1.heap.size ≤ bu) := by unfold Hid; rw [← hbu]; exact KP.out.size
      rw [hbu]
      generalize (wr.alloc (Obj.cells #[.int .i64 u.id, .int .i64 u.player, .int .i64 u.kind, .int .i64 u.at_, .int .i64 u.life, .int .i64 u.load, .int .i64 u.task, .int .i64 u.goal] 44)) = w2 at *
      have B2 : Hid (Below w.heap.size w w2) := BB.out.trans (BA.out.mono BB.out.size)
      have L2 : Hid (Bk w2 lb (strikes ks Wn us (us.take n)).1 #[]) := L1.out.below BA.out
      have E2 : Hid (Evo w2 w1.heap.size ev (strikes ks Wn us (us.take n)).2) := E1.out.1.below BA.out
      have P2 : Hid (Kp lb w1 w2) := KP.out.trans (Kp.of BA.out)
      have X2 : Hid (Bw w2 w.heap.size X g1 g2 g3 (.slice (some xu) us.length cap) g5) := XR.out.below BA.out XR.out.lt
      clear y0 y1 y2 y3 y4 y5 y6 y7 hbu BA BB L1 KP XR BL
      obtain ⟨x0, x1, x2, x3, x4, x5, x6, x7, x8⟩ := X2.out
      obtain ⟨y0, y1, y2, y3, y4, y5, y6, y7⟩ := U2.out
      go_wp2_with fail
      refine (target_any _ _ ks X u Wn k w2 (K.out.below B2.out) (H.out.below B2.out) R.out.2.2.1 R.out.2.2.2.1 R.out.2.2.2.2.1 (by rw [R.out.2.1]; omega) (FT.out u (List.mem_of_getElem? UK.out.1)).1 UK.out.2.2.2 UK.out.2.2.1 (by rw [R.out.2.1]; exact FT.out)).mono ?_
      rintro e w3 ⟨t, rfl, ht, hb⟩
      have TQ : Hid (t = tgtOf ks Wn us u) := by unfold Hid; rw [tgtOf_some UK.out.2.2.1]; rw [R.out.2.1] at ht; exact tg_eq ht
      have TW := tg_who R.out.1 ht
      rw [R.out.2.1] at TW
      have B3 : Hid (Below w.heap.size w w3) := B2.out.trans (hb.mono B2.out.size)
      have L3 : Hid (Bk w3 lb (strikes ks Wn us (us.take n)).1 #[]) := L2.out.below hb
      have E3 : Hid (Evo w3 w1.heap.size ev (strikes ks Wn us (us.take n)).2) := E2.out.below hb
      have P3 : Hid (Kp lb w1 w3) := P2.out.trans (Kp.of hb)
      have X3 : Hid (Bw w3 w.heap.size X g1 g2 g3 (.slice (some xu) us.length cap) g5) := X2.out.below hb X2.out.lt
      have U3 : Hid (Unc w3 ⟨bu, 0, none⟩ u) := U2.out.below hb U2.out.lt
      clear hb ht x0 x1 x2 x3 x4 x5 x6 x7 x8 y0 y1 y2 y3 y4 y5 y6 y7 B2 L2 E2 P2 X2 U2
      rcases TW with ⟨rfl, -⟩ | ⟨hn1, tn, x, f0, tl, rfl, hx, -, -⟩
      · have SAME : Hid (strikes ks Wn us (us.take (n + 1)) = strikes ks Wn us (us.take n)) := by
          unfold Hid
          rw [NXH.out]
          unfold stk
          rw [← TQ.out, if_pos rfl]
        go_wp2
        go_round
        case rel => exact ⟨n + 1, _, by go_num, rfl, by omega, by rw [SAME.out]; exact L3.out, by rw [SAME.out]; exact E3.out, by rw [SAME.out]; have := E1.out.2; omega, P3.out⟩
        case measure => simp [intOf]; omega
      · have htl : tn < us.length := (List.getElem?_eq_some_iff.1 hx).1
        obtain ⟨ls, hls⟩ : ∃ l, (strikes ks Wn us (us.take n)).1 = l := ⟨_, rfl⟩
        obtain ⟨es, hes⟩ : ∃ l, (strikes ks Wn us (us.take n)).2 = l := ⟨_, rfl⟩
        have hll : ls.length = us.length := by rw [← hls]; exact strikes_len'
        obtain ⟨ln, hln⟩ : ∃ x, ls[tn]? = some x := ⟨_, List.getElem?_eq_getElem (by omega)⟩
        have UPT := strikes_upto (W := Wn) (us := us) R.out.1.kinds n hn
        rw [hls] at UPT
        have lnb := UPT ln (List.mem_of_getElem? hln)
        have hitb := hit_in R.out.1.kinds u
        rw [hitOf_some UK.out.2.2.1] at hitb
        have wadd : IntKind.i64.wrap (ln + k.n1) = ln + k.n1 := by rw [IntKind.wrap_i64]; omega
        have NEW : Hid (strikes ks Wn us (us.take (n + 1)) = (ls.set tn (ln + k.n1), es ++ [⟨2, u.id, x.id⟩])) := by
          unfold Hid
          rw [NXH.out]
          unfold stk
          rw [← TQ.out, if_neg (by omega), Int.toNat_natCast, hitOf_some UK.out.2.2.1, hls, hes, hx, List.getD_eq_getElem?_getD, hln]
          rfl
        rw [hls] at L3
        rw [hes] at E3
        have EL : Hid (es.length ≤ n) := by rw [← hes]; exact E1.out.2
        have htn : ¬ ((tn : Nat) : Int) = -1 := by omega
        have htb : (((tn : Nat) : Int) == -1) = false := by rw [beq_eq_false_iff_ne]; exact htn
        have UT : Hid (Unc w (xu.add (tn * 8)) x ∧ (xu.add (tn * 8)).block < w.heap.size) := ⟨UC.out tn x hx, by rw [add_block]; exact UL.out.1⟩
        have htu : ((tn : Nat) : Int) < (us.length : Nat) := by omega
        have LNB : Hid (ls.length = us.length ∧ ls[tn]? = some ln) := ⟨hll, hln⟩
        clear hx NXH UPT lnb hitb hn1 E1 hls hes hll hln TQ htn
        go_upto_region 8 with fail
        have CB : Hid (∀ V, Below w.heap.size w V → Bk V lb ls #[] → Unc V ⟨bu, 0, none⟩ u → (V.cell? ⟨lb, tn, none⟩ = some (.int .i64 ln) ∧ V.cell? ⟨bu, 2, none⟩ = some (.int .i64 (kn : Nat)) ∧ V.cell? ⟨(xk.add (kn * 11)).block, (xk.add (kn * 11)).off + 2, none⟩ = some (.int .i64 k.n1))) := fun V hb hl hu => ⟨hl.cell LNB.out.2, by have := hu.c2; rw [Nat.zero_add, UK.out.2.1] at this; exact this, (KK.out.1.below hb KK.out.2).c2⟩
        refine wp_region_two [(true, 0), (true, 1), (true, 2), (true, 3), (true, 4), (true, 5), (true, 6), (true, 7), (true, 8), (true, 9), (true, 10), (true, 11)] [(false, 12)] (fun V => V.cell? ⟨lb, tn, none⟩ = some (.int .i64 ln) ∧ V.cell? ⟨bu, 2, none⟩ = some (.int .i64 (kn : Nat)) ∧ V.cell? ⟨(xk.add (kn * 11)).block, (xk.add (kn * 11)).off + 2, none⟩ = some (.int .i64 k.n1)) (by kernel_rfl) (by kernel_rfl) (by kernel_rfl) (by decide +kernel) (by decide +kernel) (CB.out _ B3.out.drew (L3.out.below ((Below.refl _ _).drew)) (U3.out.below ((Below.refl _ _).drew) U3.out.lt)) ?_
        have D4 : Hid (Below w3.heap.size w3 { w3 with drawn := w3.drawn + 1 }) := (Below.refl _ _).drew
        generalize ({ w3 with drawn := w3.drawn + 1 } : World) = w4 at *
        have B4 : Hid (Below w.heap.size w w4) := B3.out.trans (D4.out.mono B3.out.size)
        have L4 : Hid (Bk w4 lb ls #[]) := L3.out.below D4.out
        have E4 : Hid (Evo w4 w1.heap.size ev es) := E3.out.below D4.out
        have P4 : Hid (Kp lb w1 w4) := P3.out.trans (Kp.of D4.out)
        have X4 : Hid (Bw w4 w.heap.size X g1 g2 g3 (.slice (some xu) us.length cap) g5) := X3.out.below D4.out X3.out.lt
        have U4 : Hid (Unc w4 ⟨bu, 0, none⟩ u) := U3.out.below D4.out U3.out.lt
        clear B3 L3 E3 P3 X3 U3 D4
        refine headT_read rfl (.slice (some ⟨lb, 0, none⟩) us.length us.length) (by go_simp) (fun V hV => by go_simp) ?_
        go_simp
        refine headT_read rfl (.int .i64 (tn : Nat)) (by go_simp) (fun V hV => by go_simp) ?_
        go_simp
        refine headT_read rfl (.pointer (some ⟨lb, tn, none⟩)) (by go_simp) (fun V hV => by go_simp) ?_
        go_simp
        refine headT_read rfl (.int .i64 ln) (by go_simp) (fun V hV => by obtain ⟨d1, d2, d3⟩ := hV; go_simp) ?_
        go_simp
        refine headT_read rfl (.slice (some xk) ks.length qk) (by go_simp) (fun V hV => by go_simp) ?_
        go_simp
        refine headT_read rfl (.pointer (some ⟨bu, 2, none⟩)) (by go_simp) (fun V hV => by go_simp) ?_
        go_simp
        refine headT_read rfl (.int .i64 (kn : Nat)) (by go_simp) (fun V hV => by obtain ⟨d1, d2, d3⟩ := hV; go_simp) ?_
        go_simp
        refine headT_read rfl (.pointer (some (xk.add (kn * 11)))) (by go_simp) (fun V hV => by go_simp) ?_
        go_simp
        refine headT_read rfl (.pointer (some ⟨(xk.add (kn * 11)).block, (xk.add (kn * 11)).off + 2, none⟩)) (by go_simp) (fun V hV => by go_simp) ?_
        go_simp
        refine headT_read rfl (.int .i64 k.n1) (by go_simp) (fun V hV => by obtain ⟨d1, d2, d3⟩ := hV; go_simp) ?_
        go_simp
        refine headT_read rfl (.int .i64 (ln + k.n1)) (by go_simp) (fun V hV => by go_simp) ?_
        go_simp
        refine headT_read rfl (.pointer (some ⟨lb, tn, none⟩)) (by go_simp) (fun V hV => by go_simp) ?_
        go_simp
        unfold wpHeadT
        have t4 := L4.out.thaw tn
        have c4 := L4.out.cell LNB.out.2
        have L5 : Hid (Bk (w4.setCell ⟨lb, tn, none⟩ (.int .i64 (ln + k.n1))) lb (ls.set tn (ln + k.n1)) #[]) := L4.out.set tn _ (by rw [LNB.out.1]; omega)
        have K5 : Hid (Kp lb w4 (w4.setCell ⟨lb, tn, none⟩ (.int .i64 (ln + k.n1)))) := Kp.set _ _ _
        refine sched_skip rfl (w4.setCell ⟨lb, tn, none⟩ (.int .i64 (ln + k.n1))) (by go_simp) (by go_simp) trivial ?_
        go_simp
        clear t4 c4
        generalize (w4.setCell ⟨lb, tn, none⟩ (.int .i64 (ln + k.n1))) = w5 at *
        have B5 : Hid (Below w.heap.size w w5) := K5.out.below B4.out B4.out.size (by have := LBG.out.1; omega)
        have E5 : Hid (Evo w5 w1.heap.size ev es) := E4.out.kp9 K5.out (by have := LBG.out.2; omega)
        have P5 : Hid (Kp lb w1 w5) := P4.out.trans K5.out
        have X5 : Hid (Bw w5 w.heap.size X g1 g2 g3 (.slice (some xu) us.length cap) g5) := X4.out.kp9 K5.out (by have := LBG.out.1; omega)
        have U5 : Hid (Unc w5 ⟨bu, 0, none⟩ u) := U4.out.kp9 K5.out (by have := LBG.out.2; have := BUL.out; show bu ≠ lb; omega)
        unfold wpSched
        clear B4 L4 E4 P4 X4 U4 K5 CB
        go_upto_region 9 with fail
        have CB : Hid (∀ V, Below w.heap.size w V → Bw V w.heap.size X g1 g2 g3 (.slice (some xu) us.length cap) g5 → Unc V ⟨bu, 0, none⟩ u → (V.cell? ⟨bu, 0, none⟩ = some (.int .i64 u.id) ∧ V.cell? ⟨w.heap.size, 7, none⟩ = some (.slice (some xu) us.length cap) ∧ V.cell? (xu.add (tn * 8)) = some (.int .i64 x.id))) := fun V hb hx hu => ⟨hu.c0, hx.c7, (UT.out.1.below hb UT.out.2).c0⟩
        refine wp_region_two [(true, 0), (true, 1), (true, 2), (true, 3), (true, 4), (true, 5), (true, 6), (true, 7), (true, 8), (true, 9), (false, 10), (false, 11)] [(false, 12)] (fun V => V.cell? ⟨bu, 0, none⟩ = some (.int .i64 u.id) ∧ V.cell? ⟨w.heap.size, 7, none⟩ = some (.slice (some xu) us.length cap) ∧ V.cell? (xu.add (tn * 8)) = some (.int .i64 x.id)) (by kernel_rfl) (by kernel_rfl) (by kernel_rfl) (by decide +kernel) (by decide +kernel) (CB.out _ B5.out.drew (X5.out.below ((Below.refl _ _).drew) X5.out.lt) (U5.out.below ((Below.refl _ _).drew) U5.out.lt)) ?_
        have D6 : Hid (Below w5.heap.size w5 { w5 with drawn := w5.drawn + 1 }) := (Below.refl _ _).drew
        generalize ({ w5 with drawn := w5.drawn + 1 } : World) = w6 at *
        have B6 : Hid (Below w.heap.size w w6) := B5.out.trans (D6.out.mono B5.out.size)
        have L6 : Hid (Bk w6 lb (ls.set tn (ln + k.n1)) #[]) := L5.out.below D6.out
        have E6 : Hid (Evo w6 w1.heap.size ev es) := E5.out.below D6.out
        have P6 : Hid (Kp lb w1 w6) := P5.out.trans (Kp.of D6.out)
        have X6 : Hid (Bw w6 w.heap.size X g1 g2 g3 (.slice (some xu) us.length cap) g5) := X5.out.below D6.out X5.out.lt
        have U6 : Hid (Unc w6 ⟨bu, 0, none⟩ u) := U5.out.below D6.out U5.out.lt
        clear B5 L5 E5 P5 X5 U5 D6
        refine headT_read rfl (ev) (by go_simp) (fun V hV => by go_simp) ?_
        go_simp
        refine headT_read rfl (.pointer (some ⟨bu, 0, none⟩)) (by go_simp) (fun V hV => by go_simp) ?_
        go_simp
        refine headT_read rfl (.int .i64 u.id) (by go_simp) (fun V hV => by obtain ⟨d1, d2, d3⟩ := hV; go_simp) ?_
        go_simp
        refine headT_read rfl (.pointer (some ⟨w.heap.size, 7, none⟩)) (by go_simp) (fun V hV => by go_simp) ?_
        go_simp
        refine headT_read rfl (.slice (some xu) us.length cap) (by go_simp) (fun V hV => by obtain ⟨d1, d2, d3⟩ := hV; go_simp) ?_
        go_simp
        refine headT_read rfl (.int .i64 (tn : Nat)) (by go_simp) (fun V hV => by go_simp) ?_
        go_simp
        refine headT_read rfl (.pointer (some (xu.add (tn * 8)))) (by go_simp) (fun V hV => by go_simp) ?_
        go_simp
        refine headT_read rfl (.pointer (some (xu.add (tn * 8)))) (by go_simp) (fun V hV => by go_simp) ?_
        go_simp
        refine headT_read rfl (.int .i64 x.id) (by go_simp) (fun V hV => by obtain ⟨d1, d2, d3⟩ := hV; go_simp) ?_
        go_simp
        refine headT_read rfl (.agg #[.int .i64 2, .int .i64 u.id, .int .i64 x.id]) (by go_simp) (fun V hV => by go_simp) ?_
        go_simp
        have BA : Hid (Below w6.heap.size w6 (w6.alloc (Obj.cells #[.int .i64 2, .int .i64 u.id, .int .i64 x.id] 73))) := (Below.refl _ _).alloc (Nat.le_refl _) _
        have EC : Hid (Evc (w6.alloc (Obj.cells #[.int .i64 2, .int .i64 u.id, .int .i64 x.id] 73)) ⟨w6.heap.size, 0, none⟩ ⟨2, u.id, x.id⟩) := Evc.mk' ⟨2, u.id, x.id⟩ rfl
        refine headT_value rfl (.slice (some ⟨w6.heap.size, 0, none⟩) 1 1) (w6.alloc (Obj.cells #[.int .i64 2, .int .i64 u.id, .int .i64 x.id] 73)) (by go_simp) (by go_simp) (CB.out _ (B6.out.trans (BA.out.mono B6.out.size)) (X6.out.below BA.out X6.out.lt) (U6.out.below BA.out U6.out.lt)) ?_
        go_simp
        generalize (w6.alloc (Obj.cells #[.int .i64 2, .int .i64 u.id, .int .i64 x.id] 73)) = w7 at *
        have B7 : Hid (Below w.heap.size w w7) := B6.out.trans (BA.out.mono B6.out.size)
        have L7 : Hid (Bk w7 lb (ls.set tn (ln + k.n1)) #[]) := L6.out.below BA.out
        have E7 : Hid (Evo w7 w1.heap.size ev es) := E6.out.below BA.out
        have P7 : Hid (Kp lb w1 w7) := P6.out.trans (Kp.of BA.out)
        have X7 : Hid (Bw w7 w.heap.size X g1 g2 g3 (.slice (some xu) us.length cap) g5) := X6.out.below BA.out X6.out.lt
        have U7 : Hid (Unc w7 ⟨bu, 0, none⟩ u) := U6.out.below BA.out U6.out.lt
        clear B6 L6 E6 P6 X6 U6 BA
        obtain ⟨gg, gc, w8, hr, ho8, hg8, -, -⟩ := run_ev w7 31 w1.heap.size ev es E7.out _ _ EC.out (by have := EL.out; omega) P7.out.size
        have GB : Hid (∀ b, ev.ownBlock = some b → w1.heap.size ≤ b) := fun b hb => (E7.out.block b hb).1
        have BG : Hid (Below w1.heap.size w7 w8) := (Below.refl _ _).grown hg8 P7.out.size (fun b hb => GB.out b hb)
        have B8 : Hid (Below w.heap.size w w8) := B7.out.trans (BG.out.mono (by have := LBG.out; omega))
        have L8 : Hid (Bk w8 lb (ls.set tn (ln + k.n1)) #[]) := L7.out.low BG.out (by have := LBG.out.2; omega)
        have P8 : Hid (Kp lb w1 w8) := kp_gb P7.out hg8 (fun b hb => GB.out b hb)
        have X8 : Hid (Bw w8 w.heap.size X g1 g2 g3 (.slice (some xu) us.length cap) g5) := X7.out.below BG.out (by have := LBG.out; omega)
        have O8 : Hid (Evo w8 w1.heap.size (.slice (some ⟨gg, 0, none⟩) (es.length + 1) gc) (es ++ [⟨2, u.id, x.id⟩])) := ho8
        have U8 : Hid (Unc w8 ⟨bu, 0, none⟩ u) := U7.out.gb hg8 (fun e => Nat.lt_irrefl _ (VB.out bu e))
        refine headT_value rfl (.slice (some ⟨gg, 0, none⟩) (es.length + 1) gc) w8 (by go_simp) (exec_append _ _ _ _ rfl _ _ (by go_simp) (by go_simp) hr) (CB.out _ B8.out X8.out U8.out) ?_
        clear hr ho8 hg8 B7 L7 E7 P7 X7 U7 BG GB EC
        go_simp
        unfold wpHeadT
        refine sched_value rfl (.slice (some ⟨gg, 0, none⟩) (es.length + 1) gc) w8 (by go_simp) (by go_simp) trivial ?_
        go_simp
        unfold wpSched
        go_wp2
        go_round
        case rel => exact ⟨n + 1, _, by go_num, rfl, by omega, by rw [NEW.out]; exact L8.out, by rw [NEW.out]; exact O8.out, by rw [NEW.out]; have := EL.out; simp; omega, P8.out⟩
        case measure => simp [intOf]; omega
end Go.Proofs.YteieikgkmfglaaaGreatDoor

namespace Go.Proofs.YteieikgkmfglaaaGreatDoor
open Go.RowKit
set_option linter.unusedVariables false

set_option maxRecDepth 100000 in
set_option maxHeartbeats 2000000 in
theorem strike_nil (vk : Value) (t n W H : Int) (g1 g2 g3 g5 : Value) (a : Option Addr) (c : Nat) (w : World) :
    Calls Tryz.prog 77 #[vk, .agg #[.int .i64 t, .int .i64 n, .int .i64 W, .int .i64 H, g1, g2, g3, .slice a 0 c, g5]] w fun e w' => e = .returned (.slice none 0 0) ∧ Below w.heap.size w w' := by
  go_enter Tryz.func77, Tryz.ntmps77
  go_upto_region 2 with fail
  have B0 : Hid (Below w.heap.size w (w.alloc (Obj.cells #[.int .i64 t, .int .i64 n, .int .i64 W, .int .i64 H, g1, g2, g3, .slice a 0 c, g5] 29))) := (Below.refl _ _).alloc (Nat.le_refl _) _
  have x7 : (w.alloc (Obj.cells #[.int .i64 t, .int .i64 n, .int .i64 W, .int .i64 H, g1, g2, g3, .slice a 0 c, g5] 29)).cell? ⟨w.heap.size, 7, none⟩ = some (.slice a 0 c) := by simp
  have xl : w.heap.size < (w.alloc (Obj.cells #[.int .i64 t, .int .i64 n, .int .i64 W, .int .i64 H, g1, g2, g3, .slice a 0 c, g5] 29)).heap.size := by simp
  generalize (w.alloc (Obj.cells #[.int .i64 t, .int .i64 n, .int .i64 W, .int .i64 H, g1, g2, g3, .slice a 0 c, g5] 29)) = w0 at *
  obtain ⟨w1, hmk0, -, hb1, -⟩ := makeI 0 w0 (by omega)
  have hmk : (Instr.makeSlice 23 (.int .i64 0) (.int .i64 0)).run Tryz.prog w0 = .ok (.slice (some ⟨w0.heap.size, 0, none⟩) 0 0) w1 := hmk0
  clear hmk0
  go_upto_region 3 with fail
  have y7 : w1.cell? ⟨w.heap.size, 7, none⟩ = some (.slice a 0 c) := by rw [hb1.cell (p := ⟨w.heap.size, 7, none⟩) xl]; exact x7
  have B1 : Hid (Below w.heap.size w w1) := B0.out.trans (hb1.mono B0.out.size)
  clear hmk x7 xl hb1 B0
  go_wp2
  refine wp_loop_rounds 1 ?_
  rw [rounds_succ]
  go_wp2
  refine wp_loop_rounds 1 ?_
  rw [rounds_succ]
  go_wp2
  go_ret
  exact ⟨rfl, B1.out⟩
end Go.Proofs.YteieikgkmfglaaaGreatDoor

namespace Go.Proofs.YteieikgkmfglaaaGreatDoor
open Go.RowKit
set_option linter.unusedVariables false

def FstJ (p : JbV → Bool) (ks : List JbV) (r : Int) : Prop := (r = -1 ∧ ks.any p = false) ∨ ∃ (k : Nat) (x : JbV), r = k ∧ ks[k]? = some x ∧ p x = true ∧ (ks.take k).any p = false
theorem anyj_next {p : JbV → Bool} {ks : List JbV} {k : Nat} {x : JbV} (h : ks[k]? = some x) : (ks.take (k + 1)).any p = ((ks.take k).any p || p x) := by
  obtain ⟨hi, e⟩ := List.getElem?_eq_some_iff.1 h
  rw [List.take_succ_eq_append_getElem hi, List.any_append, e]
  simp

/-- clear of a slice of jobs. -/
theorem run_clear_jbs (w : World) (g m n c : Nat) (ks : List JbV) (rest : List Value) (hg : Jk w g ks rest) (hn : 0 < n) (hm : m + n = ks.length) :
    ∃ w', (∀ ty, (Builtin.clear_ #[27] ty #[.slice (some ⟨g, m * 4, none⟩) n c]).run Tryz.prog w = .ok (.tuple #[]) w') ∧ Jk w' g (ks.take m ++ List.replicate n (⟨0, 0, 0, 0⟩ : JbV)) rest ∧ Below g w w' ∧ w'.heap.size = w.heap.size ∧ Kp g w w' := by
  have hzv : ∀ w, (zeroValue 71).run Tryz.prog w = .ok (.agg #[.int .i64 0, .int .i64 0, .int .i64 0, .int .i64 0]) w := fun w => by kernel_rfl
  have hzc : (Builtin.zeroCells (Value.agg #[.int .i64 0, .int .i64 0, .int .i64 0, .int .i64 0]).cells n).toList = (List.replicate n (⟨0, 0, 0, 0⟩ : JbV)).flatMap JbV.cs := by
    have hz8 : (Value.agg #[.int .i64 0, .int .i64 0, .int .i64 0, .int .i64 0]).cells = #[.int .i64 0, .int .i64 0, .int .i64 0, .int .i64 0] := by rfl
    rw [hz8]
    unfold Builtin.zeroCells
    apply List.ext_getElem?
    intro i
    by_cases hi : i < n * 4
    · have e1 : (List.replicate n (⟨0, 0, 0, 0⟩ : JbV))[i / 4]? = some ⟨0, 0, 0, 0⟩ := by
        rw [List.getElem?_replicate, if_pos (by omega)]
      have e2 := flat_jb _ (i / 4) (i % 4) _ e1 (Nat.mod_lt _ (by decide))
      rw [show i / 4 * 4 + i % 4 = i by omega] at e2
      rw [e2]
      have h4 : i % 4 < 4 := Nat.mod_lt _ (by decide)
      simp [JbV.cs, hi]
      generalize i % 4 = r at *
      match r, h4 with
      | 0, _ => rfl
      | 1, _ => rfl
      | 2, _ => rfl
      | 3, _ => rfl
    · rw [List.getElem?_eq_none (by simp; omega), List.getElem?_eq_none (by rw [len_jb, List.length_replicate]; omega)]
  obtain ⟨vs, hvs⟩ : ∃ vs, (List.replicate n (⟨0, 0, 0, 0⟩ : JbV)).flatMap JbV.cs = vs := ⟨_, rfl⟩
  have hvl : vs.length = n * 4 := by rw [← hvs, len_jb, List.length_replicate]
  have h1c : ∀ v ∈ vs, v.oneCell' = true := by
    intro v hv
    rw [← hvs] at hv
    obtain ⟨k, -, hk⟩ := List.mem_flatMap.1 hv
    simp [JbV.cs] at hk
    rcases hk with rfl | rfl | rfl | rfl <;> rfl
  have hst := run_storeCells_at (P := Tryz.prog) g (m * 4) 71 vs 0 _ w hg (by simp only [List.size_toArray, List.length_append, len_jb, hvl]; omega) h1c
  have hml : (ks.take m).length = m := by rw [List.length_take]; omega
  have hL : (ks.flatMap JbV.cs ++ rest).toArray.toList.take (m * 4 + 0) ++ vs ++ (ks.flatMap JbV.cs ++ rest).toArray.toList.drop (m * 4 + 0 + vs.length) = (ks.take m ++ List.replicate n (⟨0, 0, 0, 0⟩ : JbV)).flatMap JbV.cs ++ rest := by
    have e1 : (ks.flatMap JbV.cs ++ rest).take (m * 4) = (ks.take m).flatMap JbV.cs := by
      conv => lhs; rw [← List.take_append_drop m ks, List.flatMap_append, List.append_assoc]
      rw [List.take_left' (by rw [len_jb, hml])]
    have e2 : (ks.flatMap JbV.cs ++ rest).drop (m * 4 + vs.length) = rest := by
      rw [List.drop_left' (by rw [len_jb, hvl]; omega)]
    show (ks.flatMap JbV.cs ++ rest).take (m * 4) ++ vs ++ (ks.flatMap JbV.cs ++ rest).drop (m * 4 + vs.length) = _
    rw [e1, e2, List.flatMap_append, hvs]
  rw [hL] at hst
  refine ⟨w.setRow g ((ks.take m ++ List.replicate n (⟨0, 0, 0, 0⟩ : JbV)).flatMap JbV.cs ++ rest).toArray, fun ty => ?_, ?_, ?_, ?_, ?_⟩
  · obtain ⟨n', rfl⟩ : ∃ n', n = n' + 1 := ⟨n - 1, by omega⟩
    simp only [hvs] at hzc
    simp [Builtin.clear_, run_underlying Tryz.underlying27, hzv, hzc, hst]
  · exact setRow_heap w g _ _ _ _ hg
  · exact ⟨rfl, rfl, rfl, by simp, fun k hk => setRow_other _ _ _ _ (by omega)⟩
  · simp
  · exact ⟨rfl, rfl, rfl, by simp, fun k hk hn => setRow_other _ _ _ _ (by omega)⟩
set_option maxHeartbeats 2000000 in
theorem idxj_any (K : Nat) (eK : ∀ args w, (callFunc K args).run Tryz.prog w = .ok (.enter K args) w) (u : Value) (cs : Array Value) (ks : List JbV) (p : JbV → Bool) (w : World) (hu : Jbl w u ks)
    (hp : ∀ W, Below w.heap.size w W → ∀ k ∈ ks, Calls Tryz.prog K (#[k.val] ++ cs) W fun e w' => e = .returned (.bool (p k)) ∧ Below W.heap.size W w') :
    Calls Tryz.prog 114 #[u, .func (Fn.func K) #[] cs] w fun e w' => ∃ r : Int, e = .returned (.int .i64 r) ∧ FstJ p ks r ∧ Below w.heap.size w w' := by
  obtain ⟨a, c, rfl, c1, c2, ca⟩ := hu
  have Ca : Hid (ks ≠ [] → ∃ x, a = some x ∧ x.block < w.heap.size ∧ ∀ (i : Nat) k, ks[i]? = some k → Jbc w (x.add (i * 4)) k) := ca
  have Hp : Hid (∀ W, Below w.heap.size w W → ∀ k ∈ ks, Calls Tryz.prog K (#[k.val] ++ cs) W fun e w' => e = .returned (.bool (p k)) ∧ Below W.heap.size W w') := hp
  clear ca hp
  go_enter Tryz.func114, Tryz.ntmps114
  go_wp2
  go_loopw [8] (fun i W' => ∃ k : Nat, k ≤ ks.length ∧ i = .int .i64 (k : Nat) ∧ (ks.take k).any p = false ∧ Below w.heap.size w W') (fun i _ => ks.length - (intOf i).toNat)
  case atStart => exact ⟨0, Nat.zero_le _, rfl, by simp, Below.refl _ _⟩
  case round =>
    obtain ⟨k, hk, rfl, ht, hb⟩ := hrel
    have Ht : Hid ((ks.take k).any p = false) := ht
    have B : Hid (Below w.heap.size w wr) := hb
    clear ht hb
    by_cases h0 : k = ks.length
    · subst h0
      go_wp2
      go_ret
      refine ⟨_, rfl, .inl ⟨rfl, ?_⟩, B⟩
      have := Ht.out
      rw [List.take_of_length_le (Nat.le_refl _)] at this
      exact this
    · have hkx : k < ks.length := by omega
      obtain ⟨x, rfl, hx1, hx⟩ := Ca.out (by intro h; rw [h] at hkx; simp at hkx)
      obtain ⟨y, hy⟩ : ∃ y, ks[k]? = some y := ⟨_, List.getElem?_eq_getElem hkx⟩
      have Yc := (hx k y hy).below B.out (by rw [add_block]; exact hx1)
      obtain ⟨q0, q1, q2, q3⟩ := Yc
      have hc := Hp.out wr B.out y (List.mem_of_getElem? hy)
      have Hs : Hid _ := anyj_next (p := p) hy
      have Hm : Hid (ks[k]? = some y) := hy
      clear hx hx1 hy
      cases hy : p y with
      | true =>
        rw [hy] at hc
        have Hc : Hid (Calls Tryz.prog K (#[y.val] ++ cs) wr fun e w' => e = .returned (.bool true) ∧ Below wr.heap.size wr w') := hc
        have Hy : Hid (p y = true) := hy
        clear hc hy
        go_wp2_with fail
        refine Calls.mono Hc.out ?_
        rintro e w1 ⟨rfl, b1⟩
        have B1 : Hid (Below w.heap.size w w1) := B.out.trans (b1.mono B.out.size)
        clear b1
        go_wp2
        go_ret
        exact ⟨_, rfl, .inr ⟨k, y, rfl, Hm, Hy, Ht⟩, B1⟩
      | false =>
        rw [hy] at hc
        have Hc : Hid (Calls Tryz.prog K (#[y.val] ++ cs) wr fun e w' => e = .returned (.bool false) ∧ Below wr.heap.size wr w') := hc
        have Hy : Hid (p y = false) := hy
        clear hc hy
        go_wp2_with fail
        refine Calls.mono Hc.out ?_
        rintro e w1 ⟨rfl, b1⟩
        have B1 : Hid (Below w.heap.size w w1) := B.out.trans (b1.mono B.out.size)
        clear b1
        go_wp2
        go_round
        case rel => exact ⟨k + 1, by omega, by go_num, by have := Hs.out; rw [Ht.out, Hy.out] at this; exact this, B1⟩
        case measure => simp [intOf]; omega


theorem delj_keep {ks L : List JbV} {p : JbV → Bool} {i j : Nat} {y : JbV} (h : L.take i = (ks.take j).filter (fun k => !p k)) (hd : L.drop j = ks.drop j) (hij : i < j) (hl : L.length = ks.length) (hy : ks[j]? = some y) (hp : p y = false) :
    (L.set i y).take (i + 1) = (ks.take (j + 1)).filter (fun k => !p k) ∧ (L.set i y).drop (j + 1) = ks.drop (j + 1) := by
  have hj : j < ks.length := (List.getElem?_eq_some_iff.1 hy).1
  have hi : i < L.length := by omega
  constructor
  · rw [List.take_succ_eq_append_getElem (by simpa using hi), List.take_set_of_le (Nat.le_refl _), List.getElem_set_self, h]
    have : (ks.take (j + 1)) = ks.take j ++ [y] := by
      rw [List.take_succ_eq_append_getElem hj]
      rw [(List.getElem?_eq_some_iff.1 hy).2]
    rw [this, List.filter_append]
    simp [hp]
  · rw [List.drop_set_of_lt (by omega)]
    have h1 : L.drop (j + 1) = (L.drop j).drop 1 := by rw [List.drop_drop]
    rw [h1, hd, List.drop_drop]
theorem delj_skip {ks L : List JbV} {p : JbV → Bool} {i j : Nat} {y : JbV} (h : L.take i = (ks.take j).filter (fun k => !p k)) (hd : L.drop j = ks.drop j) (hy : ks[j]? = some y) (hp : p y = true) :
    L.take i = (ks.take (j + 1)).filter (fun k => !p k) ∧ L.drop (j + 1) = ks.drop (j + 1) := by
  have hj : j < ks.length := (List.getElem?_eq_some_iff.1 hy).1
  constructor
  · have : (ks.take (j + 1)) = ks.take j ++ [y] := by
      rw [List.take_succ_eq_append_getElem hj]
      rw [(List.getElem?_eq_some_iff.1 hy).2]
    rw [this, List.filter_append, h]
    simp [hp]
  · have h1 : L.drop (j + 1) = (L.drop j).drop 1 := by rw [List.drop_drop]
    rw [h1, hd, List.drop_drop]
theorem delj_start {ks : List JbV} {p : JbV → Bool} {i : Nat} {x : JbV} (hx : ks[i]? = some x) (hp : p x = true) (hn : (ks.take i).any p = false) : ks.take i = (ks.take (i + 1)).filter (fun k => !p k) := by
  have hi : i < ks.length := (List.getElem?_eq_some_iff.1 hx).1
  have : (ks.take (i + 1)) = ks.take i ++ [x] := by
    rw [List.take_succ_eq_append_getElem hi]
    rw [(List.getElem?_eq_some_iff.1 hx).2]
  rw [this, List.filter_append]
  have e : (ks.take i).filter (fun k => !p k) = ks.take i := by
    rw [List.filter_eq_self]
    intro a ha
    have := List.any_eq_false.1 hn a ha
    simpa using this
  rw [e]
  simp [hp]

theorem delj_gb {w w1 w' : World} {g n c : Nat} (h : Below w.heap.size w w1) (k : Kp g w1 w') : w.grownBy w' (Value.slice (some ⟨g, 0, none⟩) n c).ownBlock :=
  ⟨k.os.trans h.os, k.tape.trans h.tape, k.output.trans h.output, Nat.le_trans h.size k.size, fun i hi hr => (k.block i (Nat.lt_of_lt_of_le hi h.size) (fun e => hr (by rw [e]; rfl))).trans (h.block i hi)⟩
theorem jk_kp (wb : World) (g i : Nat) (y : JbV) : Kp g wb ((((wb.setCell ⟨g, i * 4, none⟩ (.int .i64 y.player)).setCell ⟨g, i * 4 + 1, none⟩ (.int .i64 y.unit)).setCell ⟨g, i * 4 + 2, none⟩ (.int .i64 y.kind)).setCell ⟨g, i * 4 + 3, none⟩ (.int .i64 y.left)) :=
  (((Kp.set (z := g) _ _ _).trans (Kp.set _ _ _)).trans (Kp.set _ _ _)).trans (Kp.set _ _ _)
set_option maxRecDepth 100000 in
set_option maxHeartbeats 8000000 in
theorem delj_own (K : Nat) (eK : ∀ args w, (callFunc K args).run Tryz.prog w = .ok (.enter K args) w) (u : Value) (cs : Array Value) (ks : List JbV) (p : JbV → Bool) (w : World) (base : Nat) (hu : Jbo w base u ks) (hbase : base ≤ w.heap.size) (hl : ks.length ≤ 1000000)
    (hp : ∀ W, Below base w W → w.grownBy W u.ownBlock → ∀ k ∈ ks, Calls Tryz.prog K (#[k.val] ++ cs) W fun e w' => e = .returned (.bool (p k)) ∧ Below W.heap.size W w') :
    Calls Tryz.prog 81 #[u, .func (Fn.func K) #[] cs] w fun e w' => ∃ v, e = .returned v ∧ Jbo w' base v (ks.filter (fun k => !p k)) ∧ Below base w w' ∧ w.grownBy w' u.ownBlock ∧ v.ownBlock = u.ownBlock := by
  have H' : Hid (Calls Tryz.prog 114 #[u, .func (Fn.func K) #[] cs] w fun e w' => ∃ r : Int, e = .returned (.int .i64 r) ∧ FstJ p ks r ∧ Below w.heap.size w w') := idxj_any K eK u cs ks p w hu.l (fun W hW k hk => hp W (hW.mono hbase) ⟨hW.os, hW.tape, hW.output, hW.size, fun k hk _ => hW.block k hk⟩ k hk)
  have Hp : Hid (∀ W, Below base w W → w.grownBy W u.ownBlock → ∀ k ∈ ks, Calls Tryz.prog K (#[k.val] ++ cs) W fun e w' => e = .returned (.bool (p k)) ∧ Below W.heap.size W w') := hp
  have U : Hid (Jbo w base u ks) := hu
  have HB : Hid (base ≤ w.heap.size ∧ ks.length ≤ 1000000) := ⟨hbase, hl⟩
  clear hp hu hbase
  go_enter Tryz.func81, Tryz.ntmps81
  go_wp2_with fail
  refine Calls.mono H'.out ?_
  rintro e w1 ⟨r, rfl, hf, hb⟩
  have B1 : Hid (Below base w w1) := hb.mono HB.out.1
  have U1 : Hid (Jbo w1 base u ks) := U.out.below hb
  have S1 : Hid (w.heap.size ≤ w1.heap.size) := hb.size
  have G1 : Hid (Below w.heap.size w w1) := hb
  clear hb U H'
  rcases hf with ⟨rfl, hno⟩ | ⟨i0, x, rfl, hx, hpx, hnx⟩
  · have NO : Hid (ks.filter (fun k => !p k) = ks) := by
      unfold Hid
      rw [List.filter_eq_self]
      intro a ha
      have := List.any_eq_false.1 hno a ha
      simpa using this
    clear hno
    go_wp2
    go_ret
    exact ⟨u, rfl, by rw [NO.out]; exact U1.out, B1.out, ⟨G1.out.os, G1.out.tape, G1.out.output, G1.out.size, fun k hk _ => G1.out.block k hk⟩, rfl⟩
  have hi0 : i0 < ks.length := (List.getElem?_eq_some_iff.1 hx).1
  rcases U1.out.jk with ⟨rfl, h⟩ | ⟨g, cap, rest, rfl, hbg, hkc, hcm, hcl, hub⟩
  · rw [h] at hi0; simp at hi0
  have ST : Hid (ks.take i0 = (ks.take (i0 + 1)).filter (fun k => !p k)) := delj_start hx hpx hnx
  have GG : Hid (base ≤ g ∧ ks.length ≤ cap ∧ cap ≤ maxLen ∧ ks.length * 4 + rest.length = cap * 4) := ⟨hbg, hkc, hcm, hcl⟩
  have UB : Hid (Jk w1 g ks rest) := hub
  have hcm' : cap ≤ 9223372036854775807 := by unfold maxLen at hcm; omega
  clear hx hpx hnx hbg hcm hcl hub U1
  have hm1 : (((i0 : Nat) : Int) == -1) = false := by rw [beq_eq_false_iff_ne]; omega
  go_wp2
  go_loopw [5, 6] (fun vi vj W => ∃ (i j : Nat) (L : List JbV), vi = .int .i64 (i : Nat) ∧ vj = .int .i64 (j : Nat) ∧ i < j ∧ j ≤ ks.length ∧ L.length = ks.length ∧ L.take i = (ks.take j).filter (fun k => !p k) ∧ L.drop j = ks.drop j ∧ Jk W g L rest ∧ Below base w W ∧ Kp g w1 W) (fun _ vj _ => ks.length - (intOf vj).toNat)
  case atStart => exact ⟨i0, i0 + 1, ks, rfl, by go_num, by omega, by omega, rfl, ST.out, rfl, UB.out, B1.out, Kp.refl _ _⟩
  case round =>
    obtain ⟨i, j, L, rfl, rfl, hij, hjn, hLl, hLt, hLd, hLu, hLb, hLk⟩ := hrel
    have LU : Hid (Jk wr g L rest) := hLu
    have LB : Hid (Below base w wr) := hLb
    have LK : Hid (Kp g w1 wr) := hLk
    clear hLk
    have LL : Hid (L.length = ks.length ∧ L.take i = (ks.take j).filter (fun k => !p k) ∧ L.drop j = ks.drop j) := ⟨hLl, hLt, hLd⟩
    clear hLu hLb hLl hLt hLd UB B1 ST
    by_cases h0 : j = ks.length
    · subst h0
      obtain ⟨wc, hcl, hUc, hBc, hSc, hKc⟩ := run_clear_jbs wr g i (ks.length - i) (cap - i) L rest LU.out (by omega) (by rw [LL.out.1]; omega)
      have UC : Hid (Jk wc g (L.take i) ((List.replicate (ks.length - i) (⟨0, 0, 0, 0⟩ : JbV)).flatMap JbV.cs ++ rest)) := by
        unfold Jk at hUc
        unfold Hid Jk
        rw [← List.append_assoc, ← List.flatMap_append]
        exact hUc
      have BC : Hid (Below base w wc) := LB.out.trans (hBc.mono GG.out.1)
      have KC : Hid (Kp g w1 wc) := LK.out.trans hKc
      have IL : Hid ((L.take i).length = i) := by unfold Hid; rw [List.length_take, LL.out.1]; omega
      clear hUc hBc hSc hKc
      go_wp2
      go_ret
      have h1 := UC.out.jbo (base := base) (cap := cap) GG.out.1 (by rw [IL.out]; have := GG.out.2.1; omega) GG.out.2.2.1 (by
        rw [IL.out, List.length_append, len_jb, List.length_replicate]
        have := GG.out.2.2.2
        omega)
      rw [IL.out] at h1
      refine ⟨_, rfl, ?_, BC.out, delj_gb G1.out KC.out, rfl⟩
      have h2 := LL.out.2.1
      rw [List.take_of_length_le (Nat.le_refl _)] at h2
      rw [← h2]
      exact h1
    · have hjl : j < ks.length := by omega
      have hji : ((j : Nat) : Int) < (ks.length : Nat) := by omega
      obtain ⟨y, hy⟩ : ∃ y, ks[j]? = some y := ⟨_, List.getElem?_eq_getElem hjl⟩
      have hLy : L[j]? = some y := by
        have h1 : (L.drop j)[0]? = (ks.drop j)[0]? := by rw [LL.out.2.2]
        rw [List.getElem?_drop, List.getElem?_drop] at h1
        rw [Nat.add_zero] at h1
        rw [h1]; exact hy
      obtain ⟨q0, q1, q2, q3⟩ := LU.out.jbc hLy
      have HY : Hid (ks[j]? = some y) := hy
      have wi : IntKind.i64.wrap ((i : Nat) + 1 : Int) = ((i : Nat) : Int) + 1 := by rw [IntKind.wrap_i64]; omega
      have wj : IntKind.i64.wrap ((j : Nat) + 1 : Int) = ((j : Nat) : Int) + 1 := by rw [IntKind.wrap_i64]; omega
      clear hLy hy
      go_upto_region 8 with fail
      have BA : Hid (Below wr.heap.size wr (wr.alloc (Obj.cells #[.int .i64 y.player, .int .i64 y.unit, .int .i64 y.kind, .int .i64 y.left] 71))) := (Below.refl _ _).alloc (Nat.le_refl _) _
      have XA : Hid (Jbc (wr.alloc (Obj.cells #[.int .i64 y.player, .int .i64 y.unit, .int .i64 y.kind, .int .i64 y.left] 71)) ⟨wr.heap.size, 0, none⟩ y) := Jbc.mk' y rfl
      generalize (wr.alloc (Obj.cells #[.int .i64 y.player, .int .i64 y.unit, .int .i64 y.kind, .int .i64 y.left] 71)) = wa at *
      have UA : Hid (Jk wa g L rest) := LU.out.below BA.out LU.out.lt
      have AB : Hid (Below base w wa) := LB.out.trans (BA.out.mono (Nat.le_trans HB.out.1 LB.out.size))
      have KA : Hid (Kp g w1 wa) := LK.out.trans (Kp.of BA.out)
      clear LK
      obtain ⟨z, hz⟩ : ∃ z, wr.heap.size = z := ⟨_, rfl⟩
      rw [hz] at XA ⊢
      have ZG : Hid (g < z) := by rw [← hz]; exact LU.out.lt
      clear hz BA LU LB q0 q1 q2 q3
      obtain ⟨q0, q1, q2, q3⟩ := XA.out
      cases hpy : p y with
      | true =>
        have PY : Hid (p y = true) := hpy
        have hc := Hp.out wa AB.out (delj_gb G1.out KA.out) y (List.mem_of_getElem? HY.out)
        rw [hpy] at hc
        have Hc : Hid (Calls Tryz.prog K (#[y.val] ++ cs) wa fun e w' => e = .returned (.bool true) ∧ Below wa.heap.size wa w') := hc
        clear hc hpy
        go_wp2_with fail
        refine Calls.mono Hc.out ?_
        rintro e wb ⟨rfl, hb⟩
        have UW : Hid (Jk wb g L rest) := UA.out.below hb UA.out.lt
        have WB : Hid (Below base w wb) := AB.out.trans (hb.mono (Nat.le_trans HB.out.1 AB.out.size))
        have KW : Hid (Kp g w1 wb) := KA.out.trans (Kp.of hb)
        clear KA
        clear hb q0 q1 q2 q3 UA AB XA Hc
        go_wp2
        go_round
        case rel => exact ⟨i, j + 1, L, rfl, by go_num, by omega, by omega, LL.out.1, (delj_skip LL.out.2.1 LL.out.2.2 HY.out PY.out).1, (delj_skip LL.out.2.1 LL.out.2.2 HY.out PY.out).2, UW.out, WB.out, KW.out⟩
        case measure => simp [intOf]; omega
      | false =>
        have PY : Hid (p y = false) := hpy
        have hc := Hp.out wa AB.out (delj_gb G1.out KA.out) y (List.mem_of_getElem? HY.out)
        rw [hpy] at hc
        have Hc : Hid (Calls Tryz.prog K (#[y.val] ++ cs) wa fun e w' => e = .returned (.bool false) ∧ Below wa.heap.size wa w') := hc
        clear hc hpy
        go_wp2_with fail
        refine Calls.mono Hc.out ?_
        rintro e wb ⟨rfl, hb⟩
        have UW : Hid (Jk wb g L rest) := UA.out.below hb UA.out.lt
        have WB : Hid (Below base w wb) := AB.out.trans (hb.mono (Nat.le_trans HB.out.1 AB.out.size))
        have KW : Hid (Kp g w1 wb) := KA.out.trans (Kp.of hb)
        clear KA
        have XB : Hid (Jbc wb ⟨z, 0, none⟩ y) := XA.out.below hb XA.out.lt
        clear hb q0 q1 q2 q3 UA AB XA Hc
        have hil : i < L.length := by rw [LL.out.1]; omega
        obtain ⟨z0, hz0⟩ : ∃ z0, L[i]? = some z0 := ⟨_, List.getElem?_eq_getElem hil⟩
        obtain ⟨q0, q1, q2, q3⟩ := XB.out
        obtain ⟨r0, r1, r2, r3⟩ := UW.out.jbc hz0
        have f0 := UW.out.thaw (i * 4)
        have f1 := UW.out.thaw (i * 4 + 1)
        have f2 := UW.out.thaw (i * 4 + 2)
        have f3 := UW.out.thaw (i * 4 + 3)
        have UP : Hid (Jk ((((wb.setCell ⟨g, i * 4, none⟩ (.int .i64 y.player)).setCell ⟨g, i * 4 + 1, none⟩ (.int .i64 y.unit)).setCell ⟨g, i * 4 + 2, none⟩ (.int .i64 y.kind)).setCell ⟨g, i * 4 + 3, none⟩ (.int .i64 y.left)) g (L.set i y) rest) := UW.out.put hil y
        have BP : Hid (Below base w ((((wb.setCell ⟨g, i * 4, none⟩ (.int .i64 y.player)).setCell ⟨g, i * 4 + 1, none⟩ (.int .i64 y.unit)).setCell ⟨g, i * 4 + 2, none⟩ (.int .i64 y.kind)).setCell ⟨g, i * 4 + 3, none⟩ (.int .i64 y.left))) := jk_below y WB.out GG.out.1
        have KP : Hid (Kp g w1 ((((wb.setCell ⟨g, i * 4, none⟩ (.int .i64 y.player)).setCell ⟨g, i * 4 + 1, none⟩ (.int .i64 y.unit)).setCell ⟨g, i * 4 + 2, none⟩ (.int .i64 y.kind)).setCell ⟨g, i * 4 + 3, none⟩ (.int .i64 y.left))) := KW.out.trans (jk_kp wb g i y)
        have DK := delj_keep LL.out.2.1 LL.out.2.2 hij LL.out.1 HY.out PY.out
        have DH : Hid ((L.set i y).length = ks.length ∧ (L.set i y).take (i + 1) = (ks.take (j + 1)).filter (fun k => !p k) ∧ (L.set i y).drop (j + 1) = ks.drop (j + 1)) := ⟨by rw [List.length_set]; exact LL.out.1, DK.1, DK.2⟩
        clear DK hz0 hil
        go_wp2
        go_round
        case rel => exact ⟨i + 1, j + 1, L.set i y, by go_num, by go_num, by omega, by omega, DH.out.1, DH.out.2.1, DH.out.2.2, UP.out, BP.out, KP.out⟩
        case measure => simp [intOf]; omega
theorem delj_any (K : Nat) (eK : ∀ args w, (callFunc K args).run Tryz.prog w = .ok (.enter K args) w) (u : Value) (cs : Array Value) (ks : List JbV) (p : JbV → Bool) (w : World) (base : Nat) (hu : Jbo w base u ks) (hbase : base ≤ w.heap.size) (hl : ks.length ≤ 1000000)
    (hp : ∀ W, Below base w W → ∀ k ∈ ks, Calls Tryz.prog K (#[k.val] ++ cs) W fun e w' => e = .returned (.bool (p k)) ∧ Below W.heap.size W w') :
    Calls Tryz.prog 81 #[u, .func (Fn.func K) #[] cs] w fun e w' => ∃ v, e = .returned v ∧ Jbo w' base v (ks.filter (fun k => !p k)) ∧ Below base w w' :=
  (delj_own K eK u cs ks p w base hu hbase hl (fun W hW _ => hp W hW)).mono fun e w' h => by
    obtain ⟨v, h1, h2, h3, -⟩ := h
    exact ⟨v, h1, h2, h3⟩
end Go.Proofs.YteieikgkmfglaaaGreatDoor

namespace Go.Proofs.YteieikgkmfglaaaGreatDoor
open Go.RowKit
set_option linter.unusedVariables false

def fallenU (u : UnV) : Bool := decide (u.life ≤ 0)
def orphanJ (us : List UnV) (j : JbV) : Bool := !us.any (fun u => u.id == j.unit)
set_option maxHeartbeats 1000000 in
theorem fallen_fg (u : UnV) (w : World) : Calls Tryz.prog 78 (#[u.val] ++ #[]) w fun e w' => e = .returned (.bool (fallenU u)) ∧ Below w.heap.size w w' := by
  rw [Array.append_empty]
  have B0 : Hid (Below w.heap.size w (w.alloc (Obj.cells #[.int .i64 u.id, .int .i64 u.player, .int .i64 u.kind, .int .i64 u.at_, .int .i64 u.life, .int .i64 u.load, .int .i64 u.task, .int .i64 u.goal] 44))) := (Below.refl _ _).alloc (Nat.le_refl _) _
  have O0 : Hid (Unc (w.alloc (Obj.cells #[.int .i64 u.id, .int .i64 u.player, .int .i64 u.kind, .int .i64 u.at_, .int .i64 u.life, .int .i64 u.load, .int .i64 u.task, .int .i64 u.goal] 44)) ⟨w.heap.size, 0, none⟩ u) := Unc.mk' u rfl
  unfold UnV.val
  go_enter Tryz.func78, Tryz.ntmps78
  go_upto_region 1 with fail
  generalize (w.alloc (Obj.cells #[.int .i64 u.id, .int .i64 u.player, .int .i64 u.kind, .int .i64 u.at_, .int .i64 u.life, .int .i64 u.load, .int .i64 u.task, .int .i64 u.goal] 44)) = w0 at *
  obtain ⟨q0, q1, q2, q3, q4, q5, q6, q7⟩ := O0.out
  go_wp2
  go_ret
  exact ⟨rfl, B0.out⟩
set_option maxHeartbeats 1000000 in
theorem wfind_us (X : WV) (us : List UnV) (v1 v2 v3 v4 v5 : Value) (id : Int) (w : World) (h : Unl w v4 us) :
    Calls Tryz.prog 40 #[.agg #[.int .i64 X.turn, .int .i64 X.next, .int .i64 X.wide, .int .i64 X.high, v1, v2, v3, v4, v5], .int .i64 id] w fun e w' => ∃ r : Int, e = .returned (.int .i64 r) ∧ FstU (fun u => u.id == id) us r ∧ Below w.heap.size w w' := by
  have U : Hid (Unl w v4 us) := h
  clear h
  go_enter Tryz.func40, Tryz.ntmps40
  go_wp2_with fail
  have B0 : Hid (Below w.heap.size w ((w.alloc (Obj.cells #[.int .i64 X.turn, .int .i64 X.next, .int .i64 X.wide, .int .i64 X.high, v1, v2, v3, v4, v5] 29)).alloc (Obj.cells #[.int .i64 id] 3))) := ((Below.refl _ _).alloc (Nat.le_refl _) _).alloc (by simp) _
  have C0 : Hid (((w.alloc (Obj.cells #[.int .i64 X.turn, .int .i64 X.next, .int .i64 X.wide, .int .i64 X.high, v1, v2, v3, v4, v5] 29)).alloc (Obj.cells #[.int .i64 id] 3)).cell? ⟨w.heap.size + 1, 0, none⟩ = some (.int .i64 id)) := cell_of_new (by simp) rfl
  generalize ((w.alloc (Obj.cells #[.int .i64 X.turn, .int .i64 X.next, .int .i64 X.wide, .int .i64 X.high, v1, v2, v3, v4, v5] 29)).alloc (Obj.cells #[.int .i64 id] 3)) = w0 at *
  refine (idxu_any 65 (by intro args w; go_simp) v4 #[.pointer (some ⟨w.heap.size + 1, 0, none⟩)] us (fun u => u.id == id) w0 (U.out.below B0.out) (fun V hV k => fid_any k id (w.heap.size + 1) V (by rw [hV.cell (p := ⟨w.heap.size + 1, 0, none⟩) (cell_lt C0.out)]; exact C0.out))).mono ?_
  rintro e w1 ⟨r, rfl, hf, hb⟩
  have F : Hid (FstU (fun u => u.id == id) us r ∧ Below w.heap.size w w1) := ⟨hf, B0.out.trans (hb.mono B0.out.size)⟩
  clear hf hb
  go_wp2
  go_ret
  exact ⟨r, rfl, F.out.1, F.out.2⟩
set_option maxRecDepth 100000 in
set_option maxHeartbeats 2000000 in
theorem orphan_fg (X : WV) (us : List UnV) (j : JbV) (bw : Nat) (v1 v2 v3 v4 v5 : Value) (w : World) (hb : Bw w bw X v1 v2 v3 v4 v5) (hw : Unl w v4 us) :
    Calls Tryz.prog 80 (#[j.val] ++ #[.pointer (some ⟨bw, 0, none⟩)]) w fun e w' => e = .returned (.bool (orphanJ us j)) ∧ Below w.heap.size w w' := by
  have H : Hid (Unl w v4 us) := hw
  have B0 : Hid (Below w.heap.size w (w.alloc (Obj.cells #[.int .i64 j.player, .int .i64 j.unit, .int .i64 j.kind, .int .i64 j.left] 71))) := (Below.refl _ _).alloc (Nat.le_refl _) _
  have O0 : Hid (Jbc (w.alloc (Obj.cells #[.int .i64 j.player, .int .i64 j.unit, .int .i64 j.kind, .int .i64 j.left] 71)) ⟨w.heap.size, 0, none⟩ j) := Jbc.mk' j rfl
  have X0 : Hid (Bw (w.alloc (Obj.cells #[.int .i64 j.player, .int .i64 j.unit, .int .i64 j.kind, .int .i64 j.left] 71)) bw X v1 v2 v3 v4 v5) := hb.below B0.out hb.lt
  clear hw hb
  show Calls Tryz.prog 80 #[j.val, .pointer (some ⟨bw, 0, none⟩)] w _
  unfold JbV.val
  go_enter Tryz.func80, Tryz.ntmps80
  go_upto_region 1 with fail
  generalize (w.alloc (Obj.cells #[.int .i64 j.player, .int .i64 j.unit, .int .i64 j.kind, .int .i64 j.left] 71)) = w0 at *
  obtain ⟨q0, q1, q2, q3⟩ := O0.out
  obtain ⟨x0, x1, x2, x3, x4, x5, x6, x7, x8⟩ := X0.out
  go_wp2_with fail
  refine (wfind_us X us v1 v2 v3 v4 v5 j.unit w0 (H.out.below B0.out)).mono ?_
  rintro e w1 ⟨r, rfl, hf, hb⟩
  have B1 : Hid (Below w.heap.size w w1) := B0.out.trans (hb.mono B0.out.size)
  have OR : Hid (orphanJ us j = decide (r < 0)) := by
    have := hf.has
    unfold Hid orphanJ
    rw [← this]
    by_cases h : 0 ≤ r
    · rw [decide_eq_true h, decide_eq_false (by omega)]; rfl
    · rw [decide_eq_false h, decide_eq_true (by omega)]; rfl
  clear hb hf q0 q1 q2 q3 x0 x1 x2 x3 x4 x5 x6 x7 x8
  go_wp2
  go_ret
  exact ⟨by rw [OR.out]; rfl, B1.out⟩
theorem strike_own (vk : Value) (ks : List KV) (X : WV) (g1 g2 g3 g4 g5 : Value) (Wn base : Nat) (w : World) (hX : WRight ks X) (hW : X.wide = (Wn : Nat)) (h1 : 0 < Wn) (h2 : Wn ≤ 12)
    (hk : Kl w vk ks) (hw : Wl w (.agg #[.int .i64 X.turn, .int .i64 X.next, .int .i64 X.wide, .int .i64 X.high, g1, g2, g3, g4, g5]) X) (hub : Uno w base g4 X.us) :
    Calls Tryz.prog 77 #[vk, .agg #[.int .i64 X.turn, .int .i64 X.next, .int .i64 X.wide, .int .i64 X.high, g1, g2, g3, g4, g5]] w fun e w' => ∃ ev, e = .returned ev ∧ Evo w' w.heap.size ev (strikes ks Wn X.us X.us).2 ∧ Uno w' base g4 (hurt X.us (strikes ks Wn X.us X.us).1) ∧ w.grownBy w' g4.ownBlock := by
  by_cases hne : X.us = []
  · obtain ⟨a, c, rfl⟩ := hub.len
    rw [hne] at hub hw ⊢
    refine (strike_nil vk _ _ _ _ g1 g2 g3 g5 a c w).mono ?_
    rintro e w' ⟨rfl, hb⟩
    exact ⟨_, rfl, Evo.nil _ _, hub.below hb, gb_below hb⟩
  · rcases hub.ub with ⟨-, h⟩ | ⟨g, cap, rest, rfl, hbg, hkc, hcm, hcl, hu⟩
    · exact absurd h hne
    · refine (strike_some vk ks X X.us g1 g2 g3 g5 g cap Wn rest w hX rfl hW h1 h2 hne hk hw hu).mono ?_
      rintro e w' ⟨ev, rfl, he, hu', hkp⟩
      have hl : (hurt X.us (strikes ks Wn X.us X.us).1).length = X.us.length := hurt_len strikes_len'
      have h3 := hu'.uno (base := base) (cap := cap) hbg (by rw [hl]; exact hkc) hcm (by rw [hl]; exact hcl)
      rw [hl] at h3
      exact ⟨ev, rfl, he, h3, gb_kp hkp⟩
end Go.Proofs.YteieikgkmfglaaaGreatDoor

