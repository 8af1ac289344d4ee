/- move.home: the cell of the nearest unit of its player that trains. · move.isDone and move.aim. · Lands: how far it is to a cell, and from one. · Lands: the next cell on a way. · The calls of package path: the way. · move.wish, move.Wish, move.isTaken. · move.walk: as far as its Speed goes. -/
import Derived.Test.YteieikgkmfglaaaGreatDoorZTurnGives13
import Derived.Test.YteieikgkmfglaaaGreatDoorZTurnGives12
import Derived.Test.YteieikgkmfglaaaGreatDoorZTurnGives4
import Derived.Test.YteieikgkmfglaaaGreatDoorZTurnGives7
namespace Go.Proofs.YteieikgkmfglaaaGreatDoor
open Go.RowKit
set_option linter.unusedVariables false

/-- home's boxes: the kinds, the world, the unit. -/
structure Hm (w V : World) (vk : Value) (X : WV) (u1 u2 u3 u4 u5 : Value) (u : UnV) : Prop where
  b : Below w.heap.size w V
  k : V.cell? ⟨w.heap.size, 0, none⟩ = some vk
  x : Bw V (w.heap.size + 1) X u1 u2 u3 u4 u5
  u : Unc V ⟨w.heap.size + 2, 0, none⟩ u
theorem Hm.below {w V V' : World} {vk : Value} {X : WV} {u1 u2 u3 u4 u5 : Value} {u : UnV} {n : Nat} (h : Hm w V vk X u1 u2 u3 u4 u5 u) (hb : Below n V V') (hn : w.heap.size + 3 ≤ n) : Hm w V' vk X u1 u2 u3 u4 u5 u :=
  ⟨h.b.trans (hb.mono (by omega)), by rw [hb.cell (p := ⟨w.heap.size, 0, none⟩) (show w.heap.size < n by omega)]; exact h.k, h.x.below hb (by omega), h.u.below hb (show w.heap.size + 2 < n by omega)⟩
theorem Hm.sz {w V : World} {vk : Value} {X : WV} {u1 u2 u3 u4 u5 : Value} {u : UnV} (h : Hm w V vk X u1 u2 u3 u4 u5 u) : w.heap.size + 3 ≤ V.heap.size := h.u.lt
theorem ro_kp {w w' : World} {b n c z : Nat} {xs : List Int} (h : Ro w (.slice (some ⟨b, 0, none⟩) n c) xs) (k : Kp z w w') (hn : b ≠ z) : Ro w' (.slice (some ⟨b, 0, none⟩) n c) xs := by
  obtain ⟨a, c', he, h1, h2, h3⟩ := h
  injection he with e1 e2 e3
  subst e1
  refine ⟨_, _, by rw [e2, e3], h1, h2, fun hx => ?_⟩
  obtain ⟨x, hx1, hx2, hx3⟩ := h3 hx
  injection hx1 with hx1
  subst hx1
  refine ⟨_, rfl, Nat.lt_of_lt_of_le hx2 k.size, fun i y hi => ?_⟩
  have := hx3 i y hi
  rw [Addr.add_lit] at this ⊢
  have hc := World.cell?_of_block (a := ⟨b, 0 + i, none⟩) (k.block b hx2 hn)
  rw [hc]
  exact this
/-- those of whom the nearest is meant, and where it is. -/
def homes (ks : List KV) (us : List UnV) (l : List Int) (pl : Int) : List UnV := us.filter (fun h => !otherU ks l pl h)
def homeAt (ks : List KV) (us : List UnV) (l : List Int) (u : UnV) : Int :=
  match homes ks us l u.player with
  | [] => u.at_
  | x0 :: tl => (minU (fun h => l.getD h.at_.toNat 0) x0 tl).at_
/-- units that stand on a field and are of kinds. -/
def Fit (ks : List KV) (n : Nat) (h : UnV) : Prop := (0 ≤ h.kind ∧ h.kind < (ks.length : Int)) ∧ (0 ≤ h.at_ ∧ h.at_ < (n : Int))
theorem flat_all {nb : Nat → List Int} {st : Nat → Nat → Int} {t n : Nat} {l : List Int} (h : Wy.IsFar nb st t n l ∧ Wy.Flat l) (hn : n ≤ 144) : ∀ x ∈ l, -1 ≤ x ∧ x ≤ 1000000 := by
  intro x hx
  obtain ⟨i, hi⟩ := List.mem_iff_getElem?.1 hx
  have h1 := (h.1.2 i x hi).ge
  have h2 := flat_le h.2 h.1.1 hn i
  rw [List.getD_eq_getElem?_getD, hi] at h2
  simp at h2
  exact ⟨h1, by omega⟩

theorem field_at (m : UnV) (W : World) : (Instr.field 44 (.agg #[.int .i64 m.id, .int .i64 m.player, .int .i64 m.kind, .int .i64 m.at_, .int .i64 m.life, .int .i64 m.load, .int .i64 m.task, .int .i64 m.goal]) 3).run Tryz.prog W = .ok (.int .i64 m.at_) W := by kernel_rfl
set_option maxRecDepth 100000 in
set_option maxHeartbeats 4000000 in
theorem home_any (vk vw : Value) (ks : List KV) (X : WV) (u : UnV) (Wn Hn : Nat) (k : KV) (w : World) (hk : Kl w vk ks) (hw : Wl w vw X) (hs : Sd w) (G : Fd.Good Wn Hn X.gs X.os) (e1 : X.wide = (Wn : Nat)) (e2 : X.high = (Hn : Nat)) (hl : X.us.length ≤ 1000000)
    (hu : Fit ks (Wn * Hn) u) (hk' : ks[u.kind.toNat]? = some k) (hus : ∀ h ∈ X.us, Fit ks (Wn * Hn) h) :
    Calls Tryz.prog 159 #[vk, vw, u.val] w fun e w' => ∃ l, e = .returned (.int .i64 (homeAt ks X.us l u)) ∧ (Wy.IsFar (Fd.near Wn Hn) (fun i _ => (X.gs.map fun g => Fd.onto g k.f).getD i 0) u.at_.toNat (Wn * Hn) l ∧ Wy.Flat l) ∧ Below w.heap.size w w' := by
  obtain ⟨kn, hkn⟩ : ∃ n : Nat, u.kind = n := ⟨u.kind.toNat, by have := hu.1; omega⟩
  obtain ⟨an, han⟩ : ∃ n : Nat, u.at_ = n := ⟨u.at_.toNat, by have := hu.2; omega⟩
  have hkl : kn < ks.length := by have := hu.1; omega
  have hkk : ks[kn]? = some k := by rw [hkn, Int.toNat_natCast] at hk'; exact hk'
  have ea : u.at_.toNat = an := by rw [han]; rfl
  rw [ea]
  obtain ⟨ss, hss⟩ : ∃ ss, (X.gs.map fun g => Fd.onto g k.f) = ss := ⟨_, rfl⟩
  have Hss : Hid ((X.gs.map fun g => Fd.onto g k.f) = ss) := hss
  rw [hss]
  clear hss
  have H : Hid (Wl w vw X) := hw
  have S : Hid (Sd w) := hs
  have GD : Hid (Fd.Good Wn Hn X.gs X.os ∧ X.wide = (Wn : Nat) ∧ X.high = (Hn : Nat) ∧ an < Wn * Hn ∧ X.us.length ≤ 1000000 ∧ ∀ h ∈ X.us, Fit ks (Wn * Hn) h) := ⟨G, e1, e2, by have := hu.2; omega, hl, hus⟩
  have KL0 : Hid (Kl w vk ks) := hk
  obtain ⟨p1, q1, p2, q2, p3, q3, p4, q4, p5, q5, rfl⟩ := wl_shape9 hw
  obtain ⟨pk, qk, rfl, ck1, ck2, kc⟩ := hk
  obtain ⟨xk, rfl, hxl, hxc⟩ := kc (by intro h; subst h; simp at hkl)
  have KK : Hid (Kc w (xk.add (kn * 11)) k ∧ (xk.add (kn * 11)).block < w.heap.size) := ⟨hxc kn k hkk, by rw [add_block]; exact hxl⟩
  have HE : Hid (u.kind = (kn : Nat) ∧ u.at_ = (an : Nat)) := ⟨hkn, han⟩
  clear hw hs G e1 e2 hl hu hk' hus hkn han ea kc hxc hxl hkk
  unfold UnV.val
  go_enter Tryz.func159, Tryz.ntmps159
  go_upto_region 1 with fail
  have M0 : Hid (Hm w (((w.alloc (Obj.cells #[.slice (some xk) ks.length qk] 22)).alloc (Obj.cells #[.int .i64 X.turn, .int .i64 X.next, .int .i64 X.wide, .int .i64 X.high, .slice p1 X.gs.length q1, .slice p2 X.os.length q2, .slice p3 X.gold.length q3, .slice p4 X.us.length q4, .slice p5 X.qs.length q5] 29)).alloc (Obj.cells #[.int .i64 u.id, .int .i64 u.player, .int .i64 u.kind, .int .i64 u.at_, .int .i64 u.life, .int .i64 u.load, .int .i64 u.task, .int .i64 u.goal] 44)) (.slice (some xk) ks.length qk) X (.slice p1 X.gs.length q1) (.slice p2 X.os.length q2) (.slice p3 X.gold.length q3) (.slice p4 X.us.length q4) (.slice p5 X.qs.length q5) u) := by
    refine ⟨(((Below.refl _ _).alloc (Nat.le_refl _) _).alloc (by simp) _).alloc (by simp; omega) _, ?_, ?_, Unc.mk' u (by simp)⟩
    · have h1 : (w.alloc (Obj.cells #[.slice (some xk) ks.length qk] 22)).cell? ⟨w.heap.size, 0, none⟩ = some (.slice (some xk) ks.length qk) := cell_of_new rfl rfl
      exact Lib.cell?_alloc_some _ (Lib.cell?_alloc_some _ h1)
    · exact (Bw.mk' X _ _ _ _ _ (by simp)).below ((Below.refl _ _).alloc (Nat.le_refl _) _) (by simp)
  generalize (((w.alloc (Obj.cells #[.slice (some xk) ks.length qk] 22)).alloc (Obj.cells #[.int .i64 X.turn, .int .i64 X.next, .int .i64 X.wide, .int .i64 X.high, .slice p1 X.gs.length q1, .slice p2 X.os.length q2, .slice p3 X.gold.length q3, .slice p4 X.us.length q4, .slice p5 X.qs.length q5] 29)).alloc (Obj.cells #[.int .i64 u.id, .int .i64 u.player, .int .i64 u.kind, .int .i64 u.at_, .int .i64 u.life, .int .i64 u.load, .int .i64 u.task, .int .i64 u.goal] 44)) = w0 at *
  have CB : Hid (∀ V, Hm w V (.slice (some xk) ks.length qk) X (.slice p1 X.gs.length q1) (.slice p2 X.os.length q2) (.slice p3 X.gold.length q3) (.slice p4 X.us.length q4) (.slice p5 X.qs.length q5) u → Hm w V (.slice (some xk) ks.length qk) X (.slice p1 X.gs.length q1) (.slice p2 X.os.length q2) (.slice p3 X.gold.length q3) (.slice p4 X.us.length q4) (.slice p5 X.qs.length q5) u ∧ V.cell? ⟨w.heap.size + 2, 3, none⟩ = some (.int .i64 (an : Nat)) ∧ V.cell? ⟨w.heap.size + 2, 2, none⟩ = some (.int .i64 (kn : Nat)) ∧ V.cell? ⟨(xk.add (kn * 11)).block, (xk.add (kn * 11)).off + 9, none⟩ = some (.bool k.f)) := fun V h => ⟨h, by have := h.u.c3; rw [HE.out.2] at this; exact this, by have := h.u.c2; rw [HE.out.1] at this; exact this, (KK.out.1.below h.b KK.out.2).c9⟩
  go_cut [7, 8] (fun v7 v8 V => v8 = .nilIface ∧ ∃ bf b l, v7 = .pointer (some ⟨bf, 0, none⟩) ∧ V.cell? ⟨bf, 0, none⟩ = some (.slice (some ⟨b, 0, none⟩) (Wn * Hn) (Wn * Hn)) ∧ Ro V (.slice (some ⟨b, 0, none⟩) (Wn * Hn) (Wn * Hn)) l ∧ (Wy.IsFar (Fd.near Wn Hn) (fun i _ => ss.getD i 0) an (Wn * Hn) l ∧ Wy.Flat l) ∧ Hm w V (.slice (some xk) ks.length qk) X (.slice p1 X.gs.length q1) (.slice p2 X.os.length q2) (.slice p3 X.gold.length q3) (.slice p4 X.us.length q4) (.slice p5 X.qs.length q5) u)
  case first =>
    refine wp_region_float 14 [(true, 0), (true, 1), (true, 2), (true, 3), (true, 4), (true, 5), (true, 6), (true, 7), (true, 8), (true, 9), (false, 10), (true, 11), (true, 12), (true, 13)] [(false, 15)] [(false, 16)] (fun V => Hm w V (.slice (some xk) ks.length qk) X (.slice p1 X.gs.length q1) (.slice p2 X.os.length q2) (.slice p3 X.gold.length q3) (.slice p4 X.us.length q4) (.slice p5 X.qs.length q5) u ∧ V.cell? ⟨w.heap.size + 2, 3, none⟩ = some (.int .i64 (an : Nat)) ∧ V.cell? ⟨w.heap.size + 2, 2, none⟩ = some (.int .i64 (kn : Nat)) ∧ V.cell? ⟨(xk.add (kn * 11)).block, (xk.add (kn * 11)).off + 9, none⟩ = some (.bool k.f)) (by kernel_rfl) (by kernel_rfl) (by kernel_rfl) (by decide +kernel) (by decide +kernel) (CB.out _ (M0.out.below ((Below.refl _ _).drew) M0.out.sz)) ?_
    have M1 : Hid (Hm w { w0 with drawn := w0.drawn + 1 } (.slice (some xk) ks.length qk) X (.slice p1 X.gs.length q1) (.slice p2 X.os.length q2) (.slice p3 X.gold.length q3) (.slice p4 X.us.length q4) (.slice p5 X.qs.length q5) u) := M0.out.below ((Below.refl _ _).drew) M0.out.sz
    generalize ({ w0 with drawn := w0.drawn + 1 } : World) = w1 at *
    clear M0
    refine headA_read rfl (.pointer (some ⟨w.heap.size + 1, 2, none⟩)) (by go_simp) (fun V hV => by go_simp) ?_
    go_simp
    refine headA_read rfl (.agg #[.int .i64 X.wide, .int .i64 X.high, .slice p1 X.gs.length q1, .slice p2 X.os.length q2]) (by go_simp) (fun V hV => by obtain ⟨⟨-, hk0, ⟨x0, x1, x2, x3, x4, x5, x6, x7, x8⟩, -⟩, ca, ckn, ckf⟩ := hV; go_simp) ?_
    go_simp
    refine headA_read rfl (.pointer (some ⟨w.heap.size + 2, 3, none⟩)) (by go_simp) (fun V hV => by go_simp) ?_
    go_simp
    refine headA_read rfl (.int .i64 (an : Nat)) (by go_simp) (fun V hV => by obtain ⟨⟨-, hk0, ⟨x0, x1, x2, x3, x4, x5, x6, x7, x8⟩, -⟩, ca, ckn, ckf⟩ := hV; go_simp) ?_
    go_simp
    refine headA_read rfl (.slice (some xk) ks.length qk) (by go_simp) (fun V hV => by obtain ⟨⟨-, hk0, ⟨x0, x1, x2, x3, x4, x5, x6, x7, x8⟩, -⟩, ca, ckn, ckf⟩ := hV; go_simp) ?_
    go_simp
    refine headA_read rfl (.pointer (some ⟨w.heap.size + 2, 2, none⟩)) (by go_simp) (fun V hV => by go_simp) ?_
    go_simp
    refine headA_read rfl (.int .i64 (kn : Nat)) (by go_simp) (fun V hV => by obtain ⟨⟨-, hk0, ⟨x0, x1, x2, x3, x4, x5, x6, x7, x8⟩, -⟩, ca, ckn, ckf⟩ := hV; go_simp) ?_
    go_simp
    refine headA_read rfl (.pointer (some (xk.add (kn * 11)))) (by go_simp) (fun V hV => by go_simp) ?_
    go_simp
    refine headA_read rfl (.pointer (some ⟨(xk.add (kn * 11)).block, (xk.add (kn * 11)).off + 9, none⟩)) (by go_simp) (fun V hV => by go_simp) ?_
    go_simp
    refine headA_read rfl (.bool k.f) (by go_simp) (fun V hV => by obtain ⟨⟨-, hk0, ⟨x0, x1, x2, x3, x4, x5, x6, x7, x8⟩, -⟩, ca, ckn, ckf⟩ := hV; go_simp) ?_
    go_simp
    refine headA_call rfl 171 #[.agg #[.int .i64 X.wide, .int .i64 X.high, .slice p1 X.gs.length q1, .slice p2 X.os.length q2], .int .i64 (an : Nat), .bool k.f] (by go_simp) (by go_simp) ?_ rfl (.pointer (some ⟨w1.heap.size, 0, none⟩)) (w1.alloc (Obj.cells #[.slice none 0 0] 23)) (by go_simp) (by go_simp) (CB.out _ (M1.out.below ((Below.refl _ _).alloc (Nat.le_refl _) _) M1.out.sz)) ?_
    · have FL : Hid (Fl w1 (.agg #[.int .i64 X.wide, .int .i64 X.high, .slice p1 X.gs.length q1, .slice p2 X.os.length q2]) (Wn : Nat) (Hn : Nat) X.gs X.os) := by
        have := fl_of (H.out.below M1.out.b)
        rw [GD.out.2.1, GD.out.2.2.1] at this
        rw [GD.out.2.1, GD.out.2.2.1]
        exact this
      refine (From_ok _ Wn Hn X.gs X.os an k.f w1 FL.out (S.out.below M1.out.b) GD.out.1 GD.out.2.2.2.1).mono ?_
      rintro e w2 ⟨b, l, rfl, hb0, hro, hf, hb⟩
      rw [Hss.out] at hf
      have M2 : Hid (Hm w w2 (.slice (some xk) ks.length qk) X (.slice p1 X.gs.length q1) (.slice p2 X.os.length q2) (.slice p3 X.gold.length q3) (.slice p4 X.us.length q4) (.slice p5 X.qs.length q5) u) := M1.out.below hb M1.out.sz
      have R2 : Hid (Ro w2 (.slice (some ⟨b, 0, none⟩) (Wn * Hn) (Wn * Hn)) l) := hro
      have FF : Hid (Wy.IsFar (Fd.near Wn Hn) (fun i _ => ss.getD i 0) an (Wn * Hn) l ∧ Wy.Flat l) := hf
      have BL : Hid (b < w2.heap.size) := by
        obtain ⟨a9, c9, he9, -, -, h9⟩ := hro
        injection he9 with he9
        obtain ⟨x9, hx9, hx8, -⟩ := h9 (by intro h; have h8 := hf.1.1; rw [h] at h8; have := GD.out.2.2.2.1; simp at h8; omega)
        rw [← he9] at hx9
        injection hx9 with hx9
        rw [← hx9] at hx8
        exact hx8
      refine ⟨_, rfl, CB.out _ M2.out, ?_⟩
      clear hb hb0 hro hf M1 FL
      go_simp
      refine headA_read rfl (.tuple #[.slice (some ⟨b, 0, none⟩) (Wn * Hn) (Wn * Hn), .nilIface]) (by go_simp) (fun V hV => by go_simp) ?_
      go_simp
      refine headA_read rfl (.slice (some ⟨b, 0, none⟩) (Wn * Hn) (Wn * Hn)) (by go_simp) (fun V hV => by go_simp) ?_
      go_simp
      refine headA_read rfl .nilIface (by go_simp) (fun V hV => by go_simp) ?_
      go_simp
      have BQ : Hid (Below w2.heap.size w2 (w2.alloc (Obj.cells #[.slice none 0 0] 23))) := (Below.refl _ _).alloc (Nat.le_refl _) _
      obtain ⟨bf, hbf⟩ : ∃ z, w2.heap.size = z := ⟨_, rfl⟩
      have bc0 : (w2.alloc (Obj.cells #[.slice none 0 0] 23)).cell? ⟨bf, 0, none⟩ = some (.slice none 0 0) := cell_of_new hbf rfl
      have bb0 : (w2.alloc (Obj.cells #[.slice none 0 0] 23)).heap[bf]? = some (.cells #[.slice none 0 0] 23 (0, 0)) := by subst hbf; exact heap_alloc_new _ _
      refine headA_last rfl (.pointer (some ⟨w2.heap.size, 0, none⟩)) (w2.alloc (Obj.cells #[.slice none 0 0] 23)) (by go_simp) (by go_simp) (CB.out _ (M2.out.below BQ.out M2.out.sz)) ?_
      rw [hbf]
      go_simp
      generalize (w2.alloc (Obj.cells #[.slice none 0 0] 23)) = w6 at *
      have M6 : Hid (Hm w w6 (.slice (some xk) ks.length qk) X (.slice p1 X.gs.length q1) (.slice p2 X.os.length q2) (.slice p3 X.gold.length q3) (.slice p4 X.us.length q4) (.slice p5 X.qs.length q5) u) := M2.out.below BQ.out M2.out.sz
      have R6 : Hid (Ro w6 (.slice (some ⟨b, 0, none⟩) (Wn * Hn) (Wn * Hn)) l) := R2.out.below BQ.out
      have NB : Hid (w.heap.size + 3 ≤ bf ∧ b ≠ bf) := ⟨by rw [← hbf]; exact M2.out.sz, by have := BL.out; omega⟩
      have bb : w6.heap[bf]? = some (.cells #[.slice none 0 0] 23 (0, 0)) := bb0
      have bc : w6.cell? ⟨bf, 0, none⟩ = some (.slice none 0 0) := by simp [World.cell?, bb]
      have bz : w6.frozen? ⟨bf, 0, none⟩ = false := by simp [World.frozen?, bb]
      clear M2 R2 BQ hbf bc0 bb0 BL
      have KS : Hid (Kp bf w6 (w6.setCell ⟨bf, 0, none⟩ (.slice (some ⟨b, 0, none⟩) (Wn * Hn) (Wn * Hn)))) := Kp.set _ _ _
      have MS : Hid (Hm w (w6.setCell ⟨bf, 0, none⟩ (.slice (some ⟨b, 0, none⟩) (Wn * Hn) (Wn * Hn))) (.slice (some xk) ks.length qk) X (.slice p1 X.gs.length q1) (.slice p2 X.os.length q2) (.slice p3 X.gold.length q3) (.slice p4 X.us.length q4) (.slice p5 X.qs.length q5) u) := M6.out.below (n := w.heap.size + 3) (KS.out.below (Below.refl _ _) M6.out.sz NB.out.1) (Nat.le_refl _)
      have RS : Hid (Ro (w6.setCell ⟨bf, 0, none⟩ (.slice (some ⟨b, 0, none⟩) (Wn * Hn) (Wn * Hn))) (.slice (some ⟨b, 0, none⟩) (Wn * Hn) (Wn * Hn)) l) := ro_kp R6.out KS.out NB.out.2
      have CS : Hid ((w6.setCell ⟨bf, 0, none⟩ (.slice (some ⟨b, 0, none⟩) (Wn * Hn) (Wn * Hn))).cell? ⟨bf, 0, none⟩ = some (.slice (some ⟨b, 0, none⟩) (Wn * Hn) (Wn * Hn))) := by
        have h9 := heap_setCell_same _ bf 0 _ _ (.slice (some ⟨b, 0, none⟩) (Wn * Hn) (Wn * Hn)) bb
        unfold Hid
        simp [World.cell?, h9]
      clear KS bb
      refine headT_skip rfl (w6.setCell ⟨bf, 0, none⟩ (.slice (some ⟨b, 0, none⟩) (Wn * Hn) (Wn * Hn))) (by go_simp) (by go_simp) (CB.out _ MS.out) ?_
      go_simp
      generalize (w6.setCell ⟨bf, 0, none⟩ (.slice (some ⟨b, 0, none⟩) (Wn * Hn) (Wn * Hn))) = w9 at *
      unfold wpHeadT
      refine sched_value rfl .nilIface w9 (by go_simp) (by go_simp) trivial ?_
      go_simp
      unfold wpSched
      go_wp2_with fail
      go_meet
      case rel => exact ⟨rfl, bf, b, l, rfl, CS.out, RS.out, FF.out, MS.out⟩
    · have BQ : Hid (Below w1.heap.size w1 (w1.alloc (Obj.cells #[.slice none 0 0] 23))) := (Below.refl _ _).alloc (Nat.le_refl _) _
      obtain ⟨bf, hbf⟩ : ∃ z, w1.heap.size = z := ⟨_, rfl⟩
      have bc0 : (w1.alloc (Obj.cells #[.slice none 0 0] 23)).cell? ⟨bf, 0, none⟩ = some (.slice none 0 0) := cell_of_new hbf rfl
      have bz0 : (w1.alloc (Obj.cells #[.slice none 0 0] 23)).heap[bf]? = some (.cells #[.slice none 0 0] 23 (0, 0)) := by subst hbf; exact heap_alloc_new _ _
      rw [hbf]
      go_simp
      generalize (w1.alloc (Obj.cells #[.slice none 0 0] 23)) = w2 at *
      have M2 : Hid (Hm w w2 (.slice (some xk) ks.length qk) X (.slice p1 X.gs.length q1) (.slice p2 X.os.length q2) (.slice p3 X.gold.length q3) (.slice p4 X.us.length q4) (.slice p5 X.qs.length q5) u) := M1.out.below BQ.out M1.out.sz
      have BF : Hid (w.heap.size + 3 ≤ bf ∧ bf < w2.heap.size ∧ w2.heap[bf]? = some (.cells #[.slice none 0 0] 23 (0, 0))) := ⟨by rw [← hbf]; exact M1.out.sz, lt_of_block bz0, bz0⟩
      clear M1 BQ hbf bc0 bz0
      refine headT_call rfl 171 #[.agg #[.int .i64 X.wide, .int .i64 X.high, .slice p1 X.gs.length q1, .slice p2 X.os.length q2], .int .i64 (an : Nat), .bool k.f] (by go_simp) (by go_simp) ?_
      have FL : Hid (Fl w2 (.agg #[.int .i64 X.wide, .int .i64 X.high, .slice p1 X.gs.length q1, .slice p2 X.os.length q2]) (Wn : Nat) (Hn : Nat) X.gs X.os) := by
        have := fl_of (H.out.below M2.out.b)
        rw [GD.out.2.1, GD.out.2.2.1] at this
        rw [GD.out.2.1, GD.out.2.2.1]
        exact this
      refine (From_ok _ Wn Hn X.gs X.os an k.f w2 FL.out (S.out.below M2.out.b) GD.out.1 GD.out.2.2.2.1).mono ?_
      rintro e w6 ⟨b, l, rfl, hb0, hro, hf, hb⟩
      rw [Hss.out] at hf
      have M6 : Hid (Hm w w6 (.slice (some xk) ks.length qk) X (.slice p1 X.gs.length q1) (.slice p2 X.os.length q2) (.slice p3 X.gold.length q3) (.slice p4 X.us.length q4) (.slice p5 X.qs.length q5) u) := M2.out.below hb M2.out.sz
      have R6 : Hid (Ro w6 (.slice (some ⟨b, 0, none⟩) (Wn * Hn) (Wn * Hn)) l) := hro
      have FF : Hid (Wy.IsFar (Fd.near Wn Hn) (fun i _ => ss.getD i 0) an (Wn * Hn) l ∧ Wy.Flat l) := hf
      have bb : w6.heap[bf]? = some (.cells #[.slice none 0 0] 23 (0, 0)) := by rw [hb.block bf BF.out.2.1]; exact BF.out.2.2
      have bc : w6.cell? ⟨bf, 0, none⟩ = some (.slice none 0 0) := by simp [World.cell?, bb]
      have bz : w6.frozen? ⟨bf, 0, none⟩ = false := by simp [World.frozen?, bb]
      have NB : Hid (w.heap.size + 3 ≤ bf ∧ b ≠ bf) := ⟨BF.out.1, by have := BF.out.2.1; omega⟩
      refine ⟨_, rfl, CB.out _ M6.out, ?_⟩
      clear hb hb0 hro hf M2 FL BF
      go_simp
      refine headT_read rfl (.tuple #[.slice (some ⟨b, 0, none⟩) (Wn * Hn) (Wn * Hn), .nilIface]) (by go_simp) (fun V hV => by go_simp) ?_
      go_simp
      refine headT_read rfl (.slice (some ⟨b, 0, none⟩) (Wn * Hn) (Wn * Hn)) (by go_simp) (fun V hV => by go_simp) ?_
      go_simp
      refine headT_read rfl .nilIface (by go_simp) (fun V hV => by go_simp) ?_
      go_simp
      have KS : Hid (Kp bf w6 (w6.setCell ⟨bf, 0, none⟩ (.slice (some ⟨b, 0, none⟩) (Wn * Hn) (Wn * Hn)))) := Kp.set _ _ _
      have MS : Hid (Hm w (w6.setCell ⟨bf, 0, none⟩ (.slice (some ⟨b, 0, none⟩) (Wn * Hn) (Wn * Hn))) (.slice (some xk) ks.length qk) X (.slice p1 X.gs.length q1) (.slice p2 X.os.length q2) (.slice p3 X.gold.length q3) (.slice p4 X.us.length q4) (.slice p5 X.qs.length q5) u) := M6.out.below (n := w.heap.size + 3) (KS.out.below (Below.refl _ _) M6.out.sz NB.out.1) (Nat.le_refl _)
      have RS : Hid (Ro (w6.setCell ⟨bf, 0, none⟩ (.slice (some ⟨b, 0, none⟩) (Wn * Hn) (Wn * Hn))) (.slice (some ⟨b, 0, none⟩) (Wn * Hn) (Wn * Hn)) l) := ro_kp R6.out KS.out NB.out.2
      have CS : Hid ((w6.setCell ⟨bf, 0, none⟩ (.slice (some ⟨b, 0, none⟩) (Wn * Hn) (Wn * Hn))).cell? ⟨bf, 0, none⟩ = some (.slice (some ⟨b, 0, none⟩) (Wn * Hn) (Wn * Hn))) := by
        have h9 := heap_setCell_same _ bf 0 _ _ (.slice (some ⟨b, 0, none⟩) (Wn * Hn) (Wn * Hn)) bb
        unfold Hid
        simp [World.cell?, h9]
      clear KS bb
      refine headT_skip rfl (w6.setCell ⟨bf, 0, none⟩ (.slice (some ⟨b, 0, none⟩) (Wn * Hn) (Wn * Hn))) (by go_simp) (by go_simp) (CB.out _ MS.out) ?_
      go_simp
      generalize (w6.setCell ⟨bf, 0, none⟩ (.slice (some ⟨b, 0, none⟩) (Wn * Hn) (Wn * Hn))) = w9 at *
      unfold wpHeadT
      refine sched_value rfl .nilIface w9 (by go_simp) (by go_simp) trivial ?_
      go_simp
      unfold wpSched
      go_wp2_with fail
      go_meet
      case rel => exact ⟨rfl, bf, b, l, rfl, CS.out, RS.out, FF.out, MS.out⟩
  case rest =>
    obtain ⟨rfl, bf, b, l, rfl, hcf, hro, hff, hm⟩ := hcut
    have M1 : Hid (Hm w wc (.slice (some xk) ks.length qk) X (.slice p1 X.gs.length q1) (.slice p2 X.os.length q2) (.slice p3 X.gold.length q3) (.slice p4 X.us.length q4) (.slice p5 X.qs.length q5) u) := hm
    have RF : Hid (Ro wc (.slice (some ⟨b, 0, none⟩) (Wn * Hn) (Wn * Hn)) l ∧ wc.cell? ⟨bf, 0, none⟩ = some (.slice (some ⟨b, 0, none⟩) (Wn * Hn) (Wn * Hn))) := ⟨hro, hcf⟩
    have FF : Hid (Wy.IsFar (Fd.near Wn Hn) (fun i _ => ss.getD i 0) an (Wn * Hn) l ∧ Wy.Flat l) := hff
    clear hcf hro hff hm M0 CB
    obtain ⟨x0, x1, x2, x3, x4, x5, x6, x7, x8⟩ := M1.out.x
    have US : Hid (Unl w (.slice p4 X.us.length q4) X.us) := H.out.slices.2.2.2.1
    go_wp2_with fail
    refine (clone_any _ X.us wc (US.out.below M1.out.b) GD.out.2.2.2.2.1).mono ?_
    rintro e w2 ⟨v, rfl, ho, hb⟩
    have O2 : Hid (Uno w2 wc.heap.size v X.us) := ho
    have B2 : Hid (Below wc.heap.size wc w2) := hb
    have LL : Hid (l.length = Wn * Hn) := FF.out.1.1
    have ZS : Hid (w.heap.size + 3 ≤ wc.heap.size ∧ bf < wc.heap.size) := ⟨M1.out.sz, cell_lt RF.out.2⟩
    have PR : Hid (∀ W, Below wc.heap.size wc W → ∀ h ∈ X.us, Calls Tryz.prog 172 (#[h.val] ++ #[.pointer (some ⟨w.heap.size + 2, 0, none⟩), .pointer (some ⟨w.heap.size, 0, none⟩), .pointer (some ⟨bf, 0, none⟩)]) W fun e w' => e = .returned (.bool (otherU ks l u.player h)) ∧ Below W.heap.size W w') := fun W hW h hh => by
      have fit := GD.out.2.2.2.2.2 h hh
      have z1 := ZS.out.1
      refine other_mv ks l h u.player (w.heap.size + 2) w.heap.size bf _ _ W ?_ ?_ ?_ ((KL0.out.below M1.out.b).below hW) (RF.out.1.below hW) fit.1 (by rw [LL.out]; exact fit.2)
      · rw [hW.cell (p := ⟨w.heap.size + 2, 1, none⟩) (show w.heap.size + 2 < wc.heap.size by omega)]
        exact M1.out.u.c1
      · rw [hW.cell (p := ⟨w.heap.size, 0, none⟩) (show w.heap.size < wc.heap.size by omega)]
        exact M1.out.k
      · rw [hW.cell (p := ⟨bf, 0, none⟩) ZS.out.2]
        exact RF.out.2
    clear ho hb x0 x1 x2 x3 x4 x5 x6 x7 x8
    go_wp2_with fail
    refine (del_any 172 (by intro args w; go_simp) v #[.pointer (some ⟨w.heap.size + 2, 0, none⟩), .pointer (some ⟨w.heap.size, 0, none⟩), .pointer (some ⟨bf, 0, none⟩)] X.us (otherU ks l u.player) w2 wc.heap.size O2.out B2.out.size GD.out.2.2.2.2.1 (fun W hW h hh => PR.out W (B2.out.trans hW) h hh)).mono ?_
    rintro e w3 ⟨v3, rfl, ho, hb⟩
    have B3 : Hid (Below wc.heap.size wc w3) := B2.out.trans hb
    have L3 : Hid (Unl w3 v3 (homes ks X.us l u.player)) := ho.l
    obtain ⟨a3, c3, rfl⟩ := ho.len
    obtain ⟨hs, hhs⟩ : ∃ hs, homes ks X.us l u.player = hs := ⟨_, rfl⟩
    have HS : Hid (homes ks X.us l u.player = hs) := hhs
    have e3 : (X.us.filter (fun k => !otherU ks l u.player k)).length = hs.length := by rw [← hhs]; rfl
    rw [hhs, e3] at L3
    rw [e3]
    clear ho hb e3 hhs O2 B2
    have UB : Hid (Unc w3 ⟨w.heap.size + 2, 0, none⟩ u) := M1.out.u.below B3.out (show w.heap.size + 2 < wc.heap.size by have := ZS.out.1; omega)
    have BW : Hid (Below w.heap.size w w3) := M1.out.b.trans (B3.out.mono (by have := ZS.out.1; omega))
    cases hs with
    | nil =>
      have HA : Hid (homeAt ks X.us l u = u.at_) := by unfold Hid homeAt; rw [HS.out]
      obtain ⟨q0', q1', q2', q3', q4', q5', q6', q7'⟩ := UB.out
      simp only [List.length_nil]
      go_wp2
      go_ret
      exact ⟨l, by rw [HA.out]; rfl, FF.out, BW.out⟩
    | cons y0 tl =>
      have HA : Hid (homeAt ks X.us l u = (minU (fun h => l.getD h.at_.toNat 0) y0 tl).at_) := by unfold Hid homeAt; rw [HS.out]
      have HM : Hid (∀ h ∈ y0 :: tl, h ∈ X.us) := fun h hh => by rw [← HS.out] at hh; exact (List.mem_filter.1 hh).1
      have TL : Hid (tl.length ≤ 1000000) := by
        have h1 : (homes ks X.us l u.player).length ≤ X.us.length := List.length_filter_le _ _
        rw [HS.out, List.length_cons] at h1
        have h2 := GD.out.2.2.2.2.1
        unfold Hid
        omega
      have hne : (((y0 :: tl).length : Nat) : Int) ≠ 0 := by rw [List.length_cons]; omega
      have hne' : ((((y0 :: tl).length : Nat) : Int) == 0) = false := by rw [beq_eq_false_iff_ne]; exact hne
      obtain ⟨n, hn⟩ : ∃ n, (y0 :: tl).length = n := ⟨_, rfl⟩
      have HN : Hid ((y0 :: tl).length = n) := hn
      rw [hn] at hne hne' ⊢
      clear hn
      have L4 : Hid (Unl w3 (.slice a3 n c3) (y0 :: tl)) := by rw [← HN.out]; exact L3.out
      clear L3
      go_wp2_with fail
      refine (min_any 173 (by intro args w; go_simp) _ #[.pointer (some ⟨bf, 0, none⟩)] y0 tl (fun h => l.getD h.at_.toNat 0) w3 L4.out TL.out (fun W hW a ha b hb => ?_)).mono ?_
      · have fa := (GD.out.2.2.2.2.2 a (HM.out a ha)).2
        have fb := (GD.out.2.2.2.2.2 b (HM.out b hb)).2
        refine nearer_mv l a b bf _ W ?_ ((RF.out.1.below B3.out).below hW) (flat_all FF.out GD.out.1.pos.2) (by rw [LL.out]; exact fa) (by rw [LL.out]; exact fb)
        rw [hW.cell (p := ⟨bf, 0, none⟩) (Nat.lt_of_lt_of_le ZS.out.2 B3.out.size), B3.out.cell (p := ⟨bf, 0, none⟩) ZS.out.2]
        exact RF.out.2
      · rintro e w4 ⟨rfl, hb⟩
        have B4 : Hid (Below w.heap.size w w4) := BW.out.trans (hb.mono BW.out.size)
        obtain ⟨m, hm⟩ : ∃ m, minU (fun h => l.getD h.at_.toNat 0) y0 tl = m := ⟨_, rfl⟩
        rw [hm] at HA ⊢
        clear hb hm
        unfold UnV.val
        have hfa := fun W => field_at m W
        go_wp2
        go_ret
        exact ⟨l, by rw [HA.out]; rfl, FF.out, B4.out⟩
end Go.Proofs.YteieikgkmfglaaaGreatDoor

namespace Go.Proofs.YteieikgkmfglaaaGreatDoor
open Go.RowKit
set_option linter.unusedVariables false

/-- the boxes of a world and a unit. -/
structure Am (w V : World) (X : WV) (u1 u2 u3 u4 u5 : Value) (u : UnV) : Prop where
  b : Below w.heap.size w V
  x : Bw V w.heap.size X u1 u2 u3 u4 u5
  u : Unc V ⟨w.heap.size + 1, 0, none⟩ u
theorem Am.below {w V V' : World} {X : WV} {u1 u2 u3 u4 u5 : Value} {u : UnV} (h : Am w V X u1 u2 u3 u4 u5 u) (hb : Below V.heap.size V V') : Am w V' X u1 u2 u3 u4 u5 u :=
  ⟨h.b.trans (hb.mono h.b.size), h.x.below hb h.x.lt, h.u.below hb h.u.lt⟩
theorem Am.new {w : World} (X : WV) (u1 u2 u3 u4 u5 : Value) (u : UnV) : Am w ((w.alloc (Obj.cells #[.int .i64 X.turn, .int .i64 X.next, .int .i64 X.wide, .int .i64 X.high, u1, u2, u3, u4, u5] 29)).alloc (Obj.cells #[.int .i64 u.id, .int .i64 u.player, .int .i64 u.kind, .int .i64 u.at_, .int .i64 u.life, .int .i64 u.load, .int .i64 u.task, .int .i64 u.goal] 44)) X u1 u2 u3 u4 u5 u :=
  ⟨((Below.refl _ _).alloc (Nat.le_refl _) _).alloc (by simp) _, (Bw.mk' X _ _ _ _ _ rfl).below ((Below.refl _ _).alloc (Nat.le_refl _) _) (by simp), Unc.mk' u (by simp)⟩
/-- it has nothing to take at its Goal. -/
def doneU (os : List Int) (u : UnV) (k : KV) : Bool := (u.load == k.n7) || (os.getD u.goal.toNat 0 == 0)

set_option maxRecDepth 100000 in
set_option maxHeartbeats 2000000 in
theorem isdone_any (vk vw : Value) (ks : List KV) (X : WV) (u : UnV) (k : KV) (w : World) (hk : Kl w vk ks) (hw : Wl w vw X) (h1 : 0 ≤ u.kind ∧ u.kind < (ks.length : Int)) (hk' : ks[u.kind.toNat]? = some k) (h2 : 0 ≤ u.goal ∧ u.goal < (X.os.length : Int)) :
    Calls Tryz.prog 158 #[vk, vw, u.val] w fun e w' => e = .returned (.bool (doneU X.os u k)) ∧ Below w.heap.size w w' := by
  obtain ⟨kn, hkn⟩ : ∃ n : Nat, u.kind = n := ⟨u.kind.toNat, by omega⟩
  obtain ⟨gn, hgn⟩ : ∃ n : Nat, u.goal = n := ⟨u.goal.toNat, by omega⟩
  have hkl : kn < ks.length := by omega
  have hgl : gn < X.os.length := by omega
  have hkk : ks[kn]? = some k := by rw [hkn, Int.toNat_natCast] at hk'; exact hk'
  have DU : Hid (doneU X.os u k = ((u.load == k.n7) || (X.os[gn] == 0))) := by unfold Hid doneU; rw [hgn, Int.toNat_natCast, List.getD_eq_getElem?_getD, List.getElem?_eq_getElem hgl]; rfl
  have H : Hid (Wl w vw X) := hw
  obtain ⟨p1, q1, p2, q2, p3, q3, p4, q4, p5, q5, rfl⟩ := wl_shape9 hw
  obtain ⟨pk, qk, rfl, ck1, ck2, kc⟩ := hk
  obtain ⟨xk, rfl, hxl, hxc⟩ := kc (by intro h; subst h; simp at hkl)
  have KK : Hid (Kc w (xk.add (kn * 11)) k ∧ (xk.add (kn * 11)).block < w.heap.size) := ⟨hxc kn k hkk, by rw [add_block]; exact hxl⟩
  have HE : Hid (u.kind = (kn : Nat) ∧ u.goal = (gn : Nat)) := ⟨hkn, hgn⟩
  clear hw h1 hk' h2 hkn hgn kc hxc hxl hkk
  unfold UnV.val
  go_enter Tryz.func158, Tryz.ntmps158
  go_upto_region 1 with fail
  have A0 : Hid (Am w ((w.alloc (Obj.cells #[.int .i64 X.turn, .int .i64 X.next, .int .i64 X.wide, .int .i64 X.high, .slice p1 X.gs.length q1, .slice p2 X.os.length q2, .slice p3 X.gold.length q3, .slice p4 X.us.length q4, .slice p5 X.qs.length q5] 29)).alloc (Obj.cells #[.int .i64 u.id, .int .i64 u.player, .int .i64 u.kind, .int .i64 u.at_, .int .i64 u.life, .int .i64 u.load, .int .i64 u.task, .int .i64 u.goal] 44)) X (.slice p1 X.gs.length q1) (.slice p2 X.os.length q2) (.slice p3 X.gold.length q3) (.slice p4 X.us.length q4) (.slice p5 X.qs.length q5) u) := Am.new X _ _ _ _ _ u
  generalize ((w.alloc (Obj.cells #[.int .i64 X.turn, .int .i64 X.next, .int .i64 X.wide, .int .i64 X.high, .slice p1 X.gs.length q1, .slice p2 X.os.length q2, .slice p3 X.gold.length q3, .slice p4 X.us.length q4, .slice p5 X.qs.length q5] 29)).alloc (Obj.cells #[.int .i64 u.id, .int .i64 u.player, .int .i64 u.kind, .int .i64 u.at_, .int .i64 u.life, .int .i64 u.load, .int .i64 u.task, .int .i64 u.goal] 44)) = w0 at *
  obtain ⟨x0, x1, x2, x3, x4, x5, x6, x7, x8⟩ := A0.out.x
  obtain ⟨y0, y1, y2, y3, y4, y5, y6, y7⟩ := A0.out.u
  rw [HE.out.1] at y2
  rw [HE.out.2] at y7
  have c8 := (KK.out.1.below A0.out.b KK.out.2).c8
  obtain ⟨ao, co, he, -, -, hoc⟩ := (H.out.below A0.out.b).slices.2.1
  obtain ⟨xo, hxo, -, hoc2⟩ := hoc (by intro h; rw [h] at hgl; simp at hgl)
  injection he with he1 he2 he3
  subst he1
  subst hxo
  have cg : w0.cell? (xo.add gn) = some (.int .i64 X.os[gn])   := hoc2 gn _ (List.getElem?_eq_getElem hgl)
  clear hoc hoc2 he2 he3
  have BB : Hid (Below w.heap.size w w0) := A0.out.b
  by_cases hd : u.load = k.n7
  · have D1 : Hid (doneU X.os u k = true) := by unfold Hid; rw [DU.out, hd]; simp
    rw [hd] at y5
    go_quiet (fail)
    go_wp2
    go_ret
    exact ⟨by rw [D1.out]; rfl, ⟨BB.out.os, BB.out.tape, BB.out.output, BB.out.size, BB.out.block⟩⟩
  · have hd' : (u.load == k.n7) = false := by rw [beq_eq_false_iff_ne]; exact hd
    by_cases hg : X.os[gn] = 0
    · have D1 : Hid (doneU X.os u k = true) := by unfold Hid; rw [DU.out, hg]; simp
      rw [hg] at cg
      go_quiet (fail)
      go_wp2
      go_ret
      exact ⟨by rw [D1.out]; rfl, ⟨BB.out.os, BB.out.tape, BB.out.output, BB.out.size, BB.out.block⟩⟩
    · have hg' : (X.os[gn] == 0) = false := by rw [beq_eq_false_iff_ne]; exact hg
      have D1 : Hid (doneU X.os u k = false) := by unfold Hid; rw [DU.out, hd', hg']; rfl
      go_quiet (fail)
      go_wp2
      go_ret
      exact ⟨by rw [D1.out]; first | rfl | simp [hg'], ⟨BB.out.os, BB.out.tape, BB.out.output, BB.out.size, BB.out.block⟩⟩

/-- the cell to which a unit is on its way. -/
def AimSays (ks : List KV) (X : WV) (Wn Hn : Nat) (u : UnV) (k : KV) (c : Int) : Prop :=
  (u.task = 0 ∧ c = u.at_) ∨ (u.task ≠ 0 ∧ ¬ (u.task = 2 ∧ doneU X.os u k = true) ∧ c = u.goal) ∨
    (u.task = 2 ∧ doneU X.os u k = true ∧ ∃ l, (Wy.IsFar (Fd.near Wn Hn) (fun i _ => (X.gs.map fun g => Fd.onto g k.f).getD i 0) u.at_.toNat (Wn * Hn) l ∧ Wy.Flat l) ∧ c = homeAt ks X.us l u)
set_option maxRecDepth 100000 in
set_option maxHeartbeats 2000000 in
theorem aim_any (vk vw : Value) (ks : List KV) (X : WV) (u : UnV) (Wn Hn : Nat) (k : KV) (w : World) (hk : Kl w vk ks) (hw : Wl w vw X) (hs : Sd w) (G : Fd.Good Wn Hn X.gs X.os) (e1 : X.wide = (Wn : Nat)) (e2 : X.high = (Hn : Nat)) (hl : X.us.length ≤ 1000000)
    (hu : Fit ks (Wn * Hn) u) (hk' : ks[u.kind.toNat]? = some k) (hus : ∀ h ∈ X.us, Fit ks (Wn * Hn) h) (hg : 0 ≤ u.goal ∧ u.goal < (Wn * Hn : Nat)) :
    Calls Tryz.prog 138 #[vk, vw, u.val] w fun e w' => ∃ c, e = .returned (.int .i64 c) ∧ AimSays ks X Wn Hn u k c ∧ Below w.heap.size w w' := by
  have H : Hid (Wl w vw X) := hw
  have K : Hid (Kl w vk ks) := hk
  have S : Hid (Sd w) := hs
  have GD : Hid (Fd.Good Wn Hn X.gs X.os ∧ X.wide = (Wn : Nat) ∧ X.high = (Hn : Nat) ∧ X.us.length ≤ 1000000 ∧ Fit ks (Wn * Hn) u ∧ ks[u.kind.toNat]? = some k ∧ (∀ h ∈ X.us, Fit ks (Wn * Hn) h) ∧ 0 ≤ u.goal ∧ u.goal < (X.os.length : Int)) := ⟨G, e1, e2, hl, hu, hk', hus, hg.1, by rw [G.ol]; exact hg.2⟩
  obtain ⟨p1, q1, p2, q2, p3, q3, p4, q4, p5, q5, rfl⟩ := wl_shape9 hw
  obtain ⟨pk, qk, rfl, ck1, ck2, -⟩ := hk
  clear hw hs G e1 e2 hl hu hk' hus hg
  have UV : Hid (u.val = .agg #[.int .i64 u.id, .int .i64 u.player, .int .i64 u.kind, .int .i64 u.at_, .int .i64 u.life, .int .i64 u.load, .int .i64 u.task, .int .i64 u.goal]) := rfl
  rw [UV.out]
  go_enter Tryz.func138, Tryz.ntmps138
  go_upto_region 1 with fail
  have A0 : Hid (Am w ((w.alloc (Obj.cells #[.int .i64 X.turn, .int .i64 X.next, .int .i64 X.wide, .int .i64 X.high, .slice p1 X.gs.length q1, .slice p2 X.os.length q2, .slice p3 X.gold.length q3, .slice p4 X.us.length q4, .slice p5 X.qs.length q5] 29)).alloc (Obj.cells #[.int .i64 u.id, .int .i64 u.player, .int .i64 u.kind, .int .i64 u.at_, .int .i64 u.life, .int .i64 u.load, .int .i64 u.task, .int .i64 u.goal] 44)) X (.slice p1 X.gs.length q1) (.slice p2 X.os.length q2) (.slice p3 X.gold.length q3) (.slice p4 X.us.length q4) (.slice p5 X.qs.length q5) u) := Am.new X _ _ _ _ _ u
  generalize ((w.alloc (Obj.cells #[.int .i64 X.turn, .int .i64 X.next, .int .i64 X.wide, .int .i64 X.high, .slice p1 X.gs.length q1, .slice p2 X.os.length q2, .slice p3 X.gold.length q3, .slice p4 X.us.length q4, .slice p5 X.qs.length q5] 29)).alloc (Obj.cells #[.int .i64 u.id, .int .i64 u.player, .int .i64 u.kind, .int .i64 u.at_, .int .i64 u.life, .int .i64 u.load, .int .i64 u.task, .int .i64 u.goal] 44)) = w0 at *
  obtain ⟨x0, x1, x2, x3, x4, x5, x6, x7, x8⟩ := A0.out.x
  obtain ⟨y0, y1, y2, y3, y4, y5, y6, y7⟩ := A0.out.u
  by_cases h0 : u.task = 0
  · have T0 : Hid (u.task = 0) := h0
    rw [h0] at y6
    clear h0
    go_wp2
    go_ret
    exact ⟨u.at_, rfl, .inl ⟨T0.out, rfl⟩, A0.out.b⟩
  have T0 : Hid (u.task ≠ 0) := h0
  have h0' : (u.task == 0) = false := by rw [beq_eq_false_iff_ne]; exact h0
  by_cases h2 : u.task = 2
  · have T2 : Hid (u.task = 2) := h2
    have h2' : (u.task == 2) = true := by rw [h2]; rfl
    clear h0 h2
    have ID : Hid (Calls Tryz.prog 158 #[.slice pk ks.length qk, .agg #[.int .i64 X.turn, .int .i64 X.next, .int .i64 X.wide, .int .i64 X.high, .slice p1 X.gs.length q1, .slice p2 X.os.length q2, .slice p3 X.gold.length q3, .slice p4 X.us.length q4, .slice p5 X.qs.length q5], .agg #[.int .i64 u.id, .int .i64 u.player, .int .i64 u.kind, .int .i64 u.at_, .int .i64 u.life, .int .i64 u.load, .int .i64 u.task, .int .i64 u.goal]] w0 fun e w' => e = .returned (.bool (doneU X.os u k)) ∧ Below w0.heap.size w0 w') := by
      have h := isdone_any _ _ ks X u k w0 (K.out.below A0.out.b) (H.out.below A0.out.b) GD.out.2.2.2.2.1.1 GD.out.2.2.2.2.2.1 GD.out.2.2.2.2.2.2.2
      rw [UV.out] at h
      exact h
    go_wp2_with fail
    refine Calls.mono ID.out ?_
    rintro e w1 ⟨rfl, hb⟩
    have A1 : Hid (Am w w1 X (.slice p1 X.gs.length q1) (.slice p2 X.os.length q2) (.slice p3 X.gold.length q3) (.slice p4 X.us.length q4) (.slice p5 X.qs.length q5) u) := A0.out.below hb
    obtain ⟨dn, hdn⟩ : ∃ d, doneU X.os u k = d := ⟨_, rfl⟩
    have DN : Hid (doneU X.os u k = dn) := hdn
    rw [hdn]
    clear hb hdn A0 x0 x1 x2 x3 x4 x5 x6 x7 x8 y0 y1 y2 y3 y4 y5 y6 y7
    obtain ⟨x0, x1, x2, x3, x4, x5, x6, x7, x8⟩ := A1.out.x
    obtain ⟨y0, y1, y2, y3, y4, y5, y6, y7⟩ := A1.out.u
    cases dn with
    | true =>
      have hh := home_any _ _ ks X u Wn Hn k w1 (K.out.below A1.out.b) (H.out.below A1.out.b) (S.out.below A1.out.b) GD.out.1 GD.out.2.1 GD.out.2.2.1 GD.out.2.2.2.1 GD.out.2.2.2.2.1 GD.out.2.2.2.2.2.1 GD.out.2.2.2.2.2.2.1
      rw [UV.out] at hh
      have HH : Hid _ := hh
      clear hh
      go_wp2_with fail
      refine Calls.mono HH.out ?_
      rintro e w2 ⟨l, rfl, hf, hb⟩
      have F : Hid (AimSays ks X Wn Hn u k (homeAt ks X.us l u)) := .inr (.inr ⟨T2.out, DN.out, l, hf, rfl⟩)
      have B2 : Hid (Below w.heap.size w w2) := A1.out.b.trans (hb.mono A1.out.b.size)
      obtain ⟨c, hc⟩ : ∃ c, homeAt ks X.us l u = c := ⟨_, rfl⟩
      rw [hc] at F ⊢
      clear hb hf hc x0 x1 x2 x3 x4 x5 x6 x7 x8 y0 y1 y2 y3 y4 y5 y6 y7
      go_wp2
      go_ret
      exact ⟨c, rfl, F.out, B2.out⟩
    | false =>
      go_wp2
      go_ret
      exact ⟨u.goal, rfl, .inr (.inl ⟨T0.out, fun h => (by have h9 := h.2; rw [DN.out] at h9; cases h9), rfl⟩), A1.out.b⟩
  · have h2' : (u.task == 2) = false := by rw [beq_eq_false_iff_ne]; exact h2
    have T2 : Hid (u.task ≠ 2) := h2
    clear h0 h2
    go_wp2
    go_ret
    exact ⟨u.goal, rfl, .inr (.inl ⟨T0.out, fun h => T2.out h.1, rfl⟩), A0.out.b⟩
end Go.Proofs.YteieikgkmfglaaaGreatDoor

namespace Go.Proofs.YteieikgkmfglaaaGreatDoor
open Go.RowKit Wy
set_option linter.unusedVariables false

theorem enter_to : ∀ args w, (callFunc 180 args).run Tryz.prog w = .ok (.enter 180 args) w := by
  intro args w
  go_simp
set_option maxHeartbeats 1000000 in
theorem on_to (z n : Nat) (u1 u2 : Value) (ss : List Int) (i j : Nat) (w : World) (X : Bl w z u1 u2) (hu : Ro w u2 ss) (hl : ss.length = n) (hi : i < n) :
    Calls Tryz.prog 180 #[.int .i64 (i : Nat), .int .i64 (j : Nat), .pointer (some ⟨z, 0, none⟩)] w fun e w' => e = .returned (.int .i64 (ss.getD i 0)) ∧ w' = w := by
  obtain ⟨a, c, rfl, c1, c2, ca⟩ := hu
  obtain ⟨x, rfl, -, hx⟩ := ca (by intro e; rw [e] at hl; simp at hl; omega)
  have e : ss[i]? = some (ss.getD i 0) := by rw [List.getD_eq_getElem?_getD, List.getElem?_eq_getElem (by omega)]; rfl
  have cx := hx i _ e
  have x1 := X.c1
  generalize ss.getD i 0 = s at *
  rw [hl] at *
  clear hx ca e X
  go_enter Tryz.func180, Tryz.ntmps180
  go_wp2
  go_ret
  exact ⟨rfl, rfl⟩

set_option maxHeartbeats 1000000 in
theorem farTo_ok (v : Value) (n t : Nat) (nb : Nat → List Int) (ss : List Int) (w : World) (h : Ld w v n nb ss) (E : Even nb (fun _ j => ss.getD j 0) n) (ht : t < n) (hn : n ≤ 144) (h4 : ∀ i, (nb i).length ≤ 4) :
    Calls Tryz.prog 169 #[v, .int .i64 (t : Nat)] w fun e w' => ∃ b l, e = .returned (.slice (some ⟨b, 0, none⟩) n n) ∧ w.heap.size ≤ b ∧ Bk w' b l #[] ∧ (IsFar nb (fun _ j => ss.getD j 0) t n l ∧ Flat l) ∧ Below w.heap.size w w' := by
  have L0 : Hid (Ld w v n nb ss) := h
  have E0 : Hid (Even nb (fun _ j => ss.getD j 0) n) := E
  have T0 : Hid (t < n ∧ n ≤ 144 ∧ ∀ i, (nb i).length ≤ 4) := ⟨ht, hn, h4⟩
  obtain ⟨u1, u2, rfl, hb1, hr2, hl⟩ := h
  have R2 : Hid (Ro w u2 ss ∧ ss.length = n) := ⟨hr2, hl⟩
  obtain ⟨x1, c1, e1, -⟩ := hb1
  obtain ⟨x2, c2, e2, -⟩ := hr2
  clear ht hn h4 E hl
  have b0 : Below w.heap.size w (w.alloc (Obj.cells #[u1, u2] 147)) := (Below.refl _ _).alloc (Nat.le_refl _) _
  have X0 : Hid (Bl (w.alloc (Obj.cells #[u1, u2] 147)) w.heap.size u1 u2) := Bl.mk' u1 u2 rfl
  have B0 : Hid (Below w.heap.size w (w.alloc (Obj.cells #[u1, u2] 147))) := b0
  clear b0
  have hon : ∀ w' (i j : Nat), i < n → j < n → Below (w.alloc (Obj.cells #[u1, u2] 147)).heap.size (w.alloc (Obj.cells #[u1, u2] 147)) w' → Calls Tryz.prog 180 #[.int .i64 (i : Nat), .int .i64 (j : Nat), .pointer (some ⟨w.heap.size, 0, none⟩)] w' fun e w'' => e = .returned (.int .i64 ((fun _ j => ss.getD j 0) j i)) ∧ w'' = w' := fun w' i j hi hj hb =>
    on_to w.heap.size n u1 u2 ss i j w' (X0.out.below hb X0.out.lt) ((R2.out.1.below B0.out).below hb) R2.out.2 hi
  have Ho : Hid (∀ w' (i j : Nat), i < n → j < n → Below (w.alloc (Obj.cells #[u1, u2] 147)).heap.size (w.alloc (Obj.cells #[u1, u2] 147)) w' → Calls Tryz.prog 180 #[.int .i64 (i : Nat), .int .i64 (j : Nat), .pointer (some ⟨w.heap.size, 0, none⟩)] w' fun e w'' => e = .returned (.int .i64 ((fun _ j => ss.getD j 0) j i)) ∧ w'' = w') := hon
  clear hon
  subst e1
  subst e2
  go_enter Tryz.func169, Tryz.ntmps169
  go_wp2_with fail
  refine (spread_ok 180 enter_to _ _ n t nb ss _ _ (L0.out.below B0.out) E0.out T0.out.1 T0.out.2.1 T0.out.2.2 Ho.out).mono ?_
  rintro e w1 ⟨b, l, rfl, hbz, hbk, hf, hb⟩
  have P : Hid (w.heap.size ≤ b ∧ Bk w1 b l #[] ∧ (IsFar nb (fun _ j => ss.getD j 0) t n l ∧ Flat l) ∧ Below w.heap.size w w1) := ⟨Nat.le_trans B0.out.size hbz, hbk, hf, B0.out.trans (hb.mono B0.out.size)⟩
  clear hbz hbk hf hb Ho
  go_wp2
  go_ret
  exact ⟨b, l, rfl, P.out.1, P.out.2.1, P.out.2.2.1, P.out.2.2.2⟩

end Go.Proofs.YteieikgkmfglaaaGreatDoor

namespace Go.Proofs.YteieikgkmfglaaaGreatDoor
open Go.RowKit Wy
set_option linter.unusedVariables false

theorem enter_next : ∀ args w, (callFunc 181 args).run Tryz.prog w = .ok (.enter 181 args) w := by
  intro args w
  go_simp


set_option maxHeartbeats 2000000 in
theorem pn_any (z1 z2 z3 n : Nat) (u1 u2 uf : Value) (ss l : List Int) (i x : Nat) (w : World) (X : Bl w z1 u1 u2) (hu : Ro w u2 ss) (hf : Ro w uf l) (hl : ss.length = n) (hm : l.length = n) (c2 : w.cell? ⟨z2, 0, none⟩ = some uf) (c3 : w.cell? ⟨z3, 0, none⟩ = some (.int .i64 (i : Nat)))
    (hi : i < n) (hx : x < n) (hn : n ≤ 144) (bs : ∀ j, ss.getD j 0 ≤ 2) (bl : ∀ j, l.getD j 0 ≤ 288) :
    Calls Tryz.prog 181 #[.int .i64 (x : Nat), .pointer (some ⟨z1, 0, none⟩), .pointer (some ⟨z2, 0, none⟩), .pointer (some ⟨z3, 0, none⟩)] w fun e w' => e = .returned (.bool (pn ss l i x)) ∧ ∃ q, w' = w.drewN q := by
  obtain ⟨a, c, rfl, e1, e2, ca⟩ := hu
  obtain ⟨a', c', rfl, e1', e2', ca'⟩ := hf
  obtain ⟨y, rfl, -, hy⟩ := ca (by intro e; rw [e] at hl; simp at hl; omega)
  obtain ⟨y', rfl, -, hy'⟩ := ca' (by intro e; rw [e] at hm; simp at hm; omega)
  have cs := hy x _ (get_some hl hx)
  have cd := hy' x _ (get_some hm hx)
  have ce := hy' i _ (get_some hm hi)
  have P : Hid (pn ss l i x = (decide (0 < ss.getD x 0) && (decide (0 ≤ l.getD x 0) && decide (ss.getD x 0 + l.getD x 0 = l.getD i 0)))) := by unfold Hid pn; rw [Int.toNat_natCast]
  have b1 := bs x
  have b2 := bl x
  have x1 := X.c1
  rw [hl] at e1 x1
  rw [hm] at e1' c2
  generalize ss.getD x 0 = s at *
  generalize l.getD x 0 = d at *
  generalize l.getD i 0 = f at *
  clear hy hy' ca ca' X hl hm bs bl
  by_cases h1 : 0 < s
  · by_cases h2 : 0 ≤ d
    · by_cases h3 : s + d = f
      · have R : Hid (pn ss l i x = true) := by unfold Hid; rw [P.out, decide_eq_true h1, decide_eq_true h2, decide_eq_true h3]; rfl
        clear P
        go_enter Tryz.func181, Tryz.ntmps181
        go_wp2
        go_quiet (fail)
        go_wp2
        go_ret
        exact ⟨by rw [R.out]; rfl, _, rfl⟩
      · have R : Hid (pn ss l i x = false) := by unfold Hid; rw [P.out, decide_eq_true h1, decide_eq_true h2, decide_eq_false h3]; rfl
        have h3' : (s + d == f) = false := by simpa using h3
        clear P
        go_enter Tryz.func181, Tryz.ntmps181
        go_wp2
        go_quiet (fail)
        go_wp2
        go_ret
        exact ⟨by rw [R.out]; rfl, _, rfl⟩
    · have R : Hid (pn ss l i x = false) := by unfold Hid; rw [P.out, decide_eq_true h1, decide_eq_false h2]; rfl
      have h2' : decide (0 ≤ d) = false := decide_eq_false h2
      clear P
      go_enter Tryz.func181, Tryz.ntmps181
      go_wp2
      go_quiet (fail)
      go_wp2
      go_ret
      exact ⟨by rw [R.out]; rfl, _, rfl⟩
  · have R : Hid (pn ss l i x = false) := by unfold Hid; rw [P.out, decide_eq_false h1]; rfl
    have h1' : decide (0 < s) = false := decide_eq_false h1
    clear P
    go_enter Tryz.func181, Tryz.ntmps181
    go_wp2
    go_quiet (fail)
    go_wp2
    go_ret
    exact ⟨by rw [R.out]; rfl, _, rfl⟩

set_option maxHeartbeats 2000000 in
theorem next_ok (v uf : Value) (n i : Nat) (nb : Nat → List Int) (ss l : List Int) (w : World) (h : Ld w v n nb ss) (hf : Ro w uf l) (hm : l.length = n) (hi : i < n) (hn : n ≤ 144) (bs : ∀ j, ss.getD j 0 ≤ 2) (bl : ∀ j, l.getD j 0 ≤ 288)
    (E : ∀ x, x ∈ nb i → ∃ j : Nat, x = j ∧ j < n) (hx : ∃ x ∈ nb i, pn ss l i x = true) :
    Calls Tryz.prog 170 #[v, uf, .int .i64 (i : Nat)] w fun e w' => ∃ j : Nat, e = .returned (.int .i64 (j : Nat)) ∧ j < n ∧ Nx nb ss l i j ∧ Below w.heap.size w w' := by
  obtain ⟨r, hr⟩ := fst_ex (pn ss l i) (nb i)
  obtain ⟨k, j, rfl, hj, hk, hN⟩ := fst_nx E hr hx
  have HN : Hid (j < n ∧ Nx nb ss l i j) := ⟨hj, hN⟩
  obtain ⟨u1, u2, rfl, ⟨x, c, rfl, c1, c2, hb⟩, hr2, hl⟩ := h
  obtain ⟨ui, hui, hri⟩ := hb i hi
  have k0 : w.heap.size ≤ w.heap.size := Nat.le_refl _
  generalize hw1 : w.alloc (Obj.cells #[.slice (some x) n c, u2] 147) = w1
  have b1 : Below w.heap.size w w1 := by rw [← hw1]; exact (Below.refl _ _).alloc (Nat.le_refl _) _
  have X1 : Bl w1 w.heap.size (.slice (some x) n c) u2 := by rw [← hw1]; exact Bl.mk' _ _ rfl
  have z1 : w1.heap.size = w.heap.size + 1 := by rw [← hw1]; simp
  generalize hw2 : w1.alloc (Obj.cells #[uf] 23) = w2
  have b2 : Below w1.heap.size w1 w2 := by rw [← hw2]; exact (Below.refl _ _).alloc (Nat.le_refl _) _
  have d2 : w2.cell? ⟨w.heap.size + 1, 0, none⟩ = some uf := by rw [← hw2, ← z1]; simp
  have z2 : w2.heap.size = w.heap.size + 1 + 1 := by rw [← hw2]; simp [z1]
  generalize hw3 : w2.alloc (Obj.cells #[.int .i64 (i : Nat)] 3) = w3
  have b3 : Below w2.heap.size w2 w3 := by rw [← hw3]; exact (Below.refl _ _).alloc (Nat.le_refl _) _
  have d3 : w3.cell? ⟨w.heap.size + 1 + 1, 0, none⟩ = some (.int .i64 (i : Nat)) := by rw [← hw3, ← z2]; simp
  have b03 : Below w.heap.size w w3 := (b1.trans (b2.mono b1.size)).trans (b3.mono (Nat.le_trans b1.size b2.size))
  have X3 : Bl w3 w.heap.size (.slice (some x) n c) u2 := (X1.below b2 X1.lt).below b3 (Nat.lt_of_lt_of_le X1.lt b2.size)
  have d2' : w3.cell? ⟨w.heap.size + 1, 0, none⟩ = some uf := by rw [b3.cell (p := ⟨w.heap.size + 1, 0, none⟩) (by rw [z2]; exact Nat.lt_succ_self _)]; exact d2
  have ri3 : Ro w3 ui (nb i) := hri.below b03
  have hui3 : w3.cell? (x.add i) = some ui := by rw [b03.cell (p := x.add i) (cell_lt hui)]; exact hui
  have CI : Hid (∀ m, Calls Tryz.prog 67 #[ui, .func (Fn.func 181) #[] #[.pointer (some ⟨w.heap.size, 0, none⟩), .pointer (some ⟨w.heap.size + 1, 0, none⟩), .pointer (some ⟨w.heap.size + 1 + 1, 0, none⟩)]] (w3.drewN m) fun e w' => e = .returned (.int .i64 (k : Nat)) ∧ ∃ q, w' = (w3.drewN m).drewN q) := by
    intro m
    refine (idxf_any 181 enter_next ui _ (nb i) (pn ss l i) (w3.drewN m) (ri3.drewN m) ?_).mono ?_
    · intro m' y hy
      obtain ⟨y', rfl, hy'⟩ := E y hy
      rw [show (#[Value.int .i64 (y' : Nat)] ++ #[Value.pointer (some ⟨w.heap.size, 0, none⟩), Value.pointer (some ⟨w.heap.size + 1, 0, none⟩), Value.pointer (some ⟨w.heap.size + 1 + 1, 0, none⟩)] : Array Value) = #[.int .i64 (y' : Nat), .pointer (some ⟨w.heap.size, 0, none⟩), .pointer (some ⟨w.heap.size + 1, 0, none⟩), .pointer (some ⟨w.heap.size + 1 + 1, 0, none⟩)] from rfl]
      refine (pn_any w.heap.size (w.heap.size + 1) (w.heap.size + 1 + 1) n (.slice (some x) n c) u2 uf ss l i y' _ (X3.below (_root_.Go.below_drewN (_root_.Go.below_drewN (Below.refl _ _) _) _) X3.lt) (((hr2.below b03).drewN m).drewN m') (((hf.below b03).drewN m).drewN m') hl hm d2' d3 hi hy' hn bs bl).mono ?_
      rintro e w' ⟨h1, q, h2⟩
      exact ⟨h1, m' + q, by rw [h2, World.drewN_drewN]⟩
    · rintro e w' ⟨r, rfl, h2, q, h3⟩
      exact ⟨by rw [fst_uniq h2 hr], q, h3⟩
  have B3 : Hid (Below w.heap.size w w3) := b03
  have Hw : Hid (((w.alloc (Obj.cells #[.slice (some x) n c, u2] 147)).alloc (Obj.cells #[uf] 23)).alloc (Obj.cells #[.int .i64 (i : Nat)] 3) = w3) := by unfold Hid; rw [hw1, hw2, hw3]
  obtain ⟨ai, ci, rfl, g1, g2, ca⟩ := ri3
  have hkl : k < (nb i).length := (List.getElem?_eq_some_iff.1 hk).1
  obtain ⟨yi, rfl, -, hyi⟩ := ca (by intro e; rw [e] at hkl; simp at hkl)
  have ck := hyi k _ hk
  have x0 := X3.c0
  obtain ⟨af, cf, rfl, -⟩ := hf
  obtain ⟨a2, cc2, rfl, -⟩ := hr2
  clear hm hl hr hx hN hb hri hui k0 hw1 b1 X1 z1 hw2 b2 d2 z2 hw3 b3 b03 X3 d2' ca hyi hk E bs bl hj
  go_enter Tryz.func170, Tryz.ntmps170
  go_wp2_with fail
  rw [Hw.out]
  go_quiet ((go_at_call 67; exact Calls.quiet_of (CI.out _)))
  go_wp2
  go_ret
  exact ⟨j, rfl, HN.out.1, HN.out.2, _root_.Go.below_drewN B3.out _⟩
end Go.Proofs.YteieikgkmfglaaaGreatDoor

namespace Go.Proofs.YteieikgkmfglaaaGreatDoor
open Go.RowKit Wy
set_option linter.unusedVariables false

set_option maxHeartbeats 1000000 in
theorem Path_bad (v : Value) (W H : Int) (gs os : List Int) (a b F : Int) (fl : Bool) (w : World) (h : Fl w v W H gs os) (hs : Sd w) (hF : Fd.askFault (Fd.fault W H gs os) gs.length [a, b] = F) (h0 : F ≠ 0) :
    Calls Tryz.prog 157 #[v, .int .i64 a, .int .i64 b, .bool fl] w fun e w' => e = .returned (.tuple #[.slice none 0 0, .iface 77 (.int .i64 F)]) ∧ Below w.heap.size w w' := by
  have F0 : Hid (Fl w v W H gs os) := h
  have S0 : Hid (Sd w) := hs
  have HF : Hid (Fd.askFault (Fd.fault W H gs os) gs.length [a, b] = F) := hF
  have H0 : Hid (F ≠ 0) := h0
  obtain ⟨u1, u2, rfl, ⟨a1, c, rfl, c1, c2, ca⟩, ⟨b1, d, rfl, d1, d2, cb⟩⟩ := h
  clear hF h0 ca cb hs
  go_enter Tryz.func157, Tryz.ntmps157
  go_wp2_with fail
  have b0 : Below w.heap.size w ((w.alloc (Obj.cells #[.int .i64 W, .int .i64 H, .slice a1 gs.length c, .slice b1 os.length d] 25)).alloc (Obj.cells #[.int .i64 a, .int .i64 b] 3)) := ((Below.refl _ _).alloc (Nat.le_refl _) _).alloc (by simp) _
  refine (look_no _ _ W H gs os [a, b] F fl _ (F0.out.below b0) (S0.out.below b0) (Ro.lit2 (w := w.alloc _) a b (by simp)) HF.out H0.out).mono ?_
  rintro e w1 ⟨rfl, hb⟩
  have B1 : Hid (Below w.heap.size w w1) := b0.trans (hb.mono (by simp; omega))
  clear hb b0
  go_wp2
  go_ret2
  exact ⟨rfl, B1.out.alloc B1.out.size _⟩

set_option maxHeartbeats 4000000 in
theorem Path_ok (v : Value) (W H : Nat) (gs os : List Int) (a b : Nat) (fl : Bool) (w : World) (h : Fl w v W H gs os) (hs : Sd w) (G : Fd.Good W H gs os) (ha : a < W * H) (hb : b < W * H) :
    Calls Tryz.prog 157 #[v, .int .i64 (a : Nat), .int .i64 (b : Nat), .bool fl] w fun e w' => ∃ l, (IsFar (Fd.near W H) (fun _ j => (gs.map fun g => Fd.onto g fl).getD j 0) b (W * H) l ∧ Flat l) ∧
      ((l.getD a 0 < 0 ∧ e = .returned (.tuple #[.slice none 0 0, .iface 77 (.int .i64 7)])) ∨ (0 ≤ l.getD a 0 ∧ ∃ u p, e = .returned (.tuple #[u, .nilIface]) ∧ Ro w' u p ∧ Pth (Fd.near W H) (gs.map fun g => Fd.onto g fl) l b a p ∧ p.length ≤ 1000)) ∧ Below w.heap.size w w' := by
  have F0 : Hid (Fl w v W H gs os) := h
  have S0 : Hid (Sd w) := hs
  have G0 : Hid (Fd.Good W H gs os) := G
  have A0 : Hid (a < W * H ∧ b < W * H) := ⟨ha, hb⟩
  obtain ⟨u1, u2, rfl, ⟨a1, c, rfl, c1, c2, ca⟩, ⟨b1, d, rfl, d1, d2, cb⟩⟩ := h
  obtain ⟨ss, hss⟩ : ∃ ss, (gs.map fun g => Fd.onto g fl) = ss := ⟨_, rfl⟩
  have Hss : Hid ((gs.map fun g => Fd.onto g fl) = ss) := hss
  have E0 : Hid (Even (Fd.near W H) (fun _ j => ss.getD j 0) (W * H)) := by rw [← hss]; exact even_to G.w1 gs fl
  have T0 : Hid (∀ j, ss.getD j 0 ≤ 2) := by rw [← hss]; exact ss_two gs fl
  rw [hss]
  clear ca cb hs G ha hb hss
  go_enter Tryz.func157, Tryz.ntmps157
  go_wp2_with fail
  have b0 : Below w.heap.size w ((w.alloc (Obj.cells #[.int .i64 W, .int .i64 H, .slice a1 gs.length c, .slice b1 os.length d] 25)).alloc (Obj.cells #[.int .i64 (a : Nat), .int .i64 (b : Nat)] 3)) := ((Below.refl _ _).alloc (Nat.le_refl _) _).alloc (by simp) _
  refine (look_ok _ _ W H gs os [(a : Int), (b : Int)] fl _ (F0.out.below b0) G0.out (S0.out.below b0) (Ro.lit2 (w := w.alloc _) (a : Int) (b : Int) (by simp)) (by have := A0.out; simp; omega)).mono ?_
  rintro e w1 ⟨⟨v1, rfl, hL⟩, hb⟩
  rw [Hss.out] at hL
  have B1 : Hid (Below w.heap.size w w1) := b0.trans (hb.mono (by simp; omega))
  have L1 : Hid (Ld w1 v1 (W * H) (Fd.near W H) ss) := hL
  obtain ⟨p1, p2, rfl, ⟨x1, k1, rfl, -⟩, ⟨x2, k2, rfl, -⟩, -⟩ := hL
  clear hb b0
  go_wp2_with fail
  have b2 : Below w1.heap.size w1 (w1.alloc (Obj.cells #[.slice (some x1) (W * H) k1, .slice x2 ss.length k2] 147)) := (Below.refl _ _).alloc (Nat.le_refl _) _
  have X1 := Bl.mk' (w := w1) (.slice (some x1) (W * H) k1) (.slice x2 ss.length k2) rfl
  refine (farTo_ok _ (W * H) b (Fd.near W H) ss _ (L1.out.below b2) E0.out A0.out.2 G0.out.pos.2 (Fd.near_len W H)).mono ?_
  rintro e w2 ⟨g, l, rfl, hbz, hbk, ⟨hf, hfl⟩, hb⟩
  have P : Hid (Ro w2 (.slice (some ⟨g, 0, none⟩) (W * H) (W * H)) l) := by
    have := hbk.ro (c := W * H) (by rw [hf.1]; exact Nat.le_refl _) (by have := G0.out.pos.2; omega)
    rw [hf.1] at this
    exact this
  have HF : Hid (IsFar (Fd.near W H) (fun _ j => ss.getD j 0) b (W * H) l ∧ Flat l) := ⟨hf, hfl⟩
  have B2 : Hid (Below w.heap.size w w2) := (B1.out.trans (b2.mono B1.out.size)).trans (hb.mono (Nat.le_trans B1.out.size b2.size))
  have X2 : Hid (Bl w2 w1.heap.size (.slice (some x1) (W * H) k1) (.slice x2 ss.length k2)) := X1.below hb X1.lt
  have L2 : Hid (Ld w2 (.agg #[.slice (some x1) (W * H) k1, .slice x2 ss.length k2]) (W * H) (Fd.near W H) ss) := (L1.out.below b2).below hb
  have N0 : W * H ≤ 144 := G0.out.pos.2
  have ca := hbk.cell (get_some hf.1 A0.out.1)
  have LB : Hid (∀ j, l.getD j 0 ≤ 288) := flat_le hfl hf.1 N0
  clear hbz hbk hb b2 X1 L1 B1 hf hfl
  have a0 : a < W * H := A0.out.1
  obtain ⟨y, hy⟩ : ∃ y, l.getD a 0 = y := ⟨_, rfl⟩
  have Hy : Hid (l.getD a 0 = y) := hy
  rw [hy] at ca
  clear hy
  by_cases hd : y < 0
  · go_wp2
    go_ret2
    exact ⟨l, HF, .inl ⟨by rw [Hy.out]; exact hd, rfl⟩, B2⟩
  · go_wp2_with fail
    have O3 : Hid (Ow (w2.alloc (Obj.cells #[.int .i64 (a : Nat)] 3)) w2.heap.size (.slice (some ⟨w2.heap.size, 0, none⟩) 1 1) [(a : Int)]) := Ow.one (a : Int) (Nat.le_refl _) rfl
    have B3 : Hid (Below w2.heap.size w2 (w2.alloc (Obj.cells #[.int .i64 (a : Nat)] 3))) := (Below.refl _ _).alloc (Nat.le_refl _) _
    generalize w2.alloc (Obj.cells #[.int .i64 (a : Nat)] 3) = w3 at *
    have Ya : Hid (0 ≤ l.getD a 0) := by unfold Hid; rw [Hy.out]; omega
    have Yb : Hid (l.getD a 0 ≤ 288) := LB.out a
    clear ca hd
    go_loopw [13, 14] (fun v i W' => ∃ (k : Nat) (pre : List Int), i = .int .i64 (k : Nat) ∧ k < W * H ∧ 0 ≤ l.getD k 0 ∧ Ow W' w2.heap.size v (pre ++ [(k : Int)]) ∧ (∀ p, Pth (Fd.near W H) ss l b k p → Pth (Fd.near W H) ss l b a (pre ++ p)) ∧ Below w2.heap.size w2 W' ∧ (pre.length : Int) + l.getD k 0 ≤ l.getD a 0) (fun _ i _ => (l.getD (intOf i).toNat 0).toNat)
    case atStart => exact ⟨a, [], rfl, a0, Ya, O3, fun p hp => hp, B3, by simp⟩
    case round =>
      obtain ⟨k, pre, rfl, hk, hk0, ho, hp, hb, hm⟩ := hrel
      clear O3 B3
      have O : Hid (Ow wr w2.heap.size u13 (pre ++ [(k : Int)])) := ho
      have Pp : Hid (∀ p, Pth (Fd.near W H) ss l b k p → Pth (Fd.near W H) ss l b a (pre ++ p)) := hp
      have B : Hid (Below w2.heap.size w2 wr) := hb
      have M : Hid ((pre.length : Int) + l.getD k 0 ≤ l.getD a 0 ∧ 0 ≤ l.getD k 0 ∧ k < W * H) := ⟨hm, hk0, hk⟩
      clear ho hp hb hm hk0
      by_cases h0 : k = b
      · subst h0
        go_wp2
        go_ret2
        refine ⟨l, HF, .inr ⟨Ya, _, _, rfl, O.out.ro, Pp.out _ .here, ?_⟩, B2.out.trans (B.out.mono B2.out.size)⟩
        have := M.out
        have := Yb.out
        simp
        omega
      · have hx := has_next E0.out HF.out.1 hk M.out.2.1 h0
        have e0 : (fun x : Int => ∃ j : Nat, x = j ∧ j < W * H) = fun x : Int => ∃ j : Nat, x = j ∧ j < W * H := rfl
        have CN : Hid (Calls Tryz.prog 170 #[.agg #[.slice (some x1) (W * H) k1, .slice x2 ss.length k2], .slice (some ⟨g, 0, none⟩) (W * H) (W * H), .int .i64 (k : Nat)] wr fun e w' => ∃ j : Nat, e = .returned (.int .i64 (j : Nat)) ∧ j < W * H ∧ Nx (Fd.near W H) ss l k j ∧ Below wr.heap.size wr w') :=
          next_ok _ _ (W * H) k (Fd.near W H) ss l wr (L2.out.below B.out) (P.out.below B.out) HF.out.1.1 hk N0 T0.out LB.out (fun x hx => by obtain ⟨j, h1, h2, -⟩ := E0.out.cell k x hk hx; exact ⟨j, h1, h2⟩) hx
        obtain ⟨y0, y1⟩ := X2.out.below B.out X2.out.lt
        clear e0 hx
        go_wp2_with fail
        refine Calls.mono CN.out ?_
        rintro e w4 ⟨j, rfl, hj, hN, hb4⟩
        have ba : Below w4.heap.size w4 (w4.alloc (Obj.cells #[.int .i64 (j : Nat)] 3)) := (Below.refl _ _).alloc (Nat.le_refl _) _
        have O5 : Hid (Ow (w4.alloc (Obj.cells #[.int .i64 (j : Nat)] 3)) w2.heap.size u13 (pre ++ [(k : Int)])) := (O.out.below hb4).below ba
        have B5 : Hid (Below w2.heap.size w2 (w4.alloc (Obj.cells #[.int .i64 (j : Nat)] 3))) := (B.out.trans (hb4.mono B.out.size)).trans (ba.mono (Nat.le_trans B.out.size hb4.size))
        have Cd : Hid ((w4.alloc (Obj.cells #[.int .i64 (j : Nat)] 3)).cell? ⟨w4.heap.size, 0, none⟩ = some (.int .i64 (j : Nat))) := by unfold Hid; simp
        have HN : Hid (Nx (Fd.near W H) ss l k j) := hN
        have is := hN.is
        have Ln : Hid ((pre ++ [(k : Int)]).length ≤ 1000000000) := by
          have := M.out
          have := Yb.out
          unfold Hid
          simp
          omega
        have Q : Hid (∀ p, Pth (Fd.near W H) ss l b j p → Pth (Fd.near W H) ss l b a ((pre ++ [(k : Int)]) ++ p)) := fun p hp => by
          have := Pp.out _ (.step h0 hN hp)
          rw [List.append_assoc]
          exact this
        have M' : Hid (((pre ++ [(k : Int)]).length : Int) + l.getD j 0 ≤ l.getD a 0 ∧ 0 ≤ l.getD j 0 ∧ l.getD j 0 < l.getD k 0) := by
          have := M.out
          unfold Hid
          simp only [List.length_append, List.length_cons, List.length_nil]
          omega
        clear hb4 ba O B CN hN is y0 y1 Pp
        generalize pre ++ [(k : Int)] = pr at *
        go_wp2_with (at_builtin; refine app_int _ rfl _ _ rfl w2.heap.size _ pr rfl O5.out ⟨w4.heap.size, 0, none⟩ (j : Nat) rfl Cd.out Ln.out B5.out.size ?_)
        intro g6 cap6 w6 o6 gr6 at6 lt6
        have O6 : Hid (Ow w6 w2.heap.size (.slice (some ⟨g6, 0, none⟩) (pr.length + 1) cap6) (pr ++ [(j : Int)])) := o6
        have B6 : Hid (Below w2.heap.size w2 w6) := B5.out.trans ((Below.refl _ _).grown gr6 B5.out.size (fun k hk => (O5.out.block k hk).1))
        clear o6 gr6 at6 lt6 O5 B5 Cd
        go_wp2
        go_round
        case rel => exact ⟨j, pr, rfl, hj, M'.out.2.1, O6, Q, B6, M'.out.1⟩
        case measure =>
          have := M'.out
          show (l.getD (Int.toNat (j : Int)) 0).toNat < (l.getD (Int.toNat (k : Int)) 0).toNat
          rw [Int.toNat_natCast, Int.toNat_natCast]
          omega

set_option maxHeartbeats 1000000 in
theorem Next_bad (v : Value) (W H : Int) (gs os : List Int) (a b F : Int) (fl : Bool) (w : World) (h : Fl w v W H gs os) (hs : Sd w) (hF : Fd.askFault (Fd.fault W H gs os) gs.length [a, b] = F) (h0 : F ≠ 0) :
    Calls Tryz.prog 137 #[v, .int .i64 a, .int .i64 b, .bool fl] w fun e w' => e = .returned (.tuple #[.int .i64 0, .iface 77 (.int .i64 F)]) ∧ Below w.heap.size w w' := by
  have F0 : Hid (Fl w v W H gs os) := h
  have S0 : Hid (Sd w) := hs
  have HF : Hid (Fd.askFault (Fd.fault W H gs os) gs.length [a, b] = F) := hF
  have H0 : Hid (F ≠ 0) := h0
  obtain ⟨u1, u2, rfl, ⟨a1, c, rfl, c1, c2, ca⟩, ⟨b1, d, rfl, d1, d2, cb⟩⟩ := h
  clear hF h0 ca cb hs
  have b0 : Hid (Below w.heap.size w (w.alloc (Obj.cells #[.int .i64 W, .int .i64 H, .slice a1 gs.length c, .slice b1 os.length d] 25))) := (Below.refl _ _).alloc (Nat.le_refl _) _
  go_enter Tryz.func137, Tryz.ntmps137
  go_wp2_with fail
  refine (Path_bad _ W H gs os a b F fl _ (F0.out.below b0.out) (S0.out.below b0.out) HF.out H0.out).mono ?_
  rintro e w1 ⟨rfl, hb⟩
  have B1 : Hid (Below w.heap.size w w1) := b0.out.trans (hb.mono b0.out.size)
  clear hb b0
  go_wp2
  go_ret2
  exact ⟨rfl, B1⟩

set_option maxHeartbeats 1000000 in
theorem Next_ok (v : Value) (W H : Nat) (gs os : List Int) (a b : Nat) (fl : Bool) (w : World) (h : Fl w v W H gs os) (hs : Sd w) (G : Fd.Good W H gs os) (ha : a < W * H) (hb : b < W * H) :
    Calls Tryz.prog 137 #[v, .int .i64 (a : Nat), .int .i64 (b : Nat), .bool fl] w fun e w' => ∃ l, (IsFar (Fd.near W H) (fun _ j => (gs.map fun g => Fd.onto g fl).getD j 0) b (W * H) l ∧ Flat l) ∧
      ((l.getD a 0 < 0 ∧ e = .returned (.tuple #[.int .i64 0, .iface 77 (.int .i64 7)])) ∨ (0 ≤ l.getD a 0 ∧ ∃ j : Nat, e = .returned (.tuple #[.int .i64 (j : Nat), .nilIface]) ∧ Nxt (Fd.near W H) (gs.map fun g => Fd.onto g fl) l b a j)) ∧ Below w.heap.size w w' := by
  have F0 : Hid (Fl w v W H gs os) := h
  have S0 : Hid (Sd w) := hs
  have G0 : Hid (Fd.Good W H gs os) := G
  have A0 : Hid (a < W * H ∧ b < W * H) := ⟨ha, hb⟩
  obtain ⟨u1, u2, rfl, ⟨a1, c, rfl, c1, c2, ca⟩, ⟨b1, d, rfl, d1, d2, cb⟩⟩ := h
  obtain ⟨ss, hss⟩ : ∃ ss, (gs.map fun g => Fd.onto g fl) = ss := ⟨_, rfl⟩
  have Hss : Hid ((gs.map fun g => Fd.onto g fl) = ss) := hss
  rw [hss]
  clear ca cb hs G ha hb hss
  have b0 : Hid (Below w.heap.size w (w.alloc (Obj.cells #[.int .i64 W, .int .i64 H, .slice a1 gs.length c, .slice b1 os.length d] 25))) := (Below.refl _ _).alloc (Nat.le_refl _) _
  go_enter Tryz.func137, Tryz.ntmps137
  go_wp2_with fail
  refine (Path_ok _ W H gs os a b fl _ (F0.out.below b0.out) (S0.out.below b0.out) G0.out A0.out.1 A0.out.2).mono ?_
  rintro e w1 ⟨l, hl, he, hb⟩
  rw [Hss.out] at hl he
  have B1 : Hid (Below w.heap.size w w1) := b0.out.trans (hb.mono b0.out.size)
  have HL : Hid (IsFar (Fd.near W H) (fun _ j => ss.getD j 0) b (W * H) l ∧ Flat l) := hl
  clear hb b0 hl
  rcases he with ⟨h0, rfl⟩ | ⟨h0, u, p, rfl, hu, hp, hlen⟩
  · have H0 : Hid (l.getD a 0 < 0) := h0
    clear h0
    go_wp2
    go_ret2
    exact ⟨l, HL, .inl ⟨H0, rfl⟩, B1⟩
  · have H0 : Hid (0 ≤ l.getD a 0) := h0
    have HP : Hid (Pth (Fd.near W H) ss l b a p) := hp
    clear h0
    by_cases hab : a = b
    · subst hab
      obtain ⟨ua, uc, rfl, -⟩ := hu
      clear hp
      go_wp2
      go_ret2
      exact ⟨l, HL, .inr ⟨H0, a, rfl, .inl ⟨rfl, rfl⟩⟩, B1⟩
    · obtain ⟨j, h1, h2⟩ := hp.second hab
      have hl1 : 1 < p.length := (List.getElem?_eq_some_iff.1 h1).1
      obtain ⟨ua, uc, rfl, k1, k2, hc⟩ := hu
      obtain ⟨y, rfl, -, hy⟩ := hc (by intro e; rw [e] at hl1; simp at hl1)
      have HN : Hid (Nx (Fd.near W H) ss l a j) := h2
      have hne : ¬ (a : Int) = (b : Int) := by omega
      have c1' : w1.cell? ⟨y.block, y.off + 1, none⟩ = some (.int .i64 (j : Nat)) := hy 1 _ h1
      clear hp hc hy h1 h2
      go_wp2
      go_ret2
      exact ⟨l, HL, .inr ⟨H0, j, rfl, .inr ⟨hab, HN⟩⟩, B1⟩
end Go.Proofs.YteieikgkmfglaaaGreatDoor

namespace Go.Proofs.YteieikgkmfglaaaGreatDoor
open Go.RowKit Wy
set_option linter.unusedVariables false

/-- the cell onto which a unit would go next. -/
def WishSays (ks : List KV) (X : WV) (Wn Hn : Nat) (u : UnV) (k : KV) (c : Nat) : Prop :=
  ∃ (an bn : Nat) (l : List Int), u.at_ = an ∧ AimSays ks X Wn Hn u k (bn : Nat) ∧ bn < Wn * Hn ∧ (IsFar (Fd.near Wn Hn) (fun _ j => (X.gs.map fun g => Fd.onto g k.f).getD j 0) bn (Wn * Hn) l ∧ Flat l) ∧
    ((l.getD an 0 < 0 ∧ c = an) ∨ (0 ≤ l.getD an 0 ∧ Nxt (Fd.near Wn Hn) (X.gs.map fun g => Fd.onto g k.f) l bn an c))
theorem nxt_in {Wn Hn : Nat} {gs : List Int} {fl : Bool} {l : List Int} {t i j : Nat} (hW : 0 < Wn) (h : Nxt (Fd.near Wn Hn) (gs.map fun g => Fd.onto g fl) l t i j) (hi : i < Wn * Hn) : j < Wn * Hn := by
  rcases h with ⟨-, rfl⟩ | ⟨-, h⟩
  · exact hi
  · exact (even_to hW gs fl).lt i j hi h.is.1
theorem aim_in {ks : List KV} {X : WV} {Wn Hn : Nat} {u : UnV} {k : KV} {c : Int} (h : AimSays ks X Wn Hn u k c) (hu : Fit ks (Wn * Hn) u) (hus : ∀ h ∈ X.us, Fit ks (Wn * Hn) h) (hg : 0 ≤ u.goal ∧ u.goal < (Wn * Hn : Nat)) : ∃ bn : Nat, c = bn ∧ bn < Wn * Hn := by
  have key : 0 ≤ c ∧ c < (Wn * Hn : Nat) := by
    rcases h with ⟨-, rfl⟩ | ⟨-, -, rfl⟩ | ⟨-, -, l, -, rfl⟩
    · exact hu.2
    · exact hg
    · unfold homeAt
      cases hh : homes ks X.us l u.player with
      | nil => exact hu.2
      | cons x0 tl =>
        have hm := minU_mem (fun h => l.getD h.at_.toNat 0) tl x0
        rw [← hh] at hm
        exact (hus _ (List.mem_filter.1 hm).1).2
  exact ⟨c.toNat, by omega, by omega⟩
set_option maxRecDepth 100000 in
set_option maxHeartbeats 4000000 in
theorem wish_any (vk vw : Value) (ks : List KV) (X : WV) (u : UnV) (Wn Hn : Nat) (k : KV) (w : World) (hk : Kl w vk ks) (hw : Wl w vw X) (hs : Sd w) (G : Fd.Good Wn Hn X.gs X.os) (e1 : X.wide = (Wn : Nat)) (e2 : X.high = (Hn : Nat)) (hl : X.us.length ≤ 1000000)
    (hu : Fit ks (Wn * Hn) u) (hk' : ks[u.kind.toNat]? = some k) (hus : ∀ h ∈ X.us, Fit ks (Wn * Hn) h) (hg : 0 ≤ u.goal ∧ u.goal < (Wn * Hn : Nat)) :
    Calls Tryz.prog 111 #[vk, vw, u.val] w fun e w' => ∃ c : Nat, e = .returned (.int .i64 (c : Nat)) ∧ WishSays ks X Wn Hn u k c ∧ c < Wn * Hn ∧ Below w.heap.size w w' := by
  obtain ⟨kn, hkn⟩ : ∃ n : Nat, u.kind = n := ⟨u.kind.toNat, by have := hu.1; omega⟩
  obtain ⟨an, han⟩ : ∃ n : Nat, u.at_ = n := ⟨u.at_.toNat, by have := hu.2; omega⟩
  have hkl : kn < ks.length := by have := hu.1; omega
  have hkk : ks[kn]? = some k := by rw [hkn, Int.toNat_natCast] at hk'; exact hk'
  have H : Hid (Wl w vw X) := hw
  have K : Hid (Kl w vk ks) := hk
  have S : Hid (Sd w) := hs
  have GD : Hid (Fd.Good Wn Hn X.gs X.os ∧ X.wide = (Wn : Nat) ∧ X.high = (Hn : Nat) ∧ X.us.length ≤ 1000000 ∧ Fit ks (Wn * Hn) u ∧ ks[u.kind.toNat]? = some k ∧ (∀ h ∈ X.us, Fit ks (Wn * Hn) h) ∧ (0 ≤ u.goal ∧ u.goal < (Wn * Hn : Nat)) ∧ an < Wn * Hn) := ⟨G, e1, e2, hl, hu, hk', hus, hg, by have := hu.2; omega⟩
  obtain ⟨p1, q1, p2, q2, p3, q3, p4, q4, p5, q5, rfl⟩ := wl_shape9 hw
  obtain ⟨pk, qk, rfl, ck1, ck2, kc⟩ := hk
  obtain ⟨xk, rfl, hxl, hxc⟩ := kc (by intro h; subst h; simp at hkl)
  have KK : Hid (Kc w (xk.add (kn * 11)) k ∧ (xk.add (kn * 11)).block < w.heap.size) := ⟨hxc kn k hkk, by rw [add_block]; exact hxl⟩
  have HE : Hid (u.kind = (kn : Nat) ∧ u.at_ = (an : Nat)) := ⟨hkn, han⟩
  clear hw hs G e1 e2 hl hu hk' hus hg hkn han kc hxc hxl hkk
  have UV : Hid (u.val = .agg #[.int .i64 u.id, .int .i64 u.player, .int .i64 u.kind, .int .i64 u.at_, .int .i64 u.life, .int .i64 u.load, .int .i64 u.task, .int .i64 u.goal]) := rfl
  rw [UV.out]
  go_enter Tryz.func111, Tryz.ntmps111
  go_upto_region 1 with fail
  have A0 : Hid (Am w ((w.alloc (Obj.cells #[.int .i64 X.turn, .int .i64 X.next, .int .i64 X.wide, .int .i64 X.high, .slice p1 X.gs.length q1, .slice p2 X.os.length q2, .slice p3 X.gold.length q3, .slice p4 X.us.length q4, .slice p5 X.qs.length q5] 29)).alloc (Obj.cells #[.int .i64 u.id, .int .i64 u.player, .int .i64 u.kind, .int .i64 u.at_, .int .i64 u.life, .int .i64 u.load, .int .i64 u.task, .int .i64 u.goal] 44)) X (.slice p1 X.gs.length q1) (.slice p2 X.os.length q2) (.slice p3 X.gold.length q3) (.slice p4 X.us.length q4) (.slice p5 X.qs.length q5) u) := Am.new X _ _ _ _ _ u
  generalize ((w.alloc (Obj.cells #[.int .i64 X.turn, .int .i64 X.next, .int .i64 X.wide, .int .i64 X.high, .slice p1 X.gs.length q1, .slice p2 X.os.length q2, .slice p3 X.gold.length q3, .slice p4 X.us.length q4, .slice p5 X.qs.length q5] 29)).alloc (Obj.cells #[.int .i64 u.id, .int .i64 u.player, .int .i64 u.kind, .int .i64 u.at_, .int .i64 u.life, .int .i64 u.load, .int .i64 u.task, .int .i64 u.goal] 44)) = w0 at *
  have CB : Hid (∀ V, Am w V X (.slice p1 X.gs.length q1) (.slice p2 X.os.length q2) (.slice p3 X.gold.length q3) (.slice p4 X.us.length q4) (.slice p5 X.qs.length q5) u → (Am w V X (.slice p1 X.gs.length q1) (.slice p2 X.os.length q2) (.slice p3 X.gold.length q3) (.slice p4 X.us.length q4) (.slice p5 X.qs.length q5) u ∧ V.cell? ⟨w.heap.size + 1, 3, none⟩ = some (.int .i64 (an : Nat)) ∧ V.cell? ⟨w.heap.size + 1, 2, none⟩ = some (.int .i64 (kn : Nat)) ∧ V.cell? ⟨(xk.add (kn * 11)).block, (xk.add (kn * 11)).off + 9, none⟩ = some (.bool k.f))) := fun V h => ⟨h, by have := h.u.c3; rw [Nat.zero_add, HE.out.2] at this; exact this, by have := h.u.c2; rw [Nat.zero_add, HE.out.1] at this; exact this, (KK.out.1.below h.b KK.out.2).c9⟩
  refine wp_region_two [(true, 0), (true, 1), (true, 2), (true, 3), (true, 4), (true, 5), (true, 6), (true, 8), (true, 9), (true, 10), (true, 11), (true, 12), (true, 13), (false, 7), (false, 14)] [(true, 15), (true, 16), (true, 17), (true, 18), (false, 19)] (fun V => Am w V X (.slice p1 X.gs.length q1) (.slice p2 X.os.length q2) (.slice p3 X.gold.length q3) (.slice p4 X.us.length q4) (.slice p5 X.qs.length q5) u ∧ V.cell? ⟨w.heap.size + 1, 3, none⟩ = some (.int .i64 (an : Nat)) ∧ V.cell? ⟨w.heap.size + 1, 2, none⟩ = some (.int .i64 (kn : Nat)) ∧ V.cell? ⟨(xk.add (kn * 11)).block, (xk.add (kn * 11)).off + 9, none⟩ = some (.bool k.f)) (by kernel_rfl) (by kernel_rfl) (by kernel_rfl) (by decide +kernel) (by decide +kernel) (CB.out _ (A0.out.below ((Below.refl _ _).drew))) ?_
  have A1 : Hid (Am w { w0 with drawn := w0.drawn + 1 } X (.slice p1 X.gs.length q1) (.slice p2 X.os.length q2) (.slice p3 X.gold.length q3) (.slice p4 X.us.length q4) (.slice p5 X.qs.length q5) u) := A0.out.below ((Below.refl _ _).drew)
  generalize ({ w0 with drawn := w0.drawn + 1 } : World) = w1 at *
  clear A0
  refine headT_read rfl (.pointer (some ⟨w.heap.size, 2, none⟩)) (by go_simp) (fun V hV => by go_simp) ?_
  go_simp
  refine headT_read rfl (.agg #[.int .i64 X.wide, .int .i64 X.high, .slice p1 X.gs.length q1, .slice p2 X.os.length q2]) (by go_simp) (fun V hV => by obtain ⟨⟨-, ⟨x0, x1, x2, x3, x4, x5, x6, x7, x8⟩, ⟨y0, y1, y2, y3, y4, y5, y6, y7⟩⟩, ca, ckn, ckf⟩ := hV; go_simp) ?_
  go_simp
  refine headT_read rfl (.pointer (some ⟨w.heap.size + 1, 3, none⟩)) (by go_simp) (fun V hV => by go_simp) ?_
  go_simp
  refine headT_read rfl (.int .i64 (an : Nat)) (by go_simp) (fun V hV => by obtain ⟨-, ca, ckn, ckf⟩ := hV; go_simp) ?_
  go_simp
  refine headT_read rfl (.slice (some xk) ks.length qk) (by go_simp) (fun V hV => by go_simp) ?_
  go_simp
  refine headT_read rfl (.agg #[.int .i64 X.turn, .int .i64 X.next, .int .i64 X.wide, .int .i64 X.high, .slice p1 X.gs.length q1, .slice p2 X.os.length q2, .slice p3 X.gold.length q3, .slice p4 X.us.length q4, .slice p5 X.qs.length q5]) (by go_simp) (fun V hV => by obtain ⟨⟨-, ⟨x0, x1, x2, x3, x4, x5, x6, x7, x8⟩, ⟨y0, y1, y2, y3, y4, y5, y6, y7⟩⟩, ca, ckn, ckf⟩ := hV; go_simp) ?_
  go_simp
  refine headT_read rfl (.agg #[.int .i64 u.id, .int .i64 u.player, .int .i64 u.kind, .int .i64 u.at_, .int .i64 u.life, .int .i64 u.load, .int .i64 u.task, .int .i64 u.goal]) (by go_simp) (fun V hV => by obtain ⟨⟨-, ⟨x0, x1, x2, x3, x4, x5, x6, x7, x8⟩, ⟨y0, y1, y2, y3, y4, y5, y6, y7⟩⟩, ca, ckn, ckf⟩ := hV; go_simp) ?_
  go_simp
  refine headT_read rfl (.slice (some xk) ks.length qk) (by go_simp) (fun V hV => by go_simp) ?_
  go_simp
  refine headT_read rfl (.pointer (some ⟨w.heap.size + 1, 2, none⟩)) (by go_simp) (fun V hV => by go_simp) ?_
  go_simp
  refine headT_read rfl (.int .i64 (kn : Nat)) (by go_simp) (fun V hV => by obtain ⟨-, ca, ckn, ckf⟩ := hV; go_simp) ?_
  go_simp
  refine headT_read rfl (.pointer (some (xk.add (kn * 11)))) (by go_simp) (fun V hV => by go_simp) ?_
  go_simp
  refine headT_read rfl (.pointer (some ⟨(xk.add (kn * 11)).block, (xk.add (kn * 11)).off + 9, none⟩)) (by go_simp) (fun V hV => by go_simp) ?_
  go_simp
  refine headT_read rfl (.bool k.f) (by go_simp) (fun V hV => by obtain ⟨-, ca, ckn, ckf⟩ := hV; go_simp) ?_
  go_simp
  refine headT_call rfl 138 #[.slice (some xk) ks.length qk, .agg #[.int .i64 X.turn, .int .i64 X.next, .int .i64 X.wide, .int .i64 X.high, .slice p1 X.gs.length q1, .slice p2 X.os.length q2, .slice p3 X.gold.length q3, .slice p4 X.us.length q4, .slice p5 X.qs.length q5], .agg #[.int .i64 u.id, .int .i64 u.player, .int .i64 u.kind, .int .i64 u.at_, .int .i64 u.life, .int .i64 u.load, .int .i64 u.task, .int .i64 u.goal]] (by go_simp) (by go_simp) ?_
  have AIM : Hid (Calls Tryz.prog 138 #[.slice (some xk) ks.length qk, .agg #[.int .i64 X.turn, .int .i64 X.next, .int .i64 X.wide, .int .i64 X.high, .slice p1 X.gs.length q1, .slice p2 X.os.length q2, .slice p3 X.gold.length q3, .slice p4 X.us.length q4, .slice p5 X.qs.length q5], .agg #[.int .i64 u.id, .int .i64 u.player, .int .i64 u.kind, .int .i64 u.at_, .int .i64 u.life, .int .i64 u.load, .int .i64 u.task, .int .i64 u.goal]] w1 fun e w' => ∃ c, e = .returned (.int .i64 c) ∧ AimSays ks X Wn Hn u k c ∧ Below w1.heap.size w1 w') := by
    have h := aim_any _ _ ks X u Wn Hn k w1 (K.out.below A1.out.b) (H.out.below A1.out.b) (S.out.below A1.out.b) GD.out.1 GD.out.2.1 GD.out.2.2.1 GD.out.2.2.2.1 GD.out.2.2.2.2.1 GD.out.2.2.2.2.2.1 GD.out.2.2.2.2.2.2.1 GD.out.2.2.2.2.2.2.2.1
    rw [UV.out] at h
    exact h
  refine Calls.mono AIM.out ?_
  rintro e w2 ⟨c0, rfl, ha, hb⟩
  obtain ⟨bn, rfl, hbn⟩ := aim_in ha GD.out.2.2.2.2.1 GD.out.2.2.2.2.2.2.1 GD.out.2.2.2.2.2.2.2.1
  have A2 : Hid (Am w w2 X (.slice p1 X.gs.length q1) (.slice p2 X.os.length q2) (.slice p3 X.gold.length q3) (.slice p4 X.us.length q4) (.slice p5 X.qs.length q5) u) := A1.out.below hb
  have AS : Hid (AimSays ks X Wn Hn u k (bn : Nat) ∧ bn < Wn * Hn) := ⟨ha, hbn⟩
  refine ⟨_, rfl, CB.out _ A2.out, ?_⟩
  clear hb ha hbn AIM A1
  go_simp
  refine headT_call rfl 137 #[.agg #[.int .i64 X.wide, .int .i64 X.high, .slice p1 X.gs.length q1, .slice p2 X.os.length q2], .int .i64 (an : Nat), .int .i64 (bn : Nat), .bool k.f] (by go_simp) (by go_simp) ?_
  have FL : Hid (Fl w2 (.agg #[.int .i64 X.wide, .int .i64 X.high, .slice p1 X.gs.length q1, .slice p2 X.os.length q2]) (Wn : Nat) (Hn : Nat) X.gs X.os) := by
    have := fl_of (H.out.below A2.out.b)
    rw [GD.out.2.1, GD.out.2.2.1] at this
    rw [GD.out.2.1, GD.out.2.2.1]
    exact this
  refine (Next_ok _ Wn Hn X.gs X.os an bn k.f w2 FL.out (S.out.below A2.out.b) GD.out.1 GD.out.2.2.2.2.2.2.2.2 AS.out.2).mono ?_
  rintro e w3 ⟨l, hl, hn, hb⟩
  have A3 : Hid (Am w w3 X (.slice p1 X.gs.length q1) (.slice p2 X.os.length q2) (.slice p3 X.gold.length q3) (.slice p4 X.us.length q4) (.slice p5 X.qs.length q5) u) := A2.out.below hb
  clear hb FL A2
  have NS : Hid (IsFar (Fd.near Wn Hn) (fun _ j => (X.gs.map fun g => Fd.onto g k.f).getD j 0) bn (Wn * Hn) l ∧ Flat l) := hl
  clear hl
  rcases hn with ⟨hlt, rfl⟩ | ⟨hge, j, rfl, hnx⟩
  · have WS : Hid (WishSays ks X Wn Hn u k an) := ⟨an, bn, l, HE.out.2, AS.out.1, AS.out.2, NS.out, .inl ⟨hlt, rfl⟩⟩
    refine ⟨_, rfl, CB.out _ A3.out, ?_⟩
    clear hlt
    go_simp
    refine sched_read rfl (.tuple #[.int .i64 0, .iface 77 (.int .i64 7)]) (by go_simp) (fun V hV => by go_simp) ?_
    go_simp
    refine sched_read rfl (.int .i64 0) (by go_simp) (fun V hV => by go_simp) ?_
    go_simp
    refine sched_read rfl (.iface 77 (.int .i64 7)) (by go_simp) (fun V hV => by go_simp) ?_
    go_simp
    refine sched_read rfl (.int .i64 0) (by go_simp) (fun V hV => by go_simp) ?_
    go_simp
    refine sched_value rfl (.iface 77 (.int .i64 7)) w3 (by go_simp) (by go_simp) trivial ?_
    go_simp
    unfold wpSched
    obtain ⟨-, ca, -, -⟩ := CB.out _ A3.out
    go_wp2
    go_ret
    exact ⟨an, rfl, WS.out, GD.out.2.2.2.2.2.2.2.2, A3.out.b⟩
  · have WS : Hid (WishSays ks X Wn Hn u k j ∧ j < Wn * Hn) := ⟨⟨an, bn, l, HE.out.2, AS.out.1, AS.out.2, NS.out, .inr ⟨hge, hnx⟩⟩, nxt_in GD.out.1.w1 hnx GD.out.2.2.2.2.2.2.2.2⟩
    refine ⟨_, rfl, CB.out _ A3.out, ?_⟩
    clear hge hnx
    go_simp
    refine sched_read rfl (.tuple #[.int .i64 (j : Nat), .nilIface]) (by go_simp) (fun V hV => by go_simp) ?_
    go_simp
    refine sched_read rfl (.int .i64 (j : Nat)) (by go_simp) (fun V hV => by go_simp) ?_
    go_simp
    refine sched_read rfl .nilIface (by go_simp) (fun V hV => by go_simp) ?_
    go_simp
    refine sched_read rfl (.int .i64 (j : Nat)) (by go_simp) (fun V hV => by go_simp) ?_
    go_simp
    refine sched_value rfl .nilIface w3 (by go_simp) (by go_simp) trivial ?_
    go_simp
    unfold wpSched
    go_wp2
    go_ret
    exact ⟨j, rfl, WS.out.1, WS.out.2, A3.out.b⟩
set_option maxHeartbeats 1000000 in
theorem mat_any (u : UnV) (at_ : Int) (b : Nat) (w : World) (hc : w.cell? ⟨b, 0, none⟩ = some (.int .i64 at_)) :
    Calls Tryz.prog 139 #[u.val, .pointer (some ⟨b, 0, none⟩)] w fun e w' => e = .returned (.bool (u.at_ == at_)) ∧ Below w.heap.size w w' := by
  have hb : b < w.heap.size := cell_lt hc
  have hne : b ≠ w.heap.size := by omega
  unfold UnV.val
  go_enter Tryz.func139, Tryz.ntmps139
  go_wp2
  go_ret
  exact ⟨rfl, (Below.refl _ _).alloc (Nat.le_refl _) _⟩
set_option maxRecDepth 100000 in
set_option maxHeartbeats 2000000 in
theorem taken_any (vw : Value) (X : WV) (at_ : Int) (w : World) (hw : Wl w vw X) :
    Calls Tryz.prog 112 #[vw, .int .i64 at_] w fun e w' => e = .returned (.bool (X.us.any (fun u => u.at_ == at_))) ∧ Below w.heap.size w w' := by
  have H : Hid (Wl w vw X) := hw
  obtain ⟨p1, q1, p2, q2, p3, q3, p4, q4, p5, q5, rfl⟩ := wl_shape9 hw
  clear hw
  go_enter Tryz.func112, Tryz.ntmps112
  go_upto_region 1 with fail
  have B0 : Hid (Below w.heap.size w ((w.alloc (Obj.cells #[.int .i64 X.turn, .int .i64 X.next, .int .i64 X.wide, .int .i64 X.high, .slice p1 X.gs.length q1, .slice p2 X.os.length q2, .slice p3 X.gold.length q3, .slice p4 X.us.length q4, .slice p5 X.qs.length q5] 29)).alloc (Obj.cells #[.int .i64 at_] 3))) := ((Below.refl _ _).alloc (Nat.le_refl _) _).alloc (by simp) _
  have C0 : Hid (((w.alloc (Obj.cells #[.int .i64 X.turn, .int .i64 X.next, .int .i64 X.wide, .int .i64 X.high, .slice p1 X.gs.length q1, .slice p2 X.os.length q2, .slice p3 X.gold.length q3, .slice p4 X.us.length q4, .slice p5 X.qs.length q5] 29)).alloc (Obj.cells #[.int .i64 at_] 3)).cell? ⟨w.heap.size + 1, 0, none⟩ = some (.int .i64 at_)) := cell_of_new (by simp) rfl
  have X0 : Hid (Bw ((w.alloc (Obj.cells #[.int .i64 X.turn, .int .i64 X.next, .int .i64 X.wide, .int .i64 X.high, .slice p1 X.gs.length q1, .slice p2 X.os.length q2, .slice p3 X.gold.length q3, .slice p4 X.us.length q4, .slice p5 X.qs.length q5] 29)).alloc (Obj.cells #[.int .i64 at_] 3)) w.heap.size X (.slice p1 X.gs.length q1) (.slice p2 X.os.length q2) (.slice p3 X.gold.length q3) (.slice p4 X.us.length q4) (.slice p5 X.qs.length q5)) := (Bw.mk' X _ _ _ _ _ rfl).below ((Below.refl _ _).alloc (Nat.le_refl _) _) (by simp)
  generalize ((w.alloc (Obj.cells #[.int .i64 X.turn, .int .i64 X.next, .int .i64 X.wide, .int .i64 X.high, .slice p1 X.gs.length q1, .slice p2 X.os.length q2, .slice p3 X.gold.length q3, .slice p4 X.us.length q4, .slice p5 X.qs.length q5] 29)).alloc (Obj.cells #[.int .i64 at_] 3)) = w0 at *
  have c7 := X0.out.c7
  have US : Hid (Unl w (.slice p4 X.us.length q4) X.us) := H.out.slices.2.2.2.1
  go_wp2_with fail
  refine (hasu_any 139 (by intro args w; go_simp) _ #[.pointer (some ⟨w.heap.size + 1, 0, none⟩)] X.us (fun u => u.at_ == at_) w0 (US.out.below B0.out) (fun V hV k => mat_any k at_ (w.heap.size + 1) V (by rw [hV.cell (p := ⟨w.heap.size + 1, 0, none⟩) (cell_lt C0.out)]; exact C0.out))).mono ?_
  rintro e w1 ⟨rfl, hb1⟩
  have B1 : Hid (Below w.heap.size w w1) := B0.out.trans (hb1.mono B0.out.size)
  obtain ⟨m, hm⟩ : ∃ m, X.us.any (fun u => u.at_ == at_) = m := ⟨_, rfl⟩
  have HM : Hid (X.us.any (fun u => u.at_ == at_) = m) := hm
  rw [hm]
  clear hb1 hm c7
  go_wp2
  go_ret
  exact ⟨by rw [HM.out]; rfl, B1.out⟩
/-- what Wish tells. -/
def WisSays (ks : List KV) (X : WV) (i c F : Int) : Prop :=
  (Wd.wfault ks X ≠ 0 ∧ F = Wd.wfault ks X ∧ c = 0) ∨ (Wd.wfault ks X = 0 ∧ ¬ (0 ≤ i ∧ i < (X.us.length : Int)) ∧ F = 6 ∧ c = 0)
  ∨ (Wd.wfault ks X = 0 ∧ F = 0 ∧ ∃ (n cn Wn Hn : Nat) (u : UnV) (k : KV), i = n ∧ c = cn ∧ X.us[n]? = some u ∧ X.wide = (Wn : Nat) ∧ X.high = (Hn : Nat) ∧ Fd.Good Wn Hn X.gs X.os ∧ ks[u.kind.toNat]? = some k ∧ WishSays ks X Wn Hn u k cn ∧ cn < Wn * Hn)
theorem right_fits {ks : List KV} {X : WV} (h : WRight ks X) {Wn Hn : Nat} (G : Fd.Good Wn Hn X.gs X.os) : ∀ u ∈ X.us, Fit ks (Wn * Hn) u ∧ (0 ≤ u.goal ∧ u.goal < (Wn * Hn : Nat)) := by
  intro u hu
  obtain ⟨i, hi⟩ := List.mem_iff_getElem?.1 hu
  obtain ⟨k, f⟩ := h.fine hi
  have h1 := f.at_
  have h2 := f.goal
  rw [G.gl] at h1 h2
  exact ⟨⟨f.k0, h1⟩, h2⟩
end Go.Proofs.YteieikgkmfglaaaGreatDoor

namespace Go.Proofs.YteieikgkmfglaaaGreatDoor
open Go.RowKit Wy
set_option linter.unusedVariables false

/-- a unit goes as far as it can: what it has left, the cells, and all units then. -/
inductive Goes (ks : List KV) (X : WV) (Wn Hn : Nat) (k : KV) (i : Nat) : List UnV → Int → List Int → List UnV → Prop where
  | stop {us : List UnV} {left : Int} {u : UnV} {c : Nat} {gg : Int} (hu : us[i]? = some u) (hw : WishSays ks { X with us := us } Wn Hn u k c) (hg : X.gs[c]? = some gg) (h : left < Fd.onto gg k.f ∨ us.any (fun o => o.at_ == (c : Int)) = true) : Goes ks X Wn Hn k i us left [] us
  | step {us us' : List UnV} {left : Int} {u : UnV} {c : Nat} {gg : Int} {cells : List Int} (hu : us[i]? = some u) (hw : WishSays ks { X with us := us } Wn Hn u k c) (hg : X.gs[c]? = some gg) (h1 : ¬ left < Fd.onto gg k.f) (h2 : us.any (fun o => o.at_ == (c : Int)) = false) (h3 : Goes ks X Wn Hn k i (us.set i { u with at_ := (c : Nat) }) (left - Fd.onto gg k.f) cells us') : Goes ks X Wn Hn k i us left ((c : Int) :: cells) us'
theorem wish_pos {ks : List KV} {X : WV} {Wn Hn : Nat} {u : UnV} {k : KV} {c : Nat} {gg : Int} (h : WishSays ks X Wn Hn u k c) (hg : X.gs[c]? = some gg) (hc : u.at_ ≠ (c : Nat)) : 0 < Fd.onto gg k.f := by
  obtain ⟨an, bn, l, ha, -, -, -, hh⟩ := h
  rcases hh with ⟨-, rfl⟩ | ⟨-, h⟩
  · exact absurd ha hc
  · rcases h with ⟨-, rfl⟩ | ⟨-, h⟩
    · exact absurd ha hc
    · have := h.is.2.1
      rw [List.getD_eq_getElem?_getD, List.getElem?_map, hg] at this
      exact this
set_option maxRecDepth 100000 in
set_option maxHeartbeats 16000000 in
theorem walk_any (vk : Value) (ks : List KV) (X : WV) (us : List UnV) (g1 g2 g3 g5 : Value) (g cap i : Nat) (rest : List Value) (u : UnV) (k : KV) (Wn Hn : Nat) (w : World) (hk : Kl w vk ks) (hs : Sd w) (G : Fd.Good Wn Hn X.gs X.os) (e1 : X.wide = (Wn : Nat)) (e2 : X.high = (Hn : Nat))
    (hst : ∀ V us', us'.length = us.length → Kp g w V → Ub V g us' rest → Wl V (.agg #[.int .i64 X.turn, .int .i64 X.next, .int .i64 X.wide, .int .i64 X.high, g1, g2, g3, .slice (some ⟨g, 0, none⟩) us.length cap, g5]) { X with us := us' } ∧ Kl V vk ks ∧ Sd V) (hub : Ub w g us rest) (hui : us[i]? = some u) (hkk : ks[u.kind.toNat]? = some k) (hul : us.length ≤ 40) (hus : ∀ h ∈ us, Fit ks (Wn * Hn) h) (hg : 0 ≤ u.goal ∧ u.goal < (Wn * Hn : Nat)) (hsp : 0 ≤ k.n4 ∧ k.n4 ≤ 4) :
    Calls Tryz.prog 76 #[vk, .agg #[.int .i64 X.turn, .int .i64 X.next, .int .i64 X.wide, .int .i64 X.high, g1, g2, g3, .slice (some ⟨g, 0, none⟩) us.length cap, g5], .pointer (some ⟨g, i * 8, none⟩)] w fun e w' => ∃ v us' cells, e = .returned v ∧ Ow w' w.heap.size v cells ∧ Goes ks X Wn Hn k i us k.n4 cells us' ∧ Ub w' g us' rest ∧ Kp g w w' ∧ cells.length ≤ 4 ∧ (∃ a, us' = us.set i { u with at_ := a } ∧ 0 ≤ a ∧ a < (Wn * Hn : Nat)) := by
  have hil : i < us.length := (List.getElem?_eq_some_iff.1 hui).1
  have hfu := hus u (List.mem_of_getElem? hui)
  obtain ⟨kn, hkn⟩ : ∃ n : Nat, u.kind = n := ⟨u.kind.toNat, by have := hfu.1; omega⟩
  have hkk' : ks[kn]? = some k := by rw [hkn, Int.toNat_natCast] at hkk; exact hkk
  have hkl : kn < ks.length := (List.getElem?_eq_some_iff.1 hkk').1
  have K : Hid (Kl w vk ks) := hk
  have S : Hid (Sd w) := hs
  have GD : Hid (Fd.Good Wn Hn X.gs X.os ∧ X.wide = (Wn : Nat) ∧ X.high = (Hn : Nat) ∧ ks[u.kind.toNat]? = some k ∧ us.length ≤ 40 ∧ (∀ h ∈ us, Fit ks (Wn * Hn) h) ∧ (0 ≤ u.goal ∧ u.goal < (Wn * Hn : Nat)) ∧ us[i]? = some u ∧ Fit ks (Wn * Hn) u ∧ i < us.length) := ⟨G, e1, e2, hkk, hul, hus, hg, hui, hfu, hil⟩
  have ST : Hid (∀ V us', us'.length = us.length → Kp g w V → Ub V g us' rest → Wl V (.agg #[.int .i64 X.turn, .int .i64 X.next, .int .i64 X.wide, .int .i64 X.high, g1, g2, g3, .slice (some ⟨g, 0, none⟩) us.length cap, g5]) { X with us := us' } ∧ Kl V vk ks ∧ Sd V) := hst
  have UB : Hid (Ub w g us rest ∧ g < w.heap.size) := ⟨hub, hub.lt⟩
  obtain ⟨pk, qk, rfl, ck1, ck2, kc⟩ := hk
  obtain ⟨xk, rfl, hxl, hxc⟩ := kc (by intro h; subst h; simp at hkl)
  have KK : Hid (Kc w (xk.add (kn * 11)) k ∧ (xk.add (kn * 11)).block < w.heap.size) := ⟨hxc kn k hkk', by rw [add_block]; exact hxl⟩
  have HE : Hid (u.kind = (kn : Nat)) := hkn
  have SP : Hid (0 ≤ k.n4 ∧ k.n4 ≤ 4) := hsp
  clear hs G e1 e2 hst hub hui hkk hus hg hsp hkn hkk' kc hxc hxl hfu
  go_enter Tryz.func76, Tryz.ntmps76
  go_upto_region 2 with fail
  have B0 : Hid (Below w.heap.size w (w.alloc (Obj.cells #[.int .i64 X.turn, .int .i64 X.next, .int .i64 X.wide, .int .i64 X.high, g1, g2, g3, .slice (some ⟨g, 0, none⟩) us.length cap, g5] 29))) := (Below.refl _ _).alloc (Nat.le_refl _) _
  have X0 : Hid (Bw (w.alloc (Obj.cells #[.int .i64 X.turn, .int .i64 X.next, .int .i64 X.wide, .int .i64 X.high, g1, g2, g3, .slice (some ⟨g, 0, none⟩) us.length cap, g5] 29)) w.heap.size X (g1) (g2) (g3) (.slice (some ⟨g, 0, none⟩) us.length cap) (g5)) := Bw.mk' X _ _ _ _ _ rfl
  have Z0 : Hid ((w.alloc (Obj.cells #[.int .i64 X.turn, .int .i64 X.next, .int .i64 X.wide, .int .i64 X.high, g1, g2, g3, .slice (some ⟨g, 0, none⟩) us.length cap, g5] 29)).heap.size = w.heap.size + 1) := by unfold Hid; simp
  generalize (w.alloc (Obj.cells #[.int .i64 X.turn, .int .i64 X.next, .int .i64 X.wide, .int .i64 X.high, g1, g2, g3, .slice (some ⟨g, 0, none⟩) us.length cap, g5] 29)) = w0 at *
  have U0 : Hid (Ub w0 g us rest) := UB.out.1.below B0.out UB.out.2
  obtain ⟨z0, z1, z2, z3, z4, z5, z6, z7, z8, z9, z10⟩ := KK.out.1.below B0.out KK.out.2
  have y2 : w0.cell? ⟨g, i * 8 + 2, none⟩ = some (.int .i64 (kn : Nat)) := by have := (U0.out.unc GD.out.2.2.2.2.2.2.2.1).c2; rw [HE.out] at this; exact this
  go_upto_region 3 with fail
  have BK : Hid (Below w0.heap.size w0 (w0.alloc (Obj.cells #[.string k.b, .int .i64 k.n0, .int .i64 k.n1, .int .i64 k.n2, .int .i64 k.n3, .int .i64 k.n4, .int .i64 k.n5, .int .i64 k.n6, .int .i64 k.n7, .bool k.f, .bool k.t] 68))) := (Below.refl _ _).alloc (Nat.le_refl _) _
  have K1 : Hid (Kc (w0.alloc (Obj.cells #[.string k.b, .int .i64 k.n0, .int .i64 k.n1, .int .i64 k.n2, .int .i64 k.n3, .int .i64 k.n4, .int .i64 k.n5, .int .i64 k.n6, .int .i64 k.n7, .bool k.f, .bool k.t] 68)) ⟨w.heap.size + 1, 0, none⟩ k) := kind_new k Z0.out
  have Z1 : Hid ((w0.alloc (Obj.cells #[.string k.b, .int .i64 k.n0, .int .i64 k.n1, .int .i64 k.n2, .int .i64 k.n3, .int .i64 k.n4, .int .i64 k.n5, .int .i64 k.n6, .int .i64 k.n7, .bool k.f, .bool k.t] 68)).heap.size = w.heap.size + 2) := by have := Z0.out; unfold Hid; simp; omega
  rw [Z0.out]
  generalize (w0.alloc (Obj.cells #[.string k.b, .int .i64 k.n0, .int .i64 k.n1, .int .i64 k.n2, .int .i64 k.n3, .int .i64 k.n4, .int .i64 k.n5, .int .i64 k.n6, .int .i64 k.n7, .bool k.f, .bool k.t] 68)) = w1 at *
  have B1 : Hid (Below w.heap.size w w1) := B0.out.trans (BK.out.mono B0.out.size)
  have X1 : Hid (Bw w1 w.heap.size X (g1) (g2) (g3) (.slice (some ⟨g, 0, none⟩) us.length cap) (g5)) := X0.out.below BK.out X0.out.lt
  have U1 : Hid (Ub w1 g us rest) := U0.out.below BK.out U0.out.lt
  clear z0 z1 z2 z3 z4 z5 z6 z7 z8 z9 z10 y2 B0 X0 Z0 U0 BK
  have c5 : w1.cell? ⟨w.heap.size + 1, 5, none⟩ = some (.int .i64 k.n4) := by have := K1.out.c5; rw [Nat.zero_add] at this; exact this
  go_upto_region 4 with fail
  clear c5
  go_loopw [7, 9] (fun v7 v9 V => ∃ (a left : Int) (cells : List Int) (cv : Value), cv = v7 ∧ v9 = .int .i64 left ∧ 0 ≤ left ∧ (cells.length : Int) + left ≤ 4 ∧ (0 ≤ a ∧ a < (Wn * Hn : Nat)) ∧ Ub V g (us.set i { u with at_ := a }) rest ∧ Ow V w1.heap.size cv cells ∧ Kp g w1 V ∧ (∀ cells' us', Goes ks X Wn Hn k i (us.set i { u with at_ := a }) left cells' us' → Goes ks X Wn Hn k i us k.n4 (cells ++ cells') us')) (fun _ v9 _ => (intOf v9).toNat)
  case atStart =>
    have hset : us.set i { u with at_ := u.at_ } = us := by
      have h1 := GD.out.2.2.2.2.2.2.2.1
      obtain ⟨h2, h3⟩ := List.getElem?_eq_some_iff.1 h1
      have : ({ u with at_ := u.at_ } : UnV) = us[i] := by rw [h3]
      rw [this, List.set_getElem_self]
    exact ⟨u.at_, k.n4, [], _, rfl, rfl, SP.out.1, by have := SP.out.2; simp; omega, GD.out.2.2.2.2.2.2.2.2.1.2, by rw [hset]; exact U1.out, Ow.nil _ _, Kp.refl _ _, fun cells' us' h => by rw [hset] at h; exact h⟩
  case round =>
    obtain ⟨a, left, cells, cv, rfl, rfl, hl0, hcl, hab, hub, how, hkp, hgo⟩ := hrel
    obtain ⟨us1, hus1⟩ : ∃ l, us.set i { u with at_ := a } = l := ⟨_, rfl⟩
    obtain ⟨u1, hu1⟩ : ∃ v : UnV, { u with at_ := a } = v := ⟨_, rfl⟩
    have hi1 : us1[i]? = some u1 := by rw [← hus1, hu1, List.getElem?_set_self GD.out.2.2.2.2.2.2.2.2.2]
    have hln : us1.length = us.length := by rw [← hus1, List.length_set]
    have F1 : Hid (us1[i]? = some u1 ∧ us1.length = us.length ∧ { u with at_ := a } = u1 ∧ us.set i { u with at_ := a } = us1 ∧ Fit ks (Wn * Hn) u1 ∧ (∀ h ∈ us1, Fit ks (Wn * Hn) h) ∧ ks[u1.kind.toNat]? = some k ∧ (0 ≤ u1.goal ∧ u1.goal < (Wn * Hn : Nat))) := by
      have hf : Fit ks (Wn * Hn) u1 := by rw [← hu1]; exact ⟨GD.out.2.2.2.2.2.2.2.2.1.1, hab⟩
      refine ⟨hi1, hln, hu1, hus1, hf, fun h hh => ?_, by rw [← hu1]; exact GD.out.2.2.2.1, by rw [← hu1]; exact GD.out.2.2.2.2.2.2.1⟩
      rw [← hus1] at hh
      rcases List.mem_or_eq_of_mem_set hh with hh | hh
      · exact GD.out.2.2.2.2.2.1 h hh
      · rw [hh, hu1]; exact hf
    rw [hus1] at hub hgo
    have UB1 : Hid (Ub wr g us1 rest) := hub
    have OC : Hid (Ow wr w1.heap.size cv cells) := how
    have KP : Hid (Kp g w1 wr) := hkp
    have KW : Hid (Kp g w wr) := (Kp.of B1.out).trans hkp
    have HG : Hid (∀ cells' us', Goes ks X Wn Hn k i us1 left cells' us' → Goes ks X Wn Hn k i us k.n4 (cells ++ cells') us') := hgo
    have XR : Hid (Bw wr w.heap.size X (g1) (g2) (g3) (.slice (some ⟨g, 0, none⟩) us.length cap) (g5)) := X1.out.kp9 hkp (by have := UB.out.2; omega)
    have KR : Hid (Kc wr ⟨w.heap.size + 1, 0, none⟩ k) := K1.out.kp9 hkp (by have := UB.out.2; show w.heap.size + 1 ≠ g; omega)
    clear hub how hkp hgo hus1 hu1 hi1 hln hab
    have hcl3 : cells.length ≤ 4 := by omega
    have WL : Hid (∀ V, Below wr.heap.size wr V → Wl V (.agg #[.int .i64 X.turn, .int .i64 X.next, .int .i64 X.wide, .int .i64 X.high, g1, g2, g3, .slice (some ⟨g, 0, none⟩) us.length cap, g5]) { X with us := us1 } ∧ Kl V (.slice (some xk) ks.length qk) ks ∧ Sd V) := fun V hb => by
      have hkv : Kp g w V := KW.out.trans (Kp.of hb)
      exact ST.out V us1 F1.out.2.1 hkv (UB1.out.below hb UB1.out.lt)
    have C4 : Hid (∀ V, Below wr.heap.size wr V → (Bw V w.heap.size X (g1) (g2) (g3) (.slice (some ⟨g, 0, none⟩) us.length cap) (g5) ∧ Unc V ⟨g, i * 8, none⟩ u1)) := fun V hb => ⟨XR.out.below hb XR.out.lt, (UB1.out.below hb UB1.out.lt).unc F1.out.1⟩
    have DR : Hid (Below wr.heap.size wr { wr with drawn := wr.drawn + 1 }) := (Below.refl _ _).drew
    go_upto_region 4 with fail
    refine wp_region_two [(true, 0), (true, 1), (true, 2), (true, 3), (true, 4), (false, 5)] [(false, 6)] (fun V => Bw V w.heap.size X (g1) (g2) (g3) (.slice (some ⟨g, 0, none⟩) us.length cap) (g5) ∧ Unc V ⟨g, i * 8, none⟩ u1) (by kernel_rfl) (by kernel_rfl) (by kernel_rfl) (by decide +kernel) (by decide +kernel) (C4.out _ DR.out) ?_
    generalize ({ wr with drawn := wr.drawn + 1 } : World) = v1 at *
    refine headT_read rfl (.slice (some xk) ks.length qk) (by go_simp) (fun V hV => by go_simp) ?_
    go_simp
    refine headT_read rfl (.agg #[.int .i64 X.turn, .int .i64 X.next, .int .i64 X.wide, .int .i64 X.high, g1, g2, g3, .slice (some ⟨g, 0, none⟩) us.length cap, g5]) (by go_simp) (fun V hV => by obtain ⟨⟨x0, x1, x2, x3, x4, x5, x6, x7, x8⟩, ⟨y0, y1, y2, y3, y4, y5, y6, y7⟩⟩ := hV; go_simp) ?_
    go_simp
    refine headT_read rfl (.pointer (some ⟨g, i * 8, none⟩)) (by go_simp) (fun V hV => by go_simp) ?_
    go_simp
    refine headT_read rfl (.pointer (some ⟨g, i * 8, none⟩)) (by go_simp) (fun V hV => by go_simp) ?_
    go_simp
    refine headT_read rfl (.agg #[.int .i64 u1.id, .int .i64 u1.player, .int .i64 u1.kind, .int .i64 u1.at_, .int .i64 u1.life, .int .i64 u1.load, .int .i64 u1.task, .int .i64 u1.goal]) (by go_simp) (fun V hV => by obtain ⟨⟨x0, x1, x2, x3, x4, x5, x6, x7, x8⟩, ⟨y0, y1, y2, y3, y4, y5, y6, y7⟩⟩ := hV; go_simp) ?_
    go_simp
    refine headT_call rfl 111 #[.slice (some xk) ks.length qk, .agg #[.int .i64 X.turn, .int .i64 X.next, .int .i64 X.wide, .int .i64 X.high, g1, g2, g3, .slice (some ⟨g, 0, none⟩) us.length cap, g5], .agg #[.int .i64 u1.id, .int .i64 u1.player, .int .i64 u1.kind, .int .i64 u1.at_, .int .i64 u1.life, .int .i64 u1.load, .int .i64 u1.task, .int .i64 u1.goal]] (by go_simp) (by go_simp) ?_
    have WI : Hid (Calls Tryz.prog 111 #[.slice (some xk) ks.length qk, .agg #[.int .i64 X.turn, .int .i64 X.next, .int .i64 X.wide, .int .i64 X.high, g1, g2, g3, .slice (some ⟨g, 0, none⟩) us.length cap, g5], .agg #[.int .i64 u1.id, .int .i64 u1.player, .int .i64 u1.kind, .int .i64 u1.at_, .int .i64 u1.life, .int .i64 u1.load, .int .i64 u1.task, .int .i64 u1.goal]] v1 fun e w' => ∃ c : Nat, e = .returned (.int .i64 (c : Nat)) ∧ WishSays ks { X with us := us1 } Wn Hn u1 k c ∧ c < Wn * Hn ∧ Below v1.heap.size v1 w') :=
      wish_any _ _ ks { X with us := us1 } u1 Wn Hn k v1 (WL.out v1 DR.out).2.1 (WL.out v1 DR.out).1 (WL.out v1 DR.out).2.2 GD.out.1 GD.out.2.1 GD.out.2.2.1 (by show us1.length ≤ 1000000; rw [F1.out.2.1]; omega) F1.out.2.2.2.2.1 F1.out.2.2.2.2.2.2.1 F1.out.2.2.2.2.2.1 F1.out.2.2.2.2.2.2.2
    refine Calls.mono WI.out ?_
    rintro e v2 ⟨c, rfl, hws, hcn, hb⟩
    have B2 : Hid (Below wr.heap.size wr v2) := DR.out.trans (hb.mono DR.out.size)
    have hgl := GD.out.1.gl
    obtain ⟨gg, hgg⟩ : ∃ x, X.gs[c]? = some x := ⟨_, List.getElem?_eq_getElem (by omega)⟩
    have WS : Hid (WishSays ks { X with us := us1 } Wn Hn u1 k c ∧ c < Wn * Hn ∧ X.gs[c]? = some gg) := ⟨hws, hcn, hgg⟩
    refine ⟨_, rfl, C4.out _ B2.out, ?_⟩
    clear hb hws hcn hgl hgg DR WI
    go_simp
    refine sched_value rfl (.int .i64 (c : Nat)) v2 (by go_simp) (by go_simp) trivial ?_
    go_simp
    unfold wpSched
    obtain ⟨⟨x0, x1, x2, x3, x4, x5, x6, x7, x8⟩, -⟩ := C4.out _ B2.out
    have c9 : v2.cell? ⟨w.heap.size + 1, 9, none⟩ = some (.bool k.f) := by have := (KR.out.below B2.out KR.out.lt).c9; rw [Nat.zero_add] at this; exact this
    have FL : Hid (Fl v2 (.agg #[.int .i64 X.wide, .int .i64 X.high, g1, g2]) (Wn : Nat) (Hn : Nat) X.gs X.os) := by
      have h9 := (WL.out v2 B2.out).1
      have := fl_of (X := { X with us := us1 }) h9
      have e1 : ({ X with us := us1 } : WV).wide = (Wn : Nat) := GD.out.2.1
      have e2 : ({ X with us := us1 } : WV).high = (Hn : Nat) := GD.out.2.2.1
      rw [e1, e2] at this
      rw [GD.out.2.1, GD.out.2.2.1]
      exact this
    go_wp2_with fail
    refine (Step_ok _ Wn Hn X.gs X.os c gg k.f v2 FL.out GD.out.1 WS.out.2.1 WS.out.2.2).mono ?_
    rintro e v3 ⟨rfl, hb⟩
    obtain ⟨s, hs⟩ : ∃ s, Fd.onto gg k.f = s := ⟨_, rfl⟩
    have SS : Hid (Fd.onto gg k.f = s) := hs
    rw [hs]
    have B3 : Hid (Below wr.heap.size wr v3) := B2.out.trans (hb.mono B2.out.size)
    clear hb hs x0 x1 x2 x3 x4 x5 x6 x7 x8 c9 FL B2
    by_cases hsl : left < s
    · have FIN : Hid (Goes ks X Wn Hn k i us k.n4 cells us1) := by
        have := HG.out [] us1 (.stop F1.out.1 WS.out.1 WS.out.2.2 (.inl (by rw [SS.out]; exact hsl)))
        rw [List.append_nil] at this
        exact this
      go_wp2
      go_ret
      exact ⟨cv, us1, cells, rfl, (OC.out.below B3.out).mono (by have := Z1.out; omega), FIN.out, UB1.out.below B3.out UB1.out.lt, KW.out.trans (Kp.of B3.out), hcl3, a, F1.out.2.2.2.1.symm, by have := F1.out.2.2.2.2.1.2; rw [← F1.out.2.2.1] at this; exact this⟩
    obtain ⟨⟨x0, x1, x2, x3, x4, x5, x6, x7, x8⟩, -⟩ := C4.out _ B3.out
    go_wp2_with fail
    refine (taken_any _ { X with us := us1 } (c : Nat) v3 (WL.out v3 B3.out).1).mono ?_
    rintro e v4 ⟨rfl, hb⟩
    have B4 : Hid (Below wr.heap.size wr v4) := B3.out.trans (hb.mono B3.out.size)
    obtain ⟨tk, htk⟩ : ∃ t, us1.any (fun u => u.at_ == (c : Int)) = t := ⟨_, rfl⟩
    have TK : Hid (us1.any (fun u => u.at_ == (c : Int)) = tk) := htk
    have hx1 : ({ X with us := us1 } : WV).us.any (fun u => u.at_ == (c : Int)) = tk := htk
    rw [hx1]
    clear hb htk hx1 x0 x1 x2 x3 x4 x5 x6 x7 x8 B3
    cases tk with
    | true =>
      have FIN : Hid (Goes ks X Wn Hn k i us k.n4 cells us1) := by
        have := HG.out [] us1 (.stop F1.out.1 WS.out.1 WS.out.2.2 (.inr TK.out))
        rw [List.append_nil] at this
        exact this
      go_wp2
      go_ret
      exact ⟨cv, us1, cells, rfl, (OC.out.below B4.out).mono (by have := Z1.out; omega), FIN.out, UB1.out.below B4.out UB1.out.lt, KW.out.trans (Kp.of B4.out), hcl3, a, F1.out.2.2.2.1.symm, by have := F1.out.2.2.2.2.1.2; rw [← F1.out.2.2.1] at this; exact this⟩
    | false =>
      have hne : u1.at_ ≠ (c : Nat) := by
        have := List.any_eq_false.1 TK.out u1 (List.mem_of_getElem? F1.out.1)
        simpa using this
      have hs1 : 0 < s := by rw [← SS.out]; exact wish_pos WS.out.1 WS.out.2.2 hne
      have U4 : Hid (Ub v4 g us1 rest) := UB1.out.below B4.out UB1.out.lt
      have c3 := (U4.out.unc F1.out.1).c3
      have t3 := U4.out.thaw (i * 8 + 3)
      have U5 : Hid (Ub (v4.setCell ⟨g, i * 8 + 3, none⟩ (.int .i64 (c : Nat))) g (us1.set i { u1 with at_ := (c : Nat) }) rest) := U4.out.set3 F1.out.1 _
      have K5 : Hid (Kp g v4 (v4.setCell ⟨g, i * 8 + 3, none⟩ (.int .i64 (c : Nat)))) := Kp.set _ _ _
      have wsub : IntKind.i64.wrap (left - s) = left - s := by rw [IntKind.wrap_i64]; omega
      go_upto_region 9 with fail
      clear c3 t3 hne
      generalize (v4.setCell ⟨g, i * 8 + 3, none⟩ (.int .i64 (c : Nat))) = v5 at *
      have P5 : Hid (Kp g w1 v5) := (KP.out.trans (Kp.of B4.out)).trans K5.out
      have O5 : Hid (Ow v5 w1.heap.size cv cells) := (OC.out.below B4.out).kp K5.out (by have := UB.out.2; have := Z1.out; omega)
      go_upto_region 10 with fail
      have BA : Hid (Below v5.heap.size v5 (v5.alloc (Obj.cells #[.int .i64 (c : Nat)] 3))) := (Below.refl _ _).alloc (Nat.le_refl _) _
      have C6 : Hid ((v5.alloc (Obj.cells #[.int .i64 (c : Nat)] 3)).cell? ⟨v5.heap.size, 0, none⟩ = some (.int .i64 (c : Nat))) := cell_of_new rfl rfl
      have O6 : Hid (Ow (v5.alloc (Obj.cells #[.int .i64 (c : Nat)] 3)) w1.heap.size cv cells) := O5.out.below BA.out
      have S6 : Hid (w1.heap.size ≤ (v5.alloc (Obj.cells #[.int .i64 (c : Nat)] 3)).heap.size) := Nat.le_trans P5.out.size BA.out.size
      go_wp2_with (at_builtin; refine app_int _ rfl _ _ rfl w1.heap.size _ cells rfl O6.out _ (c : Nat) rfl C6.out (by omega) S6.out ?_)
      intro gg' gc v7 o7 g7 _ _
      have O7 : Hid (Ow v7 w1.heap.size (.slice (some ⟨gg', 0, none⟩) (cells.length + 1) gc) (cells ++ [(c : Int)])) := o7
      have P7 : Hid (Kp g w1 v7) := kp_gb (P5.out.trans (Kp.of BA.out)) g7 (fun b hb => (O6.out.block b hb).1)
      have U7 : Hid (Ub v7 g (us1.set i { u1 with at_ := (c : Nat) }) rest) := by
        have h6 := U5.out.below BA.out U5.out.lt
        unfold Ub at h6
        unfold Hid Ub
        rw [g7.block g (lt_of_block h6) (fun e => by have := (O6.out.block g e.symm).1; have := UB.out.2; have := Z1.out; omega)]
        exact h6
      have US2 : Hid (us1.set i { u1 with at_ := (c : Nat) } = us.set i { u with at_ := (c : Nat) }) := by
        unfold Hid
        rw [← F1.out.2.2.2.1, List.set_set, ← F1.out.2.2.1]
      have HG2 : Hid (∀ cells' us', Goes ks X Wn Hn k i (us.set i { u with at_ := (c : Nat) }) (left - s) cells' us' → Goes ks X Wn Hn k i us k.n4 ((cells ++ [(c : Int)]) ++ cells') us') := fun cells' us' h => by
        have h9 := HG.out ((c : Int) :: cells') us' (.step F1.out.1 WS.out.1 WS.out.2.2 (by rw [SS.out]; omega) TK.out (by rw [US2.out, SS.out]; exact h))
        rw [List.append_assoc]
        exact h9
      clear o7 g7 BA C6 O6 S6 O5 P5 U5 K5 U4
      go_wp2
      go_round
      case rel => exact ⟨(c : Nat), left - s, cells ++ [(c : Int)], _, rfl, rfl, by omega, by rw [List.length_append]; simp; omega, ⟨by omega, by have := WS.out.2.1; omega⟩, by rw [← US2.out]; exact U7.out, O7.out, P7.out, HG2.out⟩
      case measure => simp [intOf]; omega
end Go.Proofs.YteieikgkmfglaaaGreatDoor

