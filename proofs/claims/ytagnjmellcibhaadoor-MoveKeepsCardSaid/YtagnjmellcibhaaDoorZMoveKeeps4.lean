/- A region that draws its order, in which one operation (A: what makes memory for an answer) may come at any time beside calls in one order and what reads. · move.home: the cell of the nearest unit of its player that trains. · move.isDone and move.aim. · Lands: the next cell on a way. · The calls of package path: the way. · Worlds: what is wrong with one. Plain mathematics. · world.within. · Worlds: a unit by its id; whether a list has one of that number. · Worlds: whether one may stand on a cell. · A region whose operations read, and call what makes memory, ahead of a tail in one order: it may be walked in the text's order. · Worlds: what is wrong with a unit. · Worlds: what is wrong with a job. -/
import Derived.Test.YtagnjmellcibhaaDoorZMoveKeeps3
import Derived.Test.YtagnjmellcibhaaDoorZMoveKeeps2
import Derived.Test.YtagnjmellcibhaaDoorZMoveKeeps1
import Derived.StillTail
import Derived.Below
import Derived.BigQuiet
import Derived.BigRegion
import Derived.Deep.DeepCutAuto
namespace Go.Proofs.YtagnjmellcibhaaDoor
open Go Go.RowKit
set_option linter.unusedVariables false

section
variable {P : Program} {ops : Array Oper} {md : Region.Mode} {C : World → Prop} {Q : Exit → Act → World → Prop}

/-- the head, A being still to come: ahead of each call it may come; s2 waits for it. -/
def wpHeadA (P : Program) (ops : Array Oper) (C : World → Prop) (K : Act → World → Prop) (A : Nat) (s2 : List (Bool × Nat)) : List (Bool × Nat) → Act → World → Prop
  | [], a, W => ∃ o, ops[A]? = some o ∧ StepS P ops C o (wpHeadT P ops C K s2) a W
  | (true, i) :: r, a, W => ∃ o v, ops[i]? = some o ∧ YieldsS P ops C o v a ∧ wpHeadA P ops C K A s2 r (a.put o.dst v) W
  | (false, i) :: r, a, W => (∃ o, ops[i]? = some o ∧ StepS P ops C o (wpHeadA P ops C K A s2 r) a W) ∧ (∃ o, ops[A]? = some o ∧ StepS P ops C o (wpHeadT P ops C K ((false, i) :: r ++ s2)) a W)
def headAB (md : Region.Mode) (ops : Array Oper) (H0 : Array Bool) (A : Nat) (s2 : List (Bool × Nat)) : List (Bool × Nat) → Array Bool → Bool
  | [], listed => decide (Region.ready md ops listed = [A]) && headB md ops H0 s2 (listed.setIfInBounds A true)
  | (true, i) :: r, listed => (Region.ready md ops listed).contains i && (Region.free md ops listed i && ((waits md ops H0 i || decide (Region.ready md ops (H0.setIfInBounds i false) = [i])) && headAB md ops H0 A s2 r (listed.setIfInBounds i true)))
  | (false, i) :: r, listed => (Region.ready md ops listed).contains i && ((Region.ready md ops listed).all (fun j => decide (j = i) || decide (j = A)) && (headAB md ops H0 A s2 r (listed.setIfInBounds i true) && ((Region.ready md ops listed).contains A && headB md ops H0 ((false, i) :: r ++ s2) (listed.setIfInBounds A true))))
theorem wpAnyT_of_headA {K : Act → World → Prop} {H0 : Array Bool} {A : Nat} {s2 : List (Bool × Nat)} (hsel : Region.noSelect ops = true) : ∀ (s : List (Bool × Nat)) (listed : Array Bool) (a : Act) (W : World), Clos md ops listed → headAB md ops H0 A s2 s listed = true → C W → wpHeadA P ops C K A s2 s a W → wpAnyT P md ops C (fun l a W => l = H0 ∧ K a W) (s.length + s2.length + 1) listed a W
  | [], listed, a, W, inv, hB, hC, h => by
    simp only [headAB, Bool.and_eq_true, decide_eq_true_eq] at hB
    obtain ⟨hr, hH⟩ := hB
    have hr' : A ∈ Region.ready md ops listed := by rw [hr]; simp
    obtain ⟨o, ho, hs⟩ := h
    rw [List.length_nil, Nat.zero_add]
    refine ⟨fun h => (by rw [hr] at h; cases h), fun j hj => ?_⟩
    rw [hr] at hj
    obtain rfl : j = A := by simpa using hj
    exact ⟨o, ho, hs.mono fun a' W' hC' hk => wpAnyT_of_head hsel s2 _ _ _ (inv.set hr') hH hC' hk⟩
  | (true, i) :: r, listed, a, W, inv, hB, hC, h => by
    simp only [headAB, Bool.and_eq_true, Bool.or_eq_true, decide_eq_true_eq] at hB
    obtain ⟨hr, hf, hH, hB⟩ := hB
    obtain ⟨o, v, ho, hy, hk⟩ := h
    have hr' : i ∈ Region.ready md ops listed := by simpa using hr
    rw [show ((true, i) :: r).length + s2.length + 1 = (r.length + s2.length + 1) + 1 by rw [List.length_cons]; omega]
    exact wpAnyT_first ho (Region.noSelect_spec hsel) hH (fun _ _ _ h => h.1) (r.length + s2.length + 1) listed a W inv (Region.free_spec ho hf) hr' hy hC (wpAnyT_of_headA hsel r _ _ _ (inv.set hr') hB hC hk)
  | (false, i) :: r, listed, a, W, inv, hB, hC, h => by
    simp only [headAB, Bool.and_eq_true] at hB
    obtain ⟨hr, hall, hB1, hA, hB2⟩ := hB
    have hr' : i ∈ Region.ready md ops listed := by simpa using hr
    have hA' : A ∈ Region.ready md ops listed := by simpa using hA
    obtain ⟨⟨o, ho, hs⟩, ⟨oA, hoA, hsA⟩⟩ := h
    rw [show ((false, i) :: r).length + s2.length + 1 = (r.length + s2.length + 1) + 1 by rw [List.length_cons]; omega]
    refine ⟨fun h => (by rw [h] at hr'; cases hr'), fun j hj => ?_⟩
    have hj' := List.all_eq_true.1 hall j hj
    simp only [Bool.or_eq_true, decide_eq_true_eq] at hj'
    rcases hj' with rfl | rfl
    · exact ⟨o, ho, hs.mono fun a' W' hC' hk => wpAnyT_of_headA hsel r _ _ _ (inv.set hr') hB1 hC' hk⟩
    · refine ⟨oA, hoA, hsA.mono fun a' W' hC' hk => ?_⟩
      have := wpAnyT_of_head hsel ((false, i) :: r ++ s2) _ _ _ (inv.set hA') hB2 hC' hk
      rw [show ((false, i) :: r ++ s2).length = r.length + s2.length + 1 by simp] at this
      exact this
/-- the region: its head s in the worlds C, A coming at any time; then s2, in the worlds C; its tail t. -/
theorem wp_region_float {id : Nat} {a : Act} {w : World} (A : Nat) (s s2 t : List (Bool × Nat)) (C : World → Prop) (hm : P.follows .mixedOrders = true) (hs : Region.noSelect ops = true) (hl : s.length + s2.length + 1 + t.length = ops.size)
    (hB : headAB .any ops (listedBy ops.size (s ++ [(false, A)] ++ s2)) A s2 s (Array.replicate ops.size false) = true)
    (hT : schedB .any ops t (listedBy ops.size (s ++ [(false, A)] ++ s2)) = true)
    (hC : C { w with drawn := w.drawn + 1 }) (h : wpHeadA P ops C (wpSched P ops (fun _ => True) Q t) A s2 s a { w with drawn := w.drawn + 1 }) : (Code.region id ops true).wp P Q a w := by
  refine wp_region_any hm ?_
  rw [← hl]
  refine wpAny_of_T (g := t.length) (fun listed a W hh => ?_) _ _ _ _ (wpAnyT_of_headA (H0 := listedBy ops.size (s ++ [(false, A)] ++ s2)) hs s _ a _ (fun j oj _ hj => by rw [getD_replicate_false] at hj; cases hj) (by rw [hl]; exact hB) hC h)
  obtain ⟨rfl, hk⟩ := hh
  exact wpAny_of_S _ _ _ _ (wpAnyS_of_sched hs t _ a W hT trivial hk)
theorem headA_read {K : Act → World → Prop} {A i : Nat} {s2 r : List (Bool × Nat)} {o : Oper} {a : Act} {W : World} (ho : ops[i]? = some o) (v : Value) (hw : Region.wanted o (yielded ops a.tmps) = true) (hr : ∀ W, C W → (execOp a.eval o).run P W = .ok (.value v) W) (h : wpHeadA P ops C K A s2 r (a.put o.dst v) W) : wpHeadA P ops C K A s2 ((true, i) :: r) a W :=
  ⟨o, v, ho, ⟨hw, hr⟩, h⟩
theorem headA_call {K : Act → World → Prop} {A i : Nat} {s2 r : List (Bool × Nat)} {o oA : Oper} {a : Act} {W : World} (ho : ops[i]? = some o) (f : FuncId) (args : Array Value) (hw : Region.wanted o (yielded ops a.tmps) = true) (hr : (execOp a.eval o).run P W = .ok (.enter f args) W)
    (hc : Calls P f args W (fun e w' => ∃ v, e = .returned v ∧ C w' ∧ wpHeadA P ops C K A s2 r (a.put o.dst v) w'))
    (hoA : ops[A]? = some oA) (vA : Value) (WA : World) (hwA : Region.wanted oA (yielded ops a.tmps) = true) (hrA : (execOp a.eval oA).run P W = .ok (.value vA) WA) (hCA : C WA) (hA : wpHeadT P ops C K ((false, i) :: r ++ s2) (a.put oA.dst vA) WA) : wpHeadA P ops C K A s2 ((false, i) :: r) a W :=
  ⟨⟨o, ho, hw, .inr (.inr ⟨f, args, hr, hc⟩)⟩, ⟨oA, hoA, hwA, .inl ⟨vA, WA, hrA, hCA, hA⟩⟩⟩
theorem headT_skip {K : Act → World → Prop} {i : Nat} {r : List (Bool × Nat)} {o : Oper} {a : Act} {W : World} (ho : ops[i]? = some o) (W' : World) (hw : Region.wanted o (yielded ops a.tmps) = true) (hr : (execOp a.eval o).run P W = .ok .skip W') (hC : C W') (h : wpHeadT P ops C K r (a.put o.dst undef) W') : wpHeadT P ops C K ((false, i) :: r) a W :=
  ⟨o, ho, hw, .inr (.inl ⟨W', hr, hC, h⟩)⟩
theorem headA_last {K : Act → World → Prop} {A : Nat} {s2 : List (Bool × Nat)} {oA : Oper} {a : Act} {W : World} (hoA : ops[A]? = some oA) (vA : Value) (WA : World) (hwA : Region.wanted oA (yielded ops a.tmps) = true) (hrA : (execOp a.eval oA).run P W = .ok (.value vA) WA) (hCA : C WA) (hA : wpHeadT P ops C K s2 (a.put oA.dst vA) WA) : wpHeadA P ops C K A s2 [] a W :=
  ⟨oA, hoA, hwA, .inl ⟨vA, WA, hrA, hCA, hA⟩⟩
end
end Go.Proofs.YtagnjmellcibhaaDoor

namespace Go.Proofs.YtagnjmellcibhaaDoor
open Go.RowKit
set_option linter.unusedVariables false

/-- home's boxes: the kinds, the world, the unit. -/
structure Hm (w V : World) (vk : Value) (X : WV) (u1 u2 u3 u4 u5 : Value) (u : UnV) : Prop where
  b : Below w.heap.size w V
  k : V.cell? ⟨w.heap.size, 0, none⟩ = some vk
  x : Bw V (w.heap.size + 1) X u1 u2 u3 u4 u5
  u : Unc V ⟨w.heap.size + 2, 0, none⟩ u
theorem Hm.below {w V V' : World} {vk : Value} {X : WV} {u1 u2 u3 u4 u5 : Value} {u : UnV} {n : Nat} (h : Hm w V vk X u1 u2 u3 u4 u5 u) (hb : Below n V V') (hn : w.heap.size + 3 ≤ n) : Hm w V' vk X u1 u2 u3 u4 u5 u :=
  ⟨h.b.trans (hb.mono (by omega)), by rw [hb.cell (p := ⟨w.heap.size, 0, none⟩) (show w.heap.size < n by omega)]; exact h.k, h.x.below hb (by omega), h.u.below hb (show w.heap.size + 2 < n by omega)⟩
theorem Hm.sz {w V : World} {vk : Value} {X : WV} {u1 u2 u3 u4 u5 : Value} {u : UnV} (h : Hm w V vk X u1 u2 u3 u4 u5 u) : w.heap.size + 3 ≤ V.heap.size := h.u.lt
theorem ro_kp {w w' : World} {b n c z : Nat} {xs : List Int} (h : Ro w (.slice (some ⟨b, 0, none⟩) n c) xs) (k : Kp z w w') (hn : b ≠ z) : Ro w' (.slice (some ⟨b, 0, none⟩) n c) xs := by
  obtain ⟨a, c', he, h1, h2, h3⟩ := h
  injection he with e1 e2 e3
  subst e1
  refine ⟨_, _, by rw [e2, e3], h1, h2, fun hx => ?_⟩
  obtain ⟨x, hx1, hx2, hx3⟩ := h3 hx
  injection hx1 with hx1
  subst hx1
  refine ⟨_, rfl, Nat.lt_of_lt_of_le hx2 k.size, fun i y hi => ?_⟩
  have := hx3 i y hi
  rw [Addr.add_lit] at this ⊢
  have hc := World.cell?_of_block (a := ⟨b, 0 + i, none⟩) (k.block b hx2 hn)
  rw [hc]
  exact this
/-- those of whom the nearest is meant, and where it is. -/
def homes (ks : List KV) (us : List UnV) (l : List Int) (pl : Int) : List UnV := us.filter (fun h => !otherU ks l pl h)
def homeAt (ks : List KV) (us : List UnV) (l : List Int) (u : UnV) : Int :=
  match homes ks us l u.player with
  | [] => u.at_
  | x0 :: tl => (minU (fun h => l.getD h.at_.toNat 0) x0 tl).at_
/-- units that stand on a field and are of kinds. -/
def Fit (ks : List KV) (n : Nat) (h : UnV) : Prop := (0 ≤ h.kind ∧ h.kind < (ks.length : Int)) ∧ (0 ≤ h.at_ ∧ h.at_ < (n : Int))
theorem flat_all {nb : Nat → List Int} {st : Nat → Nat → Int} {t n : Nat} {l : List Int} (h : Wy.IsFar nb st t n l ∧ Wy.Flat l) (hn : n ≤ 144) : ∀ x ∈ l, -1 ≤ x ∧ x ≤ 1000000 := by
  intro x hx
  obtain ⟨i, hi⟩ := List.mem_iff_getElem?.1 hx
  have h1 := (h.1.2 i x hi).ge
  have h2 := flat_le h.2 h.1.1 hn i
  rw [List.getD_eq_getElem?_getD, hi] at h2
  simp at h2
  exact ⟨h1, by omega⟩

theorem field_at (m : UnV) (W : World) : (Instr.field 33 (.agg #[.int .i64 m.id, .int .i64 m.player, .int .i64 m.kind, .int .i64 m.at_, .int .i64 m.life, .int .i64 m.load, .int .i64 m.task, .int .i64 m.goal]) 3).run Tryd.prog W = .ok (.int .i64 m.at_) W := by kernel_rfl
set_option maxRecDepth 100000 in
set_option maxHeartbeats 4000000 in
theorem home_any (vk vw : Value) (ks : List KV) (X : WV) (u : UnV) (Wn Hn : Nat) (k : KV) (w : World) (hk : Kl w vk ks) (hw : Wl w vw X) (hs : Sd w) (G : Fd.Good Wn Hn X.gs X.os) (e1 : X.wide = (Wn : Nat)) (e2 : X.high = (Hn : Nat)) (hl : X.us.length ≤ 1000000)
    (hu : Fit ks (Wn * Hn) u) (hk' : ks[u.kind.toNat]? = some k) (hus : ∀ h ∈ X.us, Fit ks (Wn * Hn) h) :
    Calls Tryd.prog 64 #[vk, vw, u.val] w fun e w' => ∃ l, e = .returned (.int .i64 (homeAt ks X.us l u)) ∧ (Wy.IsFar (Fd.near Wn Hn) (fun i _ => (X.gs.map fun g => Fd.onto g k.f).getD i 0) u.at_.toNat (Wn * Hn) l ∧ Wy.Flat l) ∧ Below w.heap.size w w' := by
  obtain ⟨kn, hkn⟩ : ∃ n : Nat, u.kind = n := ⟨u.kind.toNat, by have := hu.1; omega⟩
  obtain ⟨an, han⟩ : ∃ n : Nat, u.at_ = n := ⟨u.at_.toNat, by have := hu.2; omega⟩
  have hkl : kn < ks.length := by have := hu.1; omega
  have hkk : ks[kn]? = some k := by rw [hkn, Int.toNat_natCast] at hk'; exact hk'
  have ea : u.at_.toNat = an := by rw [han]; rfl
  rw [ea]
  obtain ⟨ss, hss⟩ : ∃ ss, (X.gs.map fun g => Fd.onto g k.f) = ss := ⟨_, rfl⟩
  have Hss : Hid ((X.gs.map fun g => Fd.onto g k.f) = ss) := hss
  rw [hss]
  clear hss
  have H : Hid (Wl w vw X) := hw
  have S : Hid (Sd w) := hs
  have GD : Hid (Fd.Good Wn Hn X.gs X.os ∧ X.wide = (Wn : Nat) ∧ X.high = (Hn : Nat) ∧ an < Wn * Hn ∧ X.us.length ≤ 1000000 ∧ ∀ h ∈ X.us, Fit ks (Wn * Hn) h) := ⟨G, e1, e2, by have := hu.2; omega, hl, hus⟩
  have KL0 : Hid (Kl w vk ks) := hk
  obtain ⟨p1, q1, p2, q2, p3, q3, p4, q4, p5, q5, rfl⟩ := wl_shape9 hw
  obtain ⟨pk, qk, rfl, ck1, ck2, kc⟩ := hk
  obtain ⟨xk, rfl, hxl, hxc⟩ := kc (by intro h; subst h; simp at hkl)
  have KK : Hid (Kc w (xk.add (kn * 11)) k ∧ (xk.add (kn * 11)).block < w.heap.size) := ⟨hxc kn k hkk, by rw [add_block]; exact hxl⟩
  have HE : Hid (u.kind = (kn : Nat) ∧ u.at_ = (an : Nat)) := ⟨hkn, han⟩
  clear hw hs G e1 e2 hl hu hk' hus hkn han ea kc hxc hxl hkk
  unfold UnV.val
  go_enter Tryd.func64, Tryd.ntmps64
  go_upto_region 1 with fail
  have M0 : Hid (Hm w (((w.alloc (Obj.cells #[.slice (some xk) ks.length qk] 22)).alloc (Obj.cells #[.int .i64 X.turn, .int .i64 X.next, .int .i64 X.wide, .int .i64 X.high, .slice p1 X.gs.length q1, .slice p2 X.os.length q2, .slice p3 X.gold.length q3, .slice p4 X.us.length q4, .slice p5 X.qs.length q5] 29)).alloc (Obj.cells #[.int .i64 u.id, .int .i64 u.player, .int .i64 u.kind, .int .i64 u.at_, .int .i64 u.life, .int .i64 u.load, .int .i64 u.task, .int .i64 u.goal] 33)) (.slice (some xk) ks.length qk) X (.slice p1 X.gs.length q1) (.slice p2 X.os.length q2) (.slice p3 X.gold.length q3) (.slice p4 X.us.length q4) (.slice p5 X.qs.length q5) u) := by
    refine ⟨(((Below.refl _ _).alloc (Nat.le_refl _) _).alloc (by simp) _).alloc (by simp; omega) _, ?_, ?_, Unc.mk' u (by simp)⟩
    · have h1 : (w.alloc (Obj.cells #[.slice (some xk) ks.length qk] 22)).cell? ⟨w.heap.size, 0, none⟩ = some (.slice (some xk) ks.length qk) := cell_of_new rfl rfl
      exact Lib.cell?_alloc_some _ (Lib.cell?_alloc_some _ h1)
    · exact (Bw.mk' X _ _ _ _ _ (by simp)).below ((Below.refl _ _).alloc (Nat.le_refl _) _) (by simp)
  generalize (((w.alloc (Obj.cells #[.slice (some xk) ks.length qk] 22)).alloc (Obj.cells #[.int .i64 X.turn, .int .i64 X.next, .int .i64 X.wide, .int .i64 X.high, .slice p1 X.gs.length q1, .slice p2 X.os.length q2, .slice p3 X.gold.length q3, .slice p4 X.us.length q4, .slice p5 X.qs.length q5] 29)).alloc (Obj.cells #[.int .i64 u.id, .int .i64 u.player, .int .i64 u.kind, .int .i64 u.at_, .int .i64 u.life, .int .i64 u.load, .int .i64 u.task, .int .i64 u.goal] 33)) = w0 at *
  have CB : Hid (∀ V, Hm w V (.slice (some xk) ks.length qk) X (.slice p1 X.gs.length q1) (.slice p2 X.os.length q2) (.slice p3 X.gold.length q3) (.slice p4 X.us.length q4) (.slice p5 X.qs.length q5) u → Hm w V (.slice (some xk) ks.length qk) X (.slice p1 X.gs.length q1) (.slice p2 X.os.length q2) (.slice p3 X.gold.length q3) (.slice p4 X.us.length q4) (.slice p5 X.qs.length q5) u ∧ V.cell? ⟨w.heap.size + 2, 3, none⟩ = some (.int .i64 (an : Nat)) ∧ V.cell? ⟨w.heap.size + 2, 2, none⟩ = some (.int .i64 (kn : Nat)) ∧ V.cell? ⟨(xk.add (kn * 11)).block, (xk.add (kn * 11)).off + 9, none⟩ = some (.bool k.f)) := fun V h => ⟨h, by have := h.u.c3; rw [HE.out.2] at this; exact this, by have := h.u.c2; rw [HE.out.1] at this; exact this, (KK.out.1.below h.b KK.out.2).c9⟩
  go_cut [7, 8] (fun v7 v8 V => v8 = .nilIface ∧ ∃ bf b l, v7 = .pointer (some ⟨bf, 0, none⟩) ∧ V.cell? ⟨bf, 0, none⟩ = some (.slice (some ⟨b, 0, none⟩) (Wn * Hn) (Wn * Hn)) ∧ Ro V (.slice (some ⟨b, 0, none⟩) (Wn * Hn) (Wn * Hn)) l ∧ (Wy.IsFar (Fd.near Wn Hn) (fun i _ => ss.getD i 0) an (Wn * Hn) l ∧ Wy.Flat l) ∧ Hm w V (.slice (some xk) ks.length qk) X (.slice p1 X.gs.length q1) (.slice p2 X.os.length q2) (.slice p3 X.gold.length q3) (.slice p4 X.us.length q4) (.slice p5 X.qs.length q5) u)
  case first =>
    refine wp_region_float 14 [(true, 0), (true, 1), (true, 2), (true, 3), (true, 4), (true, 5), (true, 6), (true, 7), (true, 8), (true, 9), (false, 10), (true, 11), (true, 12), (true, 13)] [(false, 15)] [(false, 16)] (fun V => Hm w V (.slice (some xk) ks.length qk) X (.slice p1 X.gs.length q1) (.slice p2 X.os.length q2) (.slice p3 X.gold.length q3) (.slice p4 X.us.length q4) (.slice p5 X.qs.length q5) u ∧ V.cell? ⟨w.heap.size + 2, 3, none⟩ = some (.int .i64 (an : Nat)) ∧ V.cell? ⟨w.heap.size + 2, 2, none⟩ = some (.int .i64 (kn : Nat)) ∧ V.cell? ⟨(xk.add (kn * 11)).block, (xk.add (kn * 11)).off + 9, none⟩ = some (.bool k.f)) (by kernel_rfl) (by kernel_rfl) (by kernel_rfl) (by decide +kernel) (by decide +kernel) (CB.out _ (M0.out.below ((Below.refl _ _).drew) M0.out.sz)) ?_
    have M1 : Hid (Hm w { w0 with drawn := w0.drawn + 1 } (.slice (some xk) ks.length qk) X (.slice p1 X.gs.length q1) (.slice p2 X.os.length q2) (.slice p3 X.gold.length q3) (.slice p4 X.us.length q4) (.slice p5 X.qs.length q5) u) := M0.out.below ((Below.refl _ _).drew) M0.out.sz
    generalize ({ w0 with drawn := w0.drawn + 1 } : World) = w1 at *
    clear M0
    refine headA_read rfl (.pointer (some ⟨w.heap.size + 1, 2, none⟩)) (by go_simp) (fun V hV => by go_simp) ?_
    go_simp
    refine headA_read rfl (.agg #[.int .i64 X.wide, .int .i64 X.high, .slice p1 X.gs.length q1, .slice p2 X.os.length q2]) (by go_simp) (fun V hV => by obtain ⟨⟨-, hk0, ⟨x0, x1, x2, x3, x4, x5, x6, x7, x8⟩, -⟩, ca, ckn, ckf⟩ := hV; go_simp) ?_
    go_simp
    refine headA_read rfl (.pointer (some ⟨w.heap.size + 2, 3, none⟩)) (by go_simp) (fun V hV => by go_simp) ?_
    go_simp
    refine headA_read rfl (.int .i64 (an : Nat)) (by go_simp) (fun V hV => by obtain ⟨⟨-, hk0, ⟨x0, x1, x2, x3, x4, x5, x6, x7, x8⟩, -⟩, ca, ckn, ckf⟩ := hV; go_simp) ?_
    go_simp
    refine headA_read rfl (.slice (some xk) ks.length qk) (by go_simp) (fun V hV => by obtain ⟨⟨-, hk0, ⟨x0, x1, x2, x3, x4, x5, x6, x7, x8⟩, -⟩, ca, ckn, ckf⟩ := hV; go_simp) ?_
    go_simp
    refine headA_read rfl (.pointer (some ⟨w.heap.size + 2, 2, none⟩)) (by go_simp) (fun V hV => by go_simp) ?_
    go_simp
    refine headA_read rfl (.int .i64 (kn : Nat)) (by go_simp) (fun V hV => by obtain ⟨⟨-, hk0, ⟨x0, x1, x2, x3, x4, x5, x6, x7, x8⟩, -⟩, ca, ckn, ckf⟩ := hV; go_simp) ?_
    go_simp
    refine headA_read rfl (.pointer (some (xk.add (kn * 11)))) (by go_simp) (fun V hV => by go_simp) ?_
    go_simp
    refine headA_read rfl (.pointer (some ⟨(xk.add (kn * 11)).block, (xk.add (kn * 11)).off + 9, none⟩)) (by go_simp) (fun V hV => by go_simp) ?_
    go_simp
    refine headA_read rfl (.bool k.f) (by go_simp) (fun V hV => by obtain ⟨⟨-, hk0, ⟨x0, x1, x2, x3, x4, x5, x6, x7, x8⟩, -⟩, ca, ckn, ckf⟩ := hV; go_simp) ?_
    go_simp
    refine headA_call rfl 72 #[.agg #[.int .i64 X.wide, .int .i64 X.high, .slice p1 X.gs.length q1, .slice p2 X.os.length q2], .int .i64 (an : Nat), .bool k.f] (by go_simp) (by go_simp) ?_ rfl (.pointer (some ⟨w1.heap.size, 0, none⟩)) (w1.alloc (Obj.cells #[.slice none 0 0] 23)) (by go_simp) (by go_simp) (CB.out _ (M1.out.below ((Below.refl _ _).alloc (Nat.le_refl _) _) M1.out.sz)) ?_
    · have FL : Hid (Fl w1 (.agg #[.int .i64 X.wide, .int .i64 X.high, .slice p1 X.gs.length q1, .slice p2 X.os.length q2]) (Wn : Nat) (Hn : Nat) X.gs X.os) := by
        have := fl_of (H.out.below M1.out.b)
        rw [GD.out.2.1, GD.out.2.2.1] at this
        rw [GD.out.2.1, GD.out.2.2.1]
        exact this
      refine (From_ok _ Wn Hn X.gs X.os an k.f w1 FL.out (S.out.below M1.out.b) GD.out.1 GD.out.2.2.2.1).mono ?_
      rintro e w2 ⟨b, l, rfl, hb0, hro, hf, hb⟩
      rw [Hss.out] at hf
      have M2 : Hid (Hm w w2 (.slice (some xk) ks.length qk) X (.slice p1 X.gs.length q1) (.slice p2 X.os.length q2) (.slice p3 X.gold.length q3) (.slice p4 X.us.length q4) (.slice p5 X.qs.length q5) u) := M1.out.below hb M1.out.sz
      have R2 : Hid (Ro w2 (.slice (some ⟨b, 0, none⟩) (Wn * Hn) (Wn * Hn)) l) := hro
      have FF : Hid (Wy.IsFar (Fd.near Wn Hn) (fun i _ => ss.getD i 0) an (Wn * Hn) l ∧ Wy.Flat l) := hf
      have BL : Hid (b < w2.heap.size) := by
        obtain ⟨a9, c9, he9, -, -, h9⟩ := hro
        injection he9 with he9
        obtain ⟨x9, hx9, hx8, -⟩ := h9 (by intro h; have h8 := hf.1.1; rw [h] at h8; have := GD.out.2.2.2.1; simp at h8; omega)
        rw [← he9] at hx9
        injection hx9 with hx9
        rw [← hx9] at hx8
        exact hx8
      refine ⟨_, rfl, CB.out _ M2.out, ?_⟩
      clear hb hb0 hro hf M1 FL
      go_simp
      refine headA_read rfl (.tuple #[.slice (some ⟨b, 0, none⟩) (Wn * Hn) (Wn * Hn), .nilIface]) (by go_simp) (fun V hV => by go_simp) ?_
      go_simp
      refine headA_read rfl (.slice (some ⟨b, 0, none⟩) (Wn * Hn) (Wn * Hn)) (by go_simp) (fun V hV => by go_simp) ?_
      go_simp
      refine headA_read rfl .nilIface (by go_simp) (fun V hV => by go_simp) ?_
      go_simp
      have BQ : Hid (Below w2.heap.size w2 (w2.alloc (Obj.cells #[.slice none 0 0] 23))) := (Below.refl _ _).alloc (Nat.le_refl _) _
      obtain ⟨bf, hbf⟩ : ∃ z, w2.heap.size = z := ⟨_, rfl⟩
      have bc0 : (w2.alloc (Obj.cells #[.slice none 0 0] 23)).cell? ⟨bf, 0, none⟩ = some (.slice none 0 0) := cell_of_new hbf rfl
      have bb0 : (w2.alloc (Obj.cells #[.slice none 0 0] 23)).heap[bf]? = some (.cells #[.slice none 0 0] 23 (0, 0)) := by subst hbf; exact heap_alloc_new _ _
      refine headA_last rfl (.pointer (some ⟨w2.heap.size, 0, none⟩)) (w2.alloc (Obj.cells #[.slice none 0 0] 23)) (by go_simp) (by go_simp) (CB.out _ (M2.out.below BQ.out M2.out.sz)) ?_
      rw [hbf]
      go_simp
      generalize (w2.alloc (Obj.cells #[.slice none 0 0] 23)) = w6 at *
      have M6 : Hid (Hm w w6 (.slice (some xk) ks.length qk) X (.slice p1 X.gs.length q1) (.slice p2 X.os.length q2) (.slice p3 X.gold.length q3) (.slice p4 X.us.length q4) (.slice p5 X.qs.length q5) u) := M2.out.below BQ.out M2.out.sz
      have R6 : Hid (Ro w6 (.slice (some ⟨b, 0, none⟩) (Wn * Hn) (Wn * Hn)) l) := R2.out.below BQ.out
      have NB : Hid (w.heap.size + 3 ≤ bf ∧ b ≠ bf) := ⟨by rw [← hbf]; exact M2.out.sz, by have := BL.out; omega⟩
      have bb : w6.heap[bf]? = some (.cells #[.slice none 0 0] 23 (0, 0)) := bb0
      have bc : w6.cell? ⟨bf, 0, none⟩ = some (.slice none 0 0) := by simp [World.cell?, bb]
      have bz : w6.frozen? ⟨bf, 0, none⟩ = false := by simp [World.frozen?, bb]
      clear M2 R2 BQ hbf bc0 bb0 BL
      have KS : Hid (Kp bf w6 (w6.setCell ⟨bf, 0, none⟩ (.slice (some ⟨b, 0, none⟩) (Wn * Hn) (Wn * Hn)))) := Kp.set _ _ _
      have MS : Hid (Hm w (w6.setCell ⟨bf, 0, none⟩ (.slice (some ⟨b, 0, none⟩) (Wn * Hn) (Wn * Hn))) (.slice (some xk) ks.length qk) X (.slice p1 X.gs.length q1) (.slice p2 X.os.length q2) (.slice p3 X.gold.length q3) (.slice p4 X.us.length q4) (.slice p5 X.qs.length q5) u) := M6.out.below (n := w.heap.size + 3) (KS.out.below (Below.refl _ _) M6.out.sz NB.out.1) (Nat.le_refl _)
      have RS : Hid (Ro (w6.setCell ⟨bf, 0, none⟩ (.slice (some ⟨b, 0, none⟩) (Wn * Hn) (Wn * Hn))) (.slice (some ⟨b, 0, none⟩) (Wn * Hn) (Wn * Hn)) l) := ro_kp R6.out KS.out NB.out.2
      have CS : Hid ((w6.setCell ⟨bf, 0, none⟩ (.slice (some ⟨b, 0, none⟩) (Wn * Hn) (Wn * Hn))).cell? ⟨bf, 0, none⟩ = some (.slice (some ⟨b, 0, none⟩) (Wn * Hn) (Wn * Hn))) := by
        have h9 := heap_setCell_same _ bf 0 _ _ (.slice (some ⟨b, 0, none⟩) (Wn * Hn) (Wn * Hn)) bb
        unfold Hid
        simp [World.cell?, h9]
      clear KS bb
      refine headT_skip rfl (w6.setCell ⟨bf, 0, none⟩ (.slice (some ⟨b, 0, none⟩) (Wn * Hn) (Wn * Hn))) (by go_simp) (by go_simp) (CB.out _ MS.out) ?_
      go_simp
      generalize (w6.setCell ⟨bf, 0, none⟩ (.slice (some ⟨b, 0, none⟩) (Wn * Hn) (Wn * Hn))) = w9 at *
      unfold wpHeadT
      refine sched_value rfl .nilIface w9 (by go_simp) (by go_simp) trivial ?_
      go_simp
      unfold wpSched
      go_wp2_with fail
      go_meet
      case rel => exact ⟨rfl, bf, b, l, rfl, CS.out, RS.out, FF.out, MS.out⟩
    · have BQ : Hid (Below w1.heap.size w1 (w1.alloc (Obj.cells #[.slice none 0 0] 23))) := (Below.refl _ _).alloc (Nat.le_refl _) _
      obtain ⟨bf, hbf⟩ : ∃ z, w1.heap.size = z := ⟨_, rfl⟩
      have bc0 : (w1.alloc (Obj.cells #[.slice none 0 0] 23)).cell? ⟨bf, 0, none⟩ = some (.slice none 0 0) := cell_of_new hbf rfl
      have bz0 : (w1.alloc (Obj.cells #[.slice none 0 0] 23)).heap[bf]? = some (.cells #[.slice none 0 0] 23 (0, 0)) := by subst hbf; exact heap_alloc_new _ _
      rw [hbf]
      go_simp
      generalize (w1.alloc (Obj.cells #[.slice none 0 0] 23)) = w2 at *
      have M2 : Hid (Hm w w2 (.slice (some xk) ks.length qk) X (.slice p1 X.gs.length q1) (.slice p2 X.os.length q2) (.slice p3 X.gold.length q3) (.slice p4 X.us.length q4) (.slice p5 X.qs.length q5) u) := M1.out.below BQ.out M1.out.sz
      have BF : Hid (w.heap.size + 3 ≤ bf ∧ bf < w2.heap.size ∧ w2.heap[bf]? = some (.cells #[.slice none 0 0] 23 (0, 0))) := ⟨by rw [← hbf]; exact M1.out.sz, lt_of_block bz0, bz0⟩
      clear M1 BQ hbf bc0 bz0
      refine headT_call rfl 72 #[.agg #[.int .i64 X.wide, .int .i64 X.high, .slice p1 X.gs.length q1, .slice p2 X.os.length q2], .int .i64 (an : Nat), .bool k.f] (by go_simp) (by go_simp) ?_
      have FL : Hid (Fl w2 (.agg #[.int .i64 X.wide, .int .i64 X.high, .slice p1 X.gs.length q1, .slice p2 X.os.length q2]) (Wn : Nat) (Hn : Nat) X.gs X.os) := by
        have := fl_of (H.out.below M2.out.b)
        rw [GD.out.2.1, GD.out.2.2.1] at this
        rw [GD.out.2.1, GD.out.2.2.1]
        exact this
      refine (From_ok _ Wn Hn X.gs X.os an k.f w2 FL.out (S.out.below M2.out.b) GD.out.1 GD.out.2.2.2.1).mono ?_
      rintro e w6 ⟨b, l, rfl, hb0, hro, hf, hb⟩
      rw [Hss.out] at hf
      have M6 : Hid (Hm w w6 (.slice (some xk) ks.length qk) X (.slice p1 X.gs.length q1) (.slice p2 X.os.length q2) (.slice p3 X.gold.length q3) (.slice p4 X.us.length q4) (.slice p5 X.qs.length q5) u) := M2.out.below hb M2.out.sz
      have R6 : Hid (Ro w6 (.slice (some ⟨b, 0, none⟩) (Wn * Hn) (Wn * Hn)) l) := hro
      have FF : Hid (Wy.IsFar (Fd.near Wn Hn) (fun i _ => ss.getD i 0) an (Wn * Hn) l ∧ Wy.Flat l) := hf
      have bb : w6.heap[bf]? = some (.cells #[.slice none 0 0] 23 (0, 0)) := by rw [hb.block bf BF.out.2.1]; exact BF.out.2.2
      have bc : w6.cell? ⟨bf, 0, none⟩ = some (.slice none 0 0) := by simp [World.cell?, bb]
      have bz : w6.frozen? ⟨bf, 0, none⟩ = false := by simp [World.frozen?, bb]
      have NB : Hid (w.heap.size + 3 ≤ bf ∧ b ≠ bf) := ⟨BF.out.1, by have := BF.out.2.1; omega⟩
      refine ⟨_, rfl, CB.out _ M6.out, ?_⟩
      clear hb hb0 hro hf M2 FL BF
      go_simp
      refine headT_read rfl (.tuple #[.slice (some ⟨b, 0, none⟩) (Wn * Hn) (Wn * Hn), .nilIface]) (by go_simp) (fun V hV => by go_simp) ?_
      go_simp
      refine headT_read rfl (.slice (some ⟨b, 0, none⟩) (Wn * Hn) (Wn * Hn)) (by go_simp) (fun V hV => by go_simp) ?_
      go_simp
      refine headT_read rfl .nilIface (by go_simp) (fun V hV => by go_simp) ?_
      go_simp
      have KS : Hid (Kp bf w6 (w6.setCell ⟨bf, 0, none⟩ (.slice (some ⟨b, 0, none⟩) (Wn * Hn) (Wn * Hn)))) := Kp.set _ _ _
      have MS : Hid (Hm w (w6.setCell ⟨bf, 0, none⟩ (.slice (some ⟨b, 0, none⟩) (Wn * Hn) (Wn * Hn))) (.slice (some xk) ks.length qk) X (.slice p1 X.gs.length q1) (.slice p2 X.os.length q2) (.slice p3 X.gold.length q3) (.slice p4 X.us.length q4) (.slice p5 X.qs.length q5) u) := M6.out.below (n := w.heap.size + 3) (KS.out.below (Below.refl _ _) M6.out.sz NB.out.1) (Nat.le_refl _)
      have RS : Hid (Ro (w6.setCell ⟨bf, 0, none⟩ (.slice (some ⟨b, 0, none⟩) (Wn * Hn) (Wn * Hn))) (.slice (some ⟨b, 0, none⟩) (Wn * Hn) (Wn * Hn)) l) := ro_kp R6.out KS.out NB.out.2
      have CS : Hid ((w6.setCell ⟨bf, 0, none⟩ (.slice (some ⟨b, 0, none⟩) (Wn * Hn) (Wn * Hn))).cell? ⟨bf, 0, none⟩ = some (.slice (some ⟨b, 0, none⟩) (Wn * Hn) (Wn * Hn))) := by
        have h9 := heap_setCell_same _ bf 0 _ _ (.slice (some ⟨b, 0, none⟩) (Wn * Hn) (Wn * Hn)) bb
        unfold Hid
        simp [World.cell?, h9]
      clear KS bb
      refine headT_skip rfl (w6.setCell ⟨bf, 0, none⟩ (.slice (some ⟨b, 0, none⟩) (Wn * Hn) (Wn * Hn))) (by go_simp) (by go_simp) (CB.out _ MS.out) ?_
      go_simp
      generalize (w6.setCell ⟨bf, 0, none⟩ (.slice (some ⟨b, 0, none⟩) (Wn * Hn) (Wn * Hn))) = w9 at *
      unfold wpHeadT
      refine sched_value rfl .nilIface w9 (by go_simp) (by go_simp) trivial ?_
      go_simp
      unfold wpSched
      go_wp2_with fail
      go_meet
      case rel => exact ⟨rfl, bf, b, l, rfl, CS.out, RS.out, FF.out, MS.out⟩
  case rest =>
    obtain ⟨rfl, bf, b, l, rfl, hcf, hro, hff, hm⟩ := hcut
    have M1 : Hid (Hm w wc (.slice (some xk) ks.length qk) X (.slice p1 X.gs.length q1) (.slice p2 X.os.length q2) (.slice p3 X.gold.length q3) (.slice p4 X.us.length q4) (.slice p5 X.qs.length q5) u) := hm
    have RF : Hid (Ro wc (.slice (some ⟨b, 0, none⟩) (Wn * Hn) (Wn * Hn)) l ∧ wc.cell? ⟨bf, 0, none⟩ = some (.slice (some ⟨b, 0, none⟩) (Wn * Hn) (Wn * Hn))) := ⟨hro, hcf⟩
    have FF : Hid (Wy.IsFar (Fd.near Wn Hn) (fun i _ => ss.getD i 0) an (Wn * Hn) l ∧ Wy.Flat l) := hff
    clear hcf hro hff hm M0 CB
    obtain ⟨x0, x1, x2, x3, x4, x5, x6, x7, x8⟩ := M1.out.x
    have US : Hid (Unl w (.slice p4 X.us.length q4) X.us) := H.out.slices.2.2.2.1
    go_wp2_with fail
    refine (clone_any _ X.us wc (US.out.below M1.out.b) GD.out.2.2.2.2.1).mono ?_
    rintro e w2 ⟨v, rfl, ho, hb⟩
    have O2 : Hid (Uno w2 wc.heap.size v X.us) := ho
    have B2 : Hid (Below wc.heap.size wc w2) := hb
    have LL : Hid (l.length = Wn * Hn) := FF.out.1.1
    have ZS : Hid (w.heap.size + 3 ≤ wc.heap.size ∧ bf < wc.heap.size) := ⟨M1.out.sz, cell_lt RF.out.2⟩
    have PR : Hid (∀ W, Below wc.heap.size wc W → ∀ h ∈ X.us, Calls Tryd.prog 73 (#[h.val] ++ #[.pointer (some ⟨w.heap.size + 2, 0, none⟩), .pointer (some ⟨w.heap.size, 0, none⟩), .pointer (some ⟨bf, 0, none⟩)]) W fun e w' => e = .returned (.bool (otherU ks l u.player h)) ∧ Below W.heap.size W w') := fun W hW h hh => by
      have fit := GD.out.2.2.2.2.2 h hh
      have z1 := ZS.out.1
      refine other_mv ks l h u.player (w.heap.size + 2) w.heap.size bf _ _ W ?_ ?_ ?_ ((KL0.out.below M1.out.b).below hW) (RF.out.1.below hW) fit.1 (by rw [LL.out]; exact fit.2)
      · rw [hW.cell (p := ⟨w.heap.size + 2, 1, none⟩) (show w.heap.size + 2 < wc.heap.size by omega)]
        exact M1.out.u.c1
      · rw [hW.cell (p := ⟨w.heap.size, 0, none⟩) (show w.heap.size < wc.heap.size by omega)]
        exact M1.out.k
      · rw [hW.cell (p := ⟨bf, 0, none⟩) ZS.out.2]
        exact RF.out.2
    clear ho hb x0 x1 x2 x3 x4 x5 x6 x7 x8
    go_wp2_with fail
    refine (del_any 73 (by intro args w; go_simp) v #[.pointer (some ⟨w.heap.size + 2, 0, none⟩), .pointer (some ⟨w.heap.size, 0, none⟩), .pointer (some ⟨bf, 0, none⟩)] X.us (otherU ks l u.player) w2 wc.heap.size O2.out B2.out.size GD.out.2.2.2.2.1 (fun W hW h hh => PR.out W (B2.out.trans hW) h hh)).mono ?_
    rintro e w3 ⟨v3, rfl, ho, hb⟩
    have B3 : Hid (Below wc.heap.size wc w3) := B2.out.trans hb
    have L3 : Hid (Unl w3 v3 (homes ks X.us l u.player)) := ho.l
    obtain ⟨a3, c3, rfl⟩ := ho.len
    obtain ⟨hs, hhs⟩ : ∃ hs, homes ks X.us l u.player = hs := ⟨_, rfl⟩
    have HS : Hid (homes ks X.us l u.player = hs) := hhs
    have e3 : (X.us.filter (fun k => !otherU ks l u.player k)).length = hs.length := by rw [← hhs]; rfl
    rw [hhs, e3] at L3
    rw [e3]
    clear ho hb e3 hhs O2 B2
    have UB : Hid (Unc w3 ⟨w.heap.size + 2, 0, none⟩ u) := M1.out.u.below B3.out (show w.heap.size + 2 < wc.heap.size by have := ZS.out.1; omega)
    have BW : Hid (Below w.heap.size w w3) := M1.out.b.trans (B3.out.mono (by have := ZS.out.1; omega))
    cases hs with
    | nil =>
      have HA : Hid (homeAt ks X.us l u = u.at_) := by unfold Hid homeAt; rw [HS.out]
      obtain ⟨q0', q1', q2', q3', q4', q5', q6', q7'⟩ := UB.out
      simp only [List.length_nil]
      go_wp2
      go_ret
      exact ⟨l, by rw [HA.out]; rfl, FF.out, BW.out⟩
    | cons y0 tl =>
      have HA : Hid (homeAt ks X.us l u = (minU (fun h => l.getD h.at_.toNat 0) y0 tl).at_) := by unfold Hid homeAt; rw [HS.out]
      have HM : Hid (∀ h ∈ y0 :: tl, h ∈ X.us) := fun h hh => by rw [← HS.out] at hh; exact (List.mem_filter.1 hh).1
      have TL : Hid (tl.length ≤ 1000000) := by
        have h1 : (homes ks X.us l u.player).length ≤ X.us.length := List.length_filter_le _ _
        rw [HS.out, List.length_cons] at h1
        have h2 := GD.out.2.2.2.2.1
        unfold Hid
        omega
      have hne : (((y0 :: tl).length : Nat) : Int) ≠ 0 := by rw [List.length_cons]; omega
      have hne' : ((((y0 :: tl).length : Nat) : Int) == 0) = false := by rw [beq_eq_false_iff_ne]; exact hne
      obtain ⟨n, hn⟩ : ∃ n, (y0 :: tl).length = n := ⟨_, rfl⟩
      have HN : Hid ((y0 :: tl).length = n) := hn
      rw [hn] at hne hne' ⊢
      clear hn
      have L4 : Hid (Unl w3 (.slice a3 n c3) (y0 :: tl)) := by rw [← HN.out]; exact L3.out
      clear L3
      go_wp2_with fail
      refine (min_any 76 (by intro args w; go_simp) _ #[.pointer (some ⟨bf, 0, none⟩)] y0 tl (fun h => l.getD h.at_.toNat 0) w3 L4.out TL.out (fun W hW a ha b hb => ?_)).mono ?_
      · have fa := (GD.out.2.2.2.2.2 a (HM.out a ha)).2
        have fb := (GD.out.2.2.2.2.2 b (HM.out b hb)).2
        refine nearer_mv l a b bf _ W ?_ ((RF.out.1.below B3.out).below hW) (flat_all FF.out GD.out.1.pos.2) (by rw [LL.out]; exact fa) (by rw [LL.out]; exact fb)
        rw [hW.cell (p := ⟨bf, 0, none⟩) (Nat.lt_of_lt_of_le ZS.out.2 B3.out.size), B3.out.cell (p := ⟨bf, 0, none⟩) ZS.out.2]
        exact RF.out.2
      · rintro e w4 ⟨rfl, hb⟩
        have B4 : Hid (Below w.heap.size w w4) := BW.out.trans (hb.mono BW.out.size)
        obtain ⟨m, hm⟩ : ∃ m, minU (fun h => l.getD h.at_.toNat 0) y0 tl = m := ⟨_, rfl⟩
        rw [hm] at HA ⊢
        clear hb hm
        unfold UnV.val
        have hfa := fun W => field_at m W
        go_wp2
        go_ret
        exact ⟨l, by rw [HA.out]; rfl, FF.out, B4.out⟩
end Go.Proofs.YtagnjmellcibhaaDoor

namespace Go.Proofs.YtagnjmellcibhaaDoor
open Go.RowKit
set_option linter.unusedVariables false

/-- the boxes of a world and a unit. -/
structure Am (w V : World) (X : WV) (u1 u2 u3 u4 u5 : Value) (u : UnV) : Prop where
  b : Below w.heap.size w V
  x : Bw V w.heap.size X u1 u2 u3 u4 u5
  u : Unc V ⟨w.heap.size + 1, 0, none⟩ u
theorem Am.below {w V V' : World} {X : WV} {u1 u2 u3 u4 u5 : Value} {u : UnV} (h : Am w V X u1 u2 u3 u4 u5 u) (hb : Below V.heap.size V V') : Am w V' X u1 u2 u3 u4 u5 u :=
  ⟨h.b.trans (hb.mono h.b.size), h.x.below hb h.x.lt, h.u.below hb h.u.lt⟩
theorem Am.new {w : World} (X : WV) (u1 u2 u3 u4 u5 : Value) (u : UnV) : Am w ((w.alloc (Obj.cells #[.int .i64 X.turn, .int .i64 X.next, .int .i64 X.wide, .int .i64 X.high, u1, u2, u3, u4, u5] 29)).alloc (Obj.cells #[.int .i64 u.id, .int .i64 u.player, .int .i64 u.kind, .int .i64 u.at_, .int .i64 u.life, .int .i64 u.load, .int .i64 u.task, .int .i64 u.goal] 33)) X u1 u2 u3 u4 u5 u :=
  ⟨((Below.refl _ _).alloc (Nat.le_refl _) _).alloc (by simp) _, (Bw.mk' X _ _ _ _ _ rfl).below ((Below.refl _ _).alloc (Nat.le_refl _) _) (by simp), Unc.mk' u (by simp)⟩
/-- it has nothing to take at its Goal. -/
def doneU (os : List Int) (u : UnV) (k : KV) : Bool := (u.load == k.n7) || (os.getD u.goal.toNat 0 == 0)

set_option maxRecDepth 100000 in
set_option maxHeartbeats 2000000 in
theorem isdone_any (vk vw : Value) (ks : List KV) (X : WV) (u : UnV) (k : KV) (w : World) (hk : Kl w vk ks) (hw : Wl w vw X) (h1 : 0 ≤ u.kind ∧ u.kind < (ks.length : Int)) (hk' : ks[u.kind.toNat]? = some k) (h2 : 0 ≤ u.goal ∧ u.goal < (X.os.length : Int)) :
    Calls Tryd.prog 63 #[vk, vw, u.val] w fun e w' => e = .returned (.bool (doneU X.os u k)) ∧ Below w.heap.size w w' := by
  obtain ⟨kn, hkn⟩ : ∃ n : Nat, u.kind = n := ⟨u.kind.toNat, by omega⟩
  obtain ⟨gn, hgn⟩ : ∃ n : Nat, u.goal = n := ⟨u.goal.toNat, by omega⟩
  have hkl : kn < ks.length := by omega
  have hgl : gn < X.os.length := by omega
  have hkk : ks[kn]? = some k := by rw [hkn, Int.toNat_natCast] at hk'; exact hk'
  have DU : Hid (doneU X.os u k = ((u.load == k.n7) || (X.os[gn] == 0))) := by unfold Hid doneU; rw [hgn, Int.toNat_natCast, List.getD_eq_getElem?_getD, List.getElem?_eq_getElem hgl]; rfl
  have H : Hid (Wl w vw X) := hw
  obtain ⟨p1, q1, p2, q2, p3, q3, p4, q4, p5, q5, rfl⟩ := wl_shape9 hw
  obtain ⟨pk, qk, rfl, ck1, ck2, kc⟩ := hk
  obtain ⟨xk, rfl, hxl, hxc⟩ := kc (by intro h; subst h; simp at hkl)
  have KK : Hid (Kc w (xk.add (kn * 11)) k ∧ (xk.add (kn * 11)).block < w.heap.size) := ⟨hxc kn k hkk, by rw [add_block]; exact hxl⟩
  have HE : Hid (u.kind = (kn : Nat) ∧ u.goal = (gn : Nat)) := ⟨hkn, hgn⟩
  clear hw h1 hk' h2 hkn hgn kc hxc hxl hkk
  unfold UnV.val
  go_enter Tryd.func63, Tryd.ntmps63
  go_upto_region 1 with fail
  have A0 : Hid (Am w ((w.alloc (Obj.cells #[.int .i64 X.turn, .int .i64 X.next, .int .i64 X.wide, .int .i64 X.high, .slice p1 X.gs.length q1, .slice p2 X.os.length q2, .slice p3 X.gold.length q3, .slice p4 X.us.length q4, .slice p5 X.qs.length q5] 29)).alloc (Obj.cells #[.int .i64 u.id, .int .i64 u.player, .int .i64 u.kind, .int .i64 u.at_, .int .i64 u.life, .int .i64 u.load, .int .i64 u.task, .int .i64 u.goal] 33)) X (.slice p1 X.gs.length q1) (.slice p2 X.os.length q2) (.slice p3 X.gold.length q3) (.slice p4 X.us.length q4) (.slice p5 X.qs.length q5) u) := Am.new X _ _ _ _ _ u
  generalize ((w.alloc (Obj.cells #[.int .i64 X.turn, .int .i64 X.next, .int .i64 X.wide, .int .i64 X.high, .slice p1 X.gs.length q1, .slice p2 X.os.length q2, .slice p3 X.gold.length q3, .slice p4 X.us.length q4, .slice p5 X.qs.length q5] 29)).alloc (Obj.cells #[.int .i64 u.id, .int .i64 u.player, .int .i64 u.kind, .int .i64 u.at_, .int .i64 u.life, .int .i64 u.load, .int .i64 u.task, .int .i64 u.goal] 33)) = w0 at *
  obtain ⟨x0, x1, x2, x3, x4, x5, x6, x7, x8⟩ := A0.out.x
  obtain ⟨y0, y1, y2, y3, y4, y5, y6, y7⟩ := A0.out.u
  rw [HE.out.1] at y2
  rw [HE.out.2] at y7
  have c8 := (KK.out.1.below A0.out.b KK.out.2).c8
  obtain ⟨ao, co, he, -, -, hoc⟩ := (H.out.below A0.out.b).slices.2.1
  obtain ⟨xo, hxo, -, hoc2⟩ := hoc (by intro h; rw [h] at hgl; simp at hgl)
  injection he with he1 he2 he3
  subst he1
  subst hxo
  have cg : w0.cell? (xo.add gn) = some (.int .i64 X.os[gn])   := hoc2 gn _ (List.getElem?_eq_getElem hgl)
  clear hoc hoc2 he2 he3
  have BB : Hid (Below w.heap.size w w0) := A0.out.b
  by_cases hd : u.load = k.n7
  · have D1 : Hid (doneU X.os u k = true) := by unfold Hid; rw [DU.out, hd]; simp
    rw [hd] at y5
    go_quiet (fail)
    go_wp2
    go_ret
    exact ⟨by rw [D1.out]; rfl, ⟨BB.out.os, BB.out.tape, BB.out.output, BB.out.size, BB.out.block⟩⟩
  · have hd' : (u.load == k.n7) = false := by rw [beq_eq_false_iff_ne]; exact hd
    by_cases hg : X.os[gn] = 0
    · have D1 : Hid (doneU X.os u k = true) := by unfold Hid; rw [DU.out, hg]; simp
      rw [hg] at cg
      go_quiet (fail)
      go_wp2
      go_ret
      exact ⟨by rw [D1.out]; rfl, ⟨BB.out.os, BB.out.tape, BB.out.output, BB.out.size, BB.out.block⟩⟩
    · have hg' : (X.os[gn] == 0) = false := by rw [beq_eq_false_iff_ne]; exact hg
      have D1 : Hid (doneU X.os u k = false) := by unfold Hid; rw [DU.out, hd', hg']; rfl
      go_quiet (fail)
      go_wp2
      go_ret
      exact ⟨by rw [D1.out]; first | rfl | simp [hg'], ⟨BB.out.os, BB.out.tape, BB.out.output, BB.out.size, BB.out.block⟩⟩

/-- the cell to which a unit is on its way. -/
def AimSays (ks : List KV) (X : WV) (Wn Hn : Nat) (u : UnV) (k : KV) (c : Int) : Prop :=
  (u.task = 0 ∧ c = u.at_) ∨ (u.task ≠ 0 ∧ ¬ (u.task = 2 ∧ doneU X.os u k = true) ∧ c = u.goal) ∨
    (u.task = 2 ∧ doneU X.os u k = true ∧ ∃ l, (Wy.IsFar (Fd.near Wn Hn) (fun i _ => (X.gs.map fun g => Fd.onto g k.f).getD i 0) u.at_.toNat (Wn * Hn) l ∧ Wy.Flat l) ∧ c = homeAt ks X.us l u)
set_option maxRecDepth 100000 in
set_option maxHeartbeats 2000000 in
theorem aim_any (vk vw : Value) (ks : List KV) (X : WV) (u : UnV) (Wn Hn : Nat) (k : KV) (w : World) (hk : Kl w vk ks) (hw : Wl w vw X) (hs : Sd w) (G : Fd.Good Wn Hn X.gs X.os) (e1 : X.wide = (Wn : Nat)) (e2 : X.high = (Hn : Nat)) (hl : X.us.length ≤ 1000000)
    (hu : Fit ks (Wn * Hn) u) (hk' : ks[u.kind.toNat]? = some k) (hus : ∀ h ∈ X.us, Fit ks (Wn * Hn) h) (hg : 0 ≤ u.goal ∧ u.goal < (Wn * Hn : Nat)) :
    Calls Tryd.prog 50 #[vk, vw, u.val] w fun e w' => ∃ c, e = .returned (.int .i64 c) ∧ AimSays ks X Wn Hn u k c ∧ Below w.heap.size w w' := by
  have H : Hid (Wl w vw X) := hw
  have K : Hid (Kl w vk ks) := hk
  have S : Hid (Sd w) := hs
  have GD : Hid (Fd.Good Wn Hn X.gs X.os ∧ X.wide = (Wn : Nat) ∧ X.high = (Hn : Nat) ∧ X.us.length ≤ 1000000 ∧ Fit ks (Wn * Hn) u ∧ ks[u.kind.toNat]? = some k ∧ (∀ h ∈ X.us, Fit ks (Wn * Hn) h) ∧ 0 ≤ u.goal ∧ u.goal < (X.os.length : Int)) := ⟨G, e1, e2, hl, hu, hk', hus, hg.1, by rw [G.ol]; exact hg.2⟩
  obtain ⟨p1, q1, p2, q2, p3, q3, p4, q4, p5, q5, rfl⟩ := wl_shape9 hw
  obtain ⟨pk, qk, rfl, ck1, ck2, -⟩ := hk
  clear hw hs G e1 e2 hl hu hk' hus hg
  have UV : Hid (u.val = .agg #[.int .i64 u.id, .int .i64 u.player, .int .i64 u.kind, .int .i64 u.at_, .int .i64 u.life, .int .i64 u.load, .int .i64 u.task, .int .i64 u.goal]) := rfl
  rw [UV.out]
  go_enter Tryd.func50, Tryd.ntmps50
  go_upto_region 1 with fail
  have A0 : Hid (Am w ((w.alloc (Obj.cells #[.int .i64 X.turn, .int .i64 X.next, .int .i64 X.wide, .int .i64 X.high, .slice p1 X.gs.length q1, .slice p2 X.os.length q2, .slice p3 X.gold.length q3, .slice p4 X.us.length q4, .slice p5 X.qs.length q5] 29)).alloc (Obj.cells #[.int .i64 u.id, .int .i64 u.player, .int .i64 u.kind, .int .i64 u.at_, .int .i64 u.life, .int .i64 u.load, .int .i64 u.task, .int .i64 u.goal] 33)) X (.slice p1 X.gs.length q1) (.slice p2 X.os.length q2) (.slice p3 X.gold.length q3) (.slice p4 X.us.length q4) (.slice p5 X.qs.length q5) u) := Am.new X _ _ _ _ _ u
  generalize ((w.alloc (Obj.cells #[.int .i64 X.turn, .int .i64 X.next, .int .i64 X.wide, .int .i64 X.high, .slice p1 X.gs.length q1, .slice p2 X.os.length q2, .slice p3 X.gold.length q3, .slice p4 X.us.length q4, .slice p5 X.qs.length q5] 29)).alloc (Obj.cells #[.int .i64 u.id, .int .i64 u.player, .int .i64 u.kind, .int .i64 u.at_, .int .i64 u.life, .int .i64 u.load, .int .i64 u.task, .int .i64 u.goal] 33)) = w0 at *
  obtain ⟨x0, x1, x2, x3, x4, x5, x6, x7, x8⟩ := A0.out.x
  obtain ⟨y0, y1, y2, y3, y4, y5, y6, y7⟩ := A0.out.u
  by_cases h0 : u.task = 0
  · have T0 : Hid (u.task = 0) := h0
    rw [h0] at y6
    clear h0
    go_wp2
    go_ret
    exact ⟨u.at_, rfl, .inl ⟨T0.out, rfl⟩, A0.out.b⟩
  have T0 : Hid (u.task ≠ 0) := h0
  have h0' : (u.task == 0) = false := by rw [beq_eq_false_iff_ne]; exact h0
  by_cases h2 : u.task = 2
  · have T2 : Hid (u.task = 2) := h2
    have h2' : (u.task == 2) = true := by rw [h2]; rfl
    clear h0 h2
    have ID : Hid (Calls Tryd.prog 63 #[.slice pk ks.length qk, .agg #[.int .i64 X.turn, .int .i64 X.next, .int .i64 X.wide, .int .i64 X.high, .slice p1 X.gs.length q1, .slice p2 X.os.length q2, .slice p3 X.gold.length q3, .slice p4 X.us.length q4, .slice p5 X.qs.length q5], .agg #[.int .i64 u.id, .int .i64 u.player, .int .i64 u.kind, .int .i64 u.at_, .int .i64 u.life, .int .i64 u.load, .int .i64 u.task, .int .i64 u.goal]] w0 fun e w' => e = .returned (.bool (doneU X.os u k)) ∧ Below w0.heap.size w0 w') := by
      have h := isdone_any _ _ ks X u k w0 (K.out.below A0.out.b) (H.out.below A0.out.b) GD.out.2.2.2.2.1.1 GD.out.2.2.2.2.2.1 GD.out.2.2.2.2.2.2.2
      rw [UV.out] at h
      exact h
    go_wp2_with fail
    refine Calls.mono ID.out ?_
    rintro e w1 ⟨rfl, hb⟩
    have A1 : Hid (Am w w1 X (.slice p1 X.gs.length q1) (.slice p2 X.os.length q2) (.slice p3 X.gold.length q3) (.slice p4 X.us.length q4) (.slice p5 X.qs.length q5) u) := A0.out.below hb
    obtain ⟨dn, hdn⟩ : ∃ d, doneU X.os u k = d := ⟨_, rfl⟩
    have DN : Hid (doneU X.os u k = dn) := hdn
    rw [hdn]
    clear hb hdn A0 x0 x1 x2 x3 x4 x5 x6 x7 x8 y0 y1 y2 y3 y4 y5 y6 y7
    obtain ⟨x0, x1, x2, x3, x4, x5, x6, x7, x8⟩ := A1.out.x
    obtain ⟨y0, y1, y2, y3, y4, y5, y6, y7⟩ := A1.out.u
    cases dn with
    | true =>
      have hh := home_any _ _ ks X u Wn Hn k w1 (K.out.below A1.out.b) (H.out.below A1.out.b) (S.out.below A1.out.b) GD.out.1 GD.out.2.1 GD.out.2.2.1 GD.out.2.2.2.1 GD.out.2.2.2.2.1 GD.out.2.2.2.2.2.1 GD.out.2.2.2.2.2.2.1
      rw [UV.out] at hh
      have HH : Hid _ := hh
      clear hh
      go_wp2_with fail
      refine Calls.mono HH.out ?_
      rintro e w2 ⟨l, rfl, hf, hb⟩
      have F : Hid (AimSays ks X Wn Hn u k (homeAt ks X.us l u)) := .inr (.inr ⟨T2.out, DN.out, l, hf, rfl⟩)
      have B2 : Hid (Below w.heap.size w w2) := A1.out.b.trans (hb.mono A1.out.b.size)
      obtain ⟨c, hc⟩ : ∃ c, homeAt ks X.us l u = c := ⟨_, rfl⟩
      rw [hc] at F ⊢
      clear hb hf hc x0 x1 x2 x3 x4 x5 x6 x7 x8 y0 y1 y2 y3 y4 y5 y6 y7
      go_wp2
      go_ret
      exact ⟨c, rfl, F.out, B2.out⟩
    | false =>
      go_wp2
      go_ret
      exact ⟨u.goal, rfl, .inr (.inl ⟨T0.out, fun h => (by have h9 := h.2; rw [DN.out] at h9; cases h9), rfl⟩), A1.out.b⟩
  · have h2' : (u.task == 2) = false := by rw [beq_eq_false_iff_ne]; exact h2
    have T2 : Hid (u.task ≠ 2) := h2
    clear h0 h2
    go_wp2
    go_ret
    exact ⟨u.goal, rfl, .inr (.inl ⟨T0.out, fun h => T2.out h.1, rfl⟩), A0.out.b⟩
end Go.Proofs.YtagnjmellcibhaaDoor

namespace Go.Proofs.YtagnjmellcibhaaDoor
open Go.RowKit Wy
set_option linter.unusedVariables false

theorem enter_next : ∀ args w, (callFunc 89 args).run Tryd.prog w = .ok (.enter 89 args) w := by
  intro args w
  go_simp

theorem get_some {l : List Int} {i n : Nat} (hl : l.length = n) (h : i < n) : l[i]? = some (l.getD i 0) := by rw [List.getD_eq_getElem?_getD, List.getElem?_eq_getElem (by omega)]; rfl

set_option maxHeartbeats 2000000 in
theorem pn_any (z1 z2 z3 n : Nat) (u1 u2 uf : Value) (ss l : List Int) (i x : Nat) (w : World) (X : Bl w z1 u1 u2) (hu : Ro w u2 ss) (hf : Ro w uf l) (hl : ss.length = n) (hm : l.length = n) (c2 : w.cell? ⟨z2, 0, none⟩ = some uf) (c3 : w.cell? ⟨z3, 0, none⟩ = some (.int .i64 (i : Nat)))
    (hi : i < n) (hx : x < n) (hn : n ≤ 144) (bs : ∀ j, ss.getD j 0 ≤ 2) (bl : ∀ j, l.getD j 0 ≤ 288) :
    Calls Tryd.prog 89 #[.int .i64 (x : Nat), .pointer (some ⟨z1, 0, none⟩), .pointer (some ⟨z2, 0, none⟩), .pointer (some ⟨z3, 0, none⟩)] w fun e w' => e = .returned (.bool (pn ss l i x)) ∧ ∃ q, w' = w.drewN q := by
  obtain ⟨a, c, rfl, e1, e2, ca⟩ := hu
  obtain ⟨a', c', rfl, e1', e2', ca'⟩ := hf
  obtain ⟨y, rfl, -, hy⟩ := ca (by intro e; rw [e] at hl; simp at hl; omega)
  obtain ⟨y', rfl, -, hy'⟩ := ca' (by intro e; rw [e] at hm; simp at hm; omega)
  have cs := hy x _ (get_some hl hx)
  have cd := hy' x _ (get_some hm hx)
  have ce := hy' i _ (get_some hm hi)
  have P : Hid (pn ss l i x = (decide (0 < ss.getD x 0) && (decide (0 ≤ l.getD x 0) && decide (ss.getD x 0 + l.getD x 0 = l.getD i 0)))) := by unfold Hid pn; rw [Int.toNat_natCast]
  have b1 := bs x
  have b2 := bl x
  have x1 := X.c1
  rw [hl] at e1 x1
  rw [hm] at e1' c2
  generalize ss.getD x 0 = s at *
  generalize l.getD x 0 = d at *
  generalize l.getD i 0 = f at *
  clear hy hy' ca ca' X hl hm bs bl
  by_cases h1 : 0 < s
  · by_cases h2 : 0 ≤ d
    · by_cases h3 : s + d = f
      · have R : Hid (pn ss l i x = true) := by unfold Hid; rw [P.out, decide_eq_true h1, decide_eq_true h2, decide_eq_true h3]; rfl
        clear P
        go_enter Tryd.func89, Tryd.ntmps89
        go_wp2
        go_quiet (fail)
        go_wp2
        go_ret
        exact ⟨by rw [R.out]; rfl, _, rfl⟩
      · have R : Hid (pn ss l i x = false) := by unfold Hid; rw [P.out, decide_eq_true h1, decide_eq_true h2, decide_eq_false h3]; rfl
        have h3' : (s + d == f) = false := by simpa using h3
        clear P
        go_enter Tryd.func89, Tryd.ntmps89
        go_wp2
        go_quiet (fail)
        go_wp2
        go_ret
        exact ⟨by rw [R.out]; rfl, _, rfl⟩
    · have R : Hid (pn ss l i x = false) := by unfold Hid; rw [P.out, decide_eq_true h1, decide_eq_false h2]; rfl
      have h2' : decide (0 ≤ d) = false := decide_eq_false h2
      clear P
      go_enter Tryd.func89, Tryd.ntmps89
      go_wp2
      go_quiet (fail)
      go_wp2
      go_ret
      exact ⟨by rw [R.out]; rfl, _, rfl⟩
  · have R : Hid (pn ss l i x = false) := by unfold Hid; rw [P.out, decide_eq_false h1]; rfl
    have h1' : decide (0 < s) = false := decide_eq_false h1
    clear P
    go_enter Tryd.func89, Tryd.ntmps89
    go_wp2
    go_quiet (fail)
    go_wp2
    go_ret
    exact ⟨by rw [R.out]; rfl, _, rfl⟩

set_option maxHeartbeats 2000000 in
theorem next_ok (v uf : Value) (n i : Nat) (nb : Nat → List Int) (ss l : List Int) (w : World) (h : Ld w v n nb ss) (hf : Ro w uf l) (hm : l.length = n) (hi : i < n) (hn : n ≤ 144) (bs : ∀ j, ss.getD j 0 ≤ 2) (bl : ∀ j, l.getD j 0 ≤ 288)
    (E : ∀ x, x ∈ nb i → ∃ j : Nat, x = j ∧ j < n) (hx : ∃ x ∈ nb i, pn ss l i x = true) :
    Calls Tryd.prog 71 #[v, uf, .int .i64 (i : Nat)] w fun e w' => ∃ j : Nat, e = .returned (.int .i64 (j : Nat)) ∧ j < n ∧ Nx nb ss l i j ∧ Below w.heap.size w w' := by
  obtain ⟨r, hr⟩ := fst_ex (pn ss l i) (nb i)
  obtain ⟨k, j, rfl, hj, hk, hN⟩ := fst_nx E hr hx
  have HN : Hid (j < n ∧ Nx nb ss l i j) := ⟨hj, hN⟩
  obtain ⟨u1, u2, rfl, ⟨x, c, rfl, c1, c2, hb⟩, hr2, hl⟩ := h
  obtain ⟨ui, hui, hri⟩ := hb i hi
  have k0 : w.heap.size ≤ w.heap.size := Nat.le_refl _
  generalize hw1 : w.alloc (Obj.cells #[.slice (some x) n c, u2] 122) = w1
  have b1 : Below w.heap.size w w1 := by rw [← hw1]; exact (Below.refl _ _).alloc (Nat.le_refl _) _
  have X1 : Bl w1 w.heap.size (.slice (some x) n c) u2 := by rw [← hw1]; exact Bl.mk' _ _ rfl
  have z1 : w1.heap.size = w.heap.size + 1 := by rw [← hw1]; simp
  generalize hw2 : w1.alloc (Obj.cells #[uf] 23) = w2
  have b2 : Below w1.heap.size w1 w2 := by rw [← hw2]; exact (Below.refl _ _).alloc (Nat.le_refl _) _
  have d2 : w2.cell? ⟨w.heap.size + 1, 0, none⟩ = some uf := by rw [← hw2, ← z1]; simp
  have z2 : w2.heap.size = w.heap.size + 1 + 1 := by rw [← hw2]; simp [z1]
  generalize hw3 : w2.alloc (Obj.cells #[.int .i64 (i : Nat)] 3) = w3
  have b3 : Below w2.heap.size w2 w3 := by rw [← hw3]; exact (Below.refl _ _).alloc (Nat.le_refl _) _
  have d3 : w3.cell? ⟨w.heap.size + 1 + 1, 0, none⟩ = some (.int .i64 (i : Nat)) := by rw [← hw3, ← z2]; simp
  have b03 : Below w.heap.size w w3 := (b1.trans (b2.mono b1.size)).trans (b3.mono (Nat.le_trans b1.size b2.size))
  have X3 : Bl w3 w.heap.size (.slice (some x) n c) u2 := (X1.below b2 X1.lt).below b3 (Nat.lt_of_lt_of_le X1.lt b2.size)
  have d2' : w3.cell? ⟨w.heap.size + 1, 0, none⟩ = some uf := by rw [b3.cell (p := ⟨w.heap.size + 1, 0, none⟩) (by rw [z2]; exact Nat.lt_succ_self _)]; exact d2
  have ri3 : Ro w3 ui (nb i) := hri.below b03
  have hui3 : w3.cell? (x.add i) = some ui := by rw [b03.cell (p := x.add i) (cell_lt hui)]; exact hui
  have CI : Hid (∀ m, Calls Tryd.prog 54 #[ui, .func (Fn.func 89) #[] #[.pointer (some ⟨w.heap.size, 0, none⟩), .pointer (some ⟨w.heap.size + 1, 0, none⟩), .pointer (some ⟨w.heap.size + 1 + 1, 0, none⟩)]] (w3.drewN m) fun e w' => e = .returned (.int .i64 (k : Nat)) ∧ ∃ q, w' = (w3.drewN m).drewN q) := by
    intro m
    refine (idxf_any 89 enter_next ui _ (nb i) (pn ss l i) (w3.drewN m) (ri3.drewN m) ?_).mono ?_
    · intro m' y hy
      obtain ⟨y', rfl, hy'⟩ := E y hy
      rw [show (#[Value.int .i64 (y' : Nat)] ++ #[Value.pointer (some ⟨w.heap.size, 0, none⟩), Value.pointer (some ⟨w.heap.size + 1, 0, none⟩), Value.pointer (some ⟨w.heap.size + 1 + 1, 0, none⟩)] : Array Value) = #[.int .i64 (y' : Nat), .pointer (some ⟨w.heap.size, 0, none⟩), .pointer (some ⟨w.heap.size + 1, 0, none⟩), .pointer (some ⟨w.heap.size + 1 + 1, 0, none⟩)] from rfl]
      refine (pn_any w.heap.size (w.heap.size + 1) (w.heap.size + 1 + 1) n (.slice (some x) n c) u2 uf ss l i y' _ (X3.below (_root_.Go.below_drewN (_root_.Go.below_drewN (Below.refl _ _) _) _) X3.lt) (((hr2.below b03).drewN m).drewN m') (((hf.below b03).drewN m).drewN m') hl hm d2' d3 hi hy' hn bs bl).mono ?_
      rintro e w' ⟨h1, q, h2⟩
      exact ⟨h1, m' + q, by rw [h2, World.drewN_drewN]⟩
    · rintro e w' ⟨r, rfl, h2, q, h3⟩
      exact ⟨by rw [fst_uniq h2 hr], q, h3⟩
  have B3 : Hid (Below w.heap.size w w3) := b03
  have Hw : Hid (((w.alloc (Obj.cells #[.slice (some x) n c, u2] 122)).alloc (Obj.cells #[uf] 23)).alloc (Obj.cells #[.int .i64 (i : Nat)] 3) = w3) := by unfold Hid; rw [hw1, hw2, hw3]
  obtain ⟨ai, ci, rfl, g1, g2, ca⟩ := ri3
  have hkl : k < (nb i).length := (List.getElem?_eq_some_iff.1 hk).1
  obtain ⟨yi, rfl, -, hyi⟩ := ca (by intro e; rw [e] at hkl; simp at hkl)
  have ck := hyi k _ hk
  have x0 := X3.c0
  obtain ⟨af, cf, rfl, -⟩ := hf
  obtain ⟨a2, cc2, rfl, -⟩ := hr2
  clear hm hl hr hx hN hb hri hui k0 hw1 b1 X1 z1 hw2 b2 d2 z2 hw3 b3 b03 X3 d2' ca hyi hk E bs bl hj
  go_enter Tryd.func71, Tryd.ntmps71
  go_wp2_with fail
  rw [Hw.out]
  go_quiet ((go_at_call 54; exact Calls.quiet_of (CI.out _)))
  go_wp2
  go_ret
  exact ⟨j, rfl, HN.out.1, HN.out.2, _root_.Go.below_drewN B3.out _⟩
end Go.Proofs.YtagnjmellcibhaaDoor

namespace Go.Proofs.YtagnjmellcibhaaDoor
open Go.RowKit Wy
set_option linter.unusedVariables false

set_option maxHeartbeats 1000000 in
theorem Path_bad (v : Value) (W H : Int) (gs os : List Int) (a b F : Int) (fl : Bool) (w : World) (h : Fl w v W H gs os) (hs : Sd w) (hF : Fd.askFault (Fd.fault W H gs os) gs.length [a, b] = F) (h0 : F ≠ 0) :
    Calls Tryd.prog 62 #[v, .int .i64 a, .int .i64 b, .bool fl] w fun e w' => e = .returned (.tuple #[.slice none 0 0, .iface 67 (.int .i64 F)]) ∧ Below w.heap.size w w' := by
  have F0 : Hid (Fl w v W H gs os) := h
  have S0 : Hid (Sd w) := hs
  have HF : Hid (Fd.askFault (Fd.fault W H gs os) gs.length [a, b] = F) := hF
  have H0 : Hid (F ≠ 0) := h0
  obtain ⟨u1, u2, rfl, ⟨a1, c, rfl, c1, c2, ca⟩, ⟨b1, d, rfl, d1, d2, cb⟩⟩ := h
  clear hF h0 ca cb hs
  go_enter Tryd.func62, Tryd.ntmps62
  go_wp2_with fail
  have b0 : Below w.heap.size w ((w.alloc (Obj.cells #[.int .i64 W, .int .i64 H, .slice a1 gs.length c, .slice b1 os.length d] 25)).alloc (Obj.cells #[.int .i64 a, .int .i64 b] 3)) := ((Below.refl _ _).alloc (Nat.le_refl _) _).alloc (by simp) _
  refine (look_no _ _ W H gs os [a, b] F fl _ (F0.out.below b0) (S0.out.below b0) (Ro.lit2 (w := w.alloc _) a b (by simp)) HF.out H0.out).mono ?_
  rintro e w1 ⟨rfl, hb⟩
  have B1 : Hid (Below w.heap.size w w1) := b0.trans (hb.mono (by simp; omega))
  clear hb b0
  go_wp2
  go_ret2
  exact ⟨rfl, B1.out.alloc B1.out.size _⟩

set_option maxHeartbeats 4000000 in
theorem Path_ok (v : Value) (W H : Nat) (gs os : List Int) (a b : Nat) (fl : Bool) (w : World) (h : Fl w v W H gs os) (hs : Sd w) (G : Fd.Good W H gs os) (ha : a < W * H) (hb : b < W * H) :
    Calls Tryd.prog 62 #[v, .int .i64 (a : Nat), .int .i64 (b : Nat), .bool fl] w fun e w' => ∃ l, (IsFar (Fd.near W H) (fun _ j => (gs.map fun g => Fd.onto g fl).getD j 0) b (W * H) l ∧ Flat l) ∧
      ((l.getD a 0 < 0 ∧ e = .returned (.tuple #[.slice none 0 0, .iface 67 (.int .i64 7)])) ∨ (0 ≤ l.getD a 0 ∧ ∃ u p, e = .returned (.tuple #[u, .nilIface]) ∧ Ro w' u p ∧ Pth (Fd.near W H) (gs.map fun g => Fd.onto g fl) l b a p ∧ p.length ≤ 1000)) ∧ Below w.heap.size w w' := by
  have F0 : Hid (Fl w v W H gs os) := h
  have S0 : Hid (Sd w) := hs
  have G0 : Hid (Fd.Good W H gs os) := G
  have A0 : Hid (a < W * H ∧ b < W * H) := ⟨ha, hb⟩
  obtain ⟨u1, u2, rfl, ⟨a1, c, rfl, c1, c2, ca⟩, ⟨b1, d, rfl, d1, d2, cb⟩⟩ := h
  obtain ⟨ss, hss⟩ : ∃ ss, (gs.map fun g => Fd.onto g fl) = ss := ⟨_, rfl⟩
  have Hss : Hid ((gs.map fun g => Fd.onto g fl) = ss) := hss
  have E0 : Hid (Even (Fd.near W H) (fun _ j => ss.getD j 0) (W * H)) := by rw [← hss]; exact even_to G.w1 gs fl
  have T0 : Hid (∀ j, ss.getD j 0 ≤ 2) := by rw [← hss]; exact ss_two gs fl
  rw [hss]
  clear ca cb hs G ha hb hss
  go_enter Tryd.func62, Tryd.ntmps62
  go_wp2_with fail
  have b0 : Below w.heap.size w ((w.alloc (Obj.cells #[.int .i64 W, .int .i64 H, .slice a1 gs.length c, .slice b1 os.length d] 25)).alloc (Obj.cells #[.int .i64 (a : Nat), .int .i64 (b : Nat)] 3)) := ((Below.refl _ _).alloc (Nat.le_refl _) _).alloc (by simp) _
  refine (look_ok _ _ W H gs os [(a : Int), (b : Int)] fl _ (F0.out.below b0) G0.out (S0.out.below b0) (Ro.lit2 (w := w.alloc _) (a : Int) (b : Int) (by simp)) (by have := A0.out; simp; omega)).mono ?_
  rintro e w1 ⟨⟨v1, rfl, hL⟩, hb⟩
  rw [Hss.out] at hL
  have B1 : Hid (Below w.heap.size w w1) := b0.trans (hb.mono (by simp; omega))
  have L1 : Hid (Ld w1 v1 (W * H) (Fd.near W H) ss) := hL
  obtain ⟨p1, p2, rfl, ⟨x1, k1, rfl, -⟩, ⟨x2, k2, rfl, -⟩, -⟩ := hL
  clear hb b0
  go_wp2_with fail
  have b2 : Below w1.heap.size w1 (w1.alloc (Obj.cells #[.slice (some x1) (W * H) k1, .slice x2 ss.length k2] 122)) := (Below.refl _ _).alloc (Nat.le_refl _) _
  have X1 := Bl.mk' (w := w1) (.slice (some x1) (W * H) k1) (.slice x2 ss.length k2) rfl
  refine (farTo_ok _ (W * H) b (Fd.near W H) ss _ (L1.out.below b2) E0.out A0.out.2 G0.out.pos.2 (Fd.near_len W H)).mono ?_
  rintro e w2 ⟨g, l, rfl, hbz, hbk, ⟨hf, hfl⟩, hb⟩
  have P : Hid (Ro w2 (.slice (some ⟨g, 0, none⟩) (W * H) (W * H)) l) := by
    have := hbk.ro (c := W * H) (by rw [hf.1]; exact Nat.le_refl _) (by have := G0.out.pos.2; omega)
    rw [hf.1] at this
    exact this
  have HF : Hid (IsFar (Fd.near W H) (fun _ j => ss.getD j 0) b (W * H) l ∧ Flat l) := ⟨hf, hfl⟩
  have B2 : Hid (Below w.heap.size w w2) := (B1.out.trans (b2.mono B1.out.size)).trans (hb.mono (Nat.le_trans B1.out.size b2.size))
  have X2 : Hid (Bl w2 w1.heap.size (.slice (some x1) (W * H) k1) (.slice x2 ss.length k2)) := X1.below hb X1.lt
  have L2 : Hid (Ld w2 (.agg #[.slice (some x1) (W * H) k1, .slice x2 ss.length k2]) (W * H) (Fd.near W H) ss) := (L1.out.below b2).below hb
  have N0 : W * H ≤ 144 := G0.out.pos.2
  have ca := hbk.cell (get_some hf.1 A0.out.1)
  have LB : Hid (∀ j, l.getD j 0 ≤ 288) := flat_le hfl hf.1 N0
  clear hbz hbk hb b2 X1 L1 B1 hf hfl
  have a0 : a < W * H := A0.out.1
  obtain ⟨y, hy⟩ : ∃ y, l.getD a 0 = y := ⟨_, rfl⟩
  have Hy : Hid (l.getD a 0 = y) := hy
  rw [hy] at ca
  clear hy
  by_cases hd : y < 0
  · go_wp2
    go_ret2
    exact ⟨l, HF, .inl ⟨by rw [Hy.out]; exact hd, rfl⟩, B2⟩
  · go_wp2_with fail
    have O3 : Hid (Ow (w2.alloc (Obj.cells #[.int .i64 (a : Nat)] 3)) w2.heap.size (.slice (some ⟨w2.heap.size, 0, none⟩) 1 1) [(a : Int)]) := Ow.one (a : Int) (Nat.le_refl _) rfl
    have B3 : Hid (Below w2.heap.size w2 (w2.alloc (Obj.cells #[.int .i64 (a : Nat)] 3))) := (Below.refl _ _).alloc (Nat.le_refl _) _
    generalize w2.alloc (Obj.cells #[.int .i64 (a : Nat)] 3) = w3 at *
    have Ya : Hid (0 ≤ l.getD a 0) := by unfold Hid; rw [Hy.out]; omega
    have Yb : Hid (l.getD a 0 ≤ 288) := LB.out a
    clear ca hd
    go_loopw [13, 14] (fun v i W' => ∃ (k : Nat) (pre : List Int), i = .int .i64 (k : Nat) ∧ k < W * H ∧ 0 ≤ l.getD k 0 ∧ Ow W' w2.heap.size v (pre ++ [(k : Int)]) ∧ (∀ p, Pth (Fd.near W H) ss l b k p → Pth (Fd.near W H) ss l b a (pre ++ p)) ∧ Below w2.heap.size w2 W' ∧ (pre.length : Int) + l.getD k 0 ≤ l.getD a 0) (fun _ i _ => (l.getD (intOf i).toNat 0).toNat)
    case atStart => exact ⟨a, [], rfl, a0, Ya, O3, fun p hp => hp, B3, by simp⟩
    case round =>
      obtain ⟨k, pre, rfl, hk, hk0, ho, hp, hb, hm⟩ := hrel
      clear O3 B3
      have O : Hid (Ow wr w2.heap.size u13 (pre ++ [(k : Int)])) := ho
      have Pp : Hid (∀ p, Pth (Fd.near W H) ss l b k p → Pth (Fd.near W H) ss l b a (pre ++ p)) := hp
      have B : Hid (Below w2.heap.size w2 wr) := hb
      have M : Hid ((pre.length : Int) + l.getD k 0 ≤ l.getD a 0 ∧ 0 ≤ l.getD k 0 ∧ k < W * H) := ⟨hm, hk0, hk⟩
      clear ho hp hb hm hk0
      by_cases h0 : k = b
      · subst h0
        go_wp2
        go_ret2
        refine ⟨l, HF, .inr ⟨Ya, _, _, rfl, O.out.ro, Pp.out _ .here, ?_⟩, B2.out.trans (B.out.mono B2.out.size)⟩
        have := M.out
        have := Yb.out
        simp
        omega
      · have hx := has_next E0.out HF.out.1 hk M.out.2.1 h0
        have e0 : (fun x : Int => ∃ j : Nat, x = j ∧ j < W * H) = fun x : Int => ∃ j : Nat, x = j ∧ j < W * H := rfl
        have CN : Hid (Calls Tryd.prog 71 #[.agg #[.slice (some x1) (W * H) k1, .slice x2 ss.length k2], .slice (some ⟨g, 0, none⟩) (W * H) (W * H), .int .i64 (k : Nat)] wr fun e w' => ∃ j : Nat, e = .returned (.int .i64 (j : Nat)) ∧ j < W * H ∧ Nx (Fd.near W H) ss l k j ∧ Below wr.heap.size wr w') :=
          next_ok _ _ (W * H) k (Fd.near W H) ss l wr (L2.out.below B.out) (P.out.below B.out) HF.out.1.1 hk N0 T0.out LB.out (fun x hx => by obtain ⟨j, h1, h2, -⟩ := E0.out.cell k x hk hx; exact ⟨j, h1, h2⟩) hx
        obtain ⟨y0, y1⟩ := X2.out.below B.out X2.out.lt
        clear e0 hx
        go_wp2_with fail
        refine Calls.mono CN.out ?_
        rintro e w4 ⟨j, rfl, hj, hN, hb4⟩
        have ba : Below w4.heap.size w4 (w4.alloc (Obj.cells #[.int .i64 (j : Nat)] 3)) := (Below.refl _ _).alloc (Nat.le_refl _) _
        have O5 : Hid (Ow (w4.alloc (Obj.cells #[.int .i64 (j : Nat)] 3)) w2.heap.size u13 (pre ++ [(k : Int)])) := (O.out.below hb4).below ba
        have B5 : Hid (Below w2.heap.size w2 (w4.alloc (Obj.cells #[.int .i64 (j : Nat)] 3))) := (B.out.trans (hb4.mono B.out.size)).trans (ba.mono (Nat.le_trans B.out.size hb4.size))
        have Cd : Hid ((w4.alloc (Obj.cells #[.int .i64 (j : Nat)] 3)).cell? ⟨w4.heap.size, 0, none⟩ = some (.int .i64 (j : Nat))) := by unfold Hid; simp
        have HN : Hid (Nx (Fd.near W H) ss l k j) := hN
        have is := hN.is
        have Ln : Hid ((pre ++ [(k : Int)]).length ≤ 1000000000) := by
          have := M.out
          have := Yb.out
          unfold Hid
          simp
          omega
        have Q : Hid (∀ p, Pth (Fd.near W H) ss l b j p → Pth (Fd.near W H) ss l b a ((pre ++ [(k : Int)]) ++ p)) := fun p hp => by
          have := Pp.out _ (.step h0 hN hp)
          rw [List.append_assoc]
          exact this
        have M' : Hid (((pre ++ [(k : Int)]).length : Int) + l.getD j 0 ≤ l.getD a 0 ∧ 0 ≤ l.getD j 0 ∧ l.getD j 0 < l.getD k 0) := by
          have := M.out
          unfold Hid
          simp only [List.length_append, List.length_cons, List.length_nil]
          omega
        clear hb4 ba O B CN hN is y0 y1 Pp
        generalize pre ++ [(k : Int)] = pr at *
        go_wp2_with (at_builtin; refine app_int _ rfl _ _ rfl w2.heap.size _ pr rfl O5.out ⟨w4.heap.size, 0, none⟩ (j : Nat) rfl Cd.out Ln.out B5.out.size ?_)
        intro g6 cap6 w6 o6 gr6 at6 lt6
        have O6 : Hid (Ow w6 w2.heap.size (.slice (some ⟨g6, 0, none⟩) (pr.length + 1) cap6) (pr ++ [(j : Int)])) := o6
        have B6 : Hid (Below w2.heap.size w2 w6) := B5.out.trans ((Below.refl _ _).grown gr6 B5.out.size (fun k hk => (O5.out.block k hk).1))
        clear o6 gr6 at6 lt6 O5 B5 Cd
        go_wp2
        go_round
        case rel => exact ⟨j, pr, rfl, hj, M'.out.2.1, O6, Q, B6, M'.out.1⟩
        case measure =>
          have := M'.out
          show (l.getD (Int.toNat (j : Int)) 0).toNat < (l.getD (Int.toNat (k : Int)) 0).toNat
          rw [Int.toNat_natCast, Int.toNat_natCast]
          omega

set_option maxHeartbeats 1000000 in
theorem Next_bad (v : Value) (W H : Int) (gs os : List Int) (a b F : Int) (fl : Bool) (w : World) (h : Fl w v W H gs os) (hs : Sd w) (hF : Fd.askFault (Fd.fault W H gs os) gs.length [a, b] = F) (h0 : F ≠ 0) :
    Calls Tryd.prog 49 #[v, .int .i64 a, .int .i64 b, .bool fl] w fun e w' => e = .returned (.tuple #[.int .i64 0, .iface 67 (.int .i64 F)]) ∧ Below w.heap.size w w' := by
  have F0 : Hid (Fl w v W H gs os) := h
  have S0 : Hid (Sd w) := hs
  have HF : Hid (Fd.askFault (Fd.fault W H gs os) gs.length [a, b] = F) := hF
  have H0 : Hid (F ≠ 0) := h0
  obtain ⟨u1, u2, rfl, ⟨a1, c, rfl, c1, c2, ca⟩, ⟨b1, d, rfl, d1, d2, cb⟩⟩ := h
  clear hF h0 ca cb hs
  have b0 : Hid (Below w.heap.size w (w.alloc (Obj.cells #[.int .i64 W, .int .i64 H, .slice a1 gs.length c, .slice b1 os.length d] 25))) := (Below.refl _ _).alloc (Nat.le_refl _) _
  go_enter Tryd.func49, Tryd.ntmps49
  go_wp2_with fail
  refine (Path_bad _ W H gs os a b F fl _ (F0.out.below b0.out) (S0.out.below b0.out) HF.out H0.out).mono ?_
  rintro e w1 ⟨rfl, hb⟩
  have B1 : Hid (Below w.heap.size w w1) := b0.out.trans (hb.mono b0.out.size)
  clear hb b0
  go_wp2
  go_ret2
  exact ⟨rfl, B1⟩

set_option maxHeartbeats 1000000 in
theorem Next_ok (v : Value) (W H : Nat) (gs os : List Int) (a b : Nat) (fl : Bool) (w : World) (h : Fl w v W H gs os) (hs : Sd w) (G : Fd.Good W H gs os) (ha : a < W * H) (hb : b < W * H) :
    Calls Tryd.prog 49 #[v, .int .i64 (a : Nat), .int .i64 (b : Nat), .bool fl] w fun e w' => ∃ l, (IsFar (Fd.near W H) (fun _ j => (gs.map fun g => Fd.onto g fl).getD j 0) b (W * H) l ∧ Flat l) ∧
      ((l.getD a 0 < 0 ∧ e = .returned (.tuple #[.int .i64 0, .iface 67 (.int .i64 7)])) ∨ (0 ≤ l.getD a 0 ∧ ∃ j : Nat, e = .returned (.tuple #[.int .i64 (j : Nat), .nilIface]) ∧ Nxt (Fd.near W H) (gs.map fun g => Fd.onto g fl) l b a j)) ∧ Below w.heap.size w w' := by
  have F0 : Hid (Fl w v W H gs os) := h
  have S0 : Hid (Sd w) := hs
  have G0 : Hid (Fd.Good W H gs os) := G
  have A0 : Hid (a < W * H ∧ b < W * H) := ⟨ha, hb⟩
  obtain ⟨u1, u2, rfl, ⟨a1, c, rfl, c1, c2, ca⟩, ⟨b1, d, rfl, d1, d2, cb⟩⟩ := h
  obtain ⟨ss, hss⟩ : ∃ ss, (gs.map fun g => Fd.onto g fl) = ss := ⟨_, rfl⟩
  have Hss : Hid ((gs.map fun g => Fd.onto g fl) = ss) := hss
  rw [hss]
  clear ca cb hs G ha hb hss
  have b0 : Hid (Below w.heap.size w (w.alloc (Obj.cells #[.int .i64 W, .int .i64 H, .slice a1 gs.length c, .slice b1 os.length d] 25))) := (Below.refl _ _).alloc (Nat.le_refl _) _
  go_enter Tryd.func49, Tryd.ntmps49
  go_wp2_with fail
  refine (Path_ok _ W H gs os a b fl _ (F0.out.below b0.out) (S0.out.below b0.out) G0.out A0.out.1 A0.out.2).mono ?_
  rintro e w1 ⟨l, hl, he, hb⟩
  rw [Hss.out] at hl he
  have B1 : Hid (Below w.heap.size w w1) := b0.out.trans (hb.mono b0.out.size)
  have HL : Hid (IsFar (Fd.near W H) (fun _ j => ss.getD j 0) b (W * H) l ∧ Flat l) := hl
  clear hb b0 hl
  rcases he with ⟨h0, rfl⟩ | ⟨h0, u, p, rfl, hu, hp, hlen⟩
  · have H0 : Hid (l.getD a 0 < 0) := h0
    clear h0
    go_wp2
    go_ret2
    exact ⟨l, HL, .inl ⟨H0, rfl⟩, B1⟩
  · have H0 : Hid (0 ≤ l.getD a 0) := h0
    have HP : Hid (Pth (Fd.near W H) ss l b a p) := hp
    clear h0
    by_cases hab : a = b
    · subst hab
      obtain ⟨ua, uc, rfl, -⟩ := hu
      clear hp
      go_wp2
      go_ret2
      exact ⟨l, HL, .inr ⟨H0, a, rfl, .inl ⟨rfl, rfl⟩⟩, B1⟩
    · obtain ⟨j, h1, h2⟩ := hp.second hab
      have hl1 : 1 < p.length := (List.getElem?_eq_some_iff.1 h1).1
      obtain ⟨ua, uc, rfl, k1, k2, hc⟩ := hu
      obtain ⟨y, rfl, -, hy⟩ := hc (by intro e; rw [e] at hl1; simp at hl1)
      have HN : Hid (Nx (Fd.near W H) ss l a j) := h2
      have hne : ¬ (a : Int) = (b : Int) := by omega
      have c1' : w1.cell? ⟨y.block, y.off + 1, none⟩ = some (.int .i64 (j : Nat)) := hy 1 _ h1
      clear hp hc hy h1 h2
      go_wp2
      go_ret2
      exact ⟨l, HL, .inr ⟨H0, j, rfl, .inr ⟨hab, HN⟩⟩, B1⟩
end Go.Proofs.YtagnjmellcibhaaDoor

namespace Go.Proofs.YtagnjmellcibhaaDoor
set_option linter.unusedVariables false
namespace Wd

/-- not from least to 1000000. -/
def off (least n : Int) : Bool := !decide (least ≤ n ∧ n ≤ 1000000)
def numsBad (W : WV) : Bool := off 0 W.turn || (off 1 W.next || (!decide (1 ≤ (W.gold.length : Int) ∧ (W.gold.length : Int) ≤ 4) || W.gold.any (off 0)))
def has (n : Nat) (i : Int) : Bool := decide (0 ≤ i ∧ i < (n : Int))
/-- one who goes, or flies, may stand there. -/
def open_ (gs : List Int) (ahead : List UnV) (at_ : Int) (fl : Bool) : Bool := decide (0 < Fd.onto (gs.getD at_.toNat 0) fl) && !ahead.any (fun u => u.at_ == at_)
/-- what is wrong with the i-th unit, as far as its kind does not matter; as far as it does. -/
def kindPart (W : WV) (ahead : List UnV) (u : UnV) (k : KV) : Int :=
  if !decide (1 ≤ u.life ∧ u.life ≤ k.n0) || (!decide (0 ≤ u.load ∧ u.load ≤ k.n7) || !decide (0 ≤ u.task ∧ u.task ≤ 2)) then 1
  else if !has W.gs.length u.at_ || !has W.gs.length u.goal then 6
  else if !open_ W.gs ahead u.at_ k.f || (u.goal != 0 && u.task == 0) then 7 else 0
def notAbove (us : List UnV) (i : Nat) (u : UnV) : Bool := match i with
  | 0 => false
  | j + 1 => match us[j]? with
    | none => false
    | some x => decide (u.id ≤ x.id)
def unitFault (ks : List KV) (W : WV) (i : Nat) (u : UnV) : Int :=
  if !decide (1 ≤ u.id ∧ u.id ≤ W.next - 1) then 1
  else if notAbove W.us i u then 5
  else if !has W.gold.length u.player || !has ks.length u.kind then 1
  else match ks[u.kind.toNat]? with
    | none => 1
    | some k => kindPart W (W.us.take i) u k
def unitsGo (ks : List KV) (W : WV) (i : Nat) : List UnV → Int
  | [] => 0
  | u :: r => if unitFault ks W i u = 0 then unitsGo ks W (i + 1) r else unitFault ks W i u
def jobFault (ks : List KV) (W : WV) (j : JbV) : Int := match W.us.find? (fun u => u.id == j.unit) with
  | none => 6
  | some u => match ks[u.kind.toNat]? with
    | none => 7
    | some k => if u.player != j.player || !k.t then 7 else if !has ks.length j.kind || !decide (1 ≤ j.left ∧ j.left ≤ 1000) then 1 else 0
def jobsGo (ks : List KV) (W : WV) : List JbV → Int
  | [] => 0
  | j :: r => if jobFault ks W j = 0 then jobsGo ks W r else jobFault ks W j
def ground (ks : List KV) (W : WV) : Int := if Kd.kindsFault (ks.map KV.k) = 0 then Fd.fault W.wide W.high W.gs W.os else Kd.kindsFault (ks.map KV.k)
/-- what is wrong with a world. -/
def wfault (ks : List KV) (W : WV) : Int :=
  if ground ks W ≠ 0 then ground ks W
  else if numsBad W then 1
  else if 40 < W.us.length then 4
  else if unitsGo ks W 0 W.us ≠ 0 then unitsGo ks W 0 W.us
  else if 12 < W.qs.length then 4
  else jobsGo ks W W.qs
theorem unitsGo_at {ks : List KV} {W : WV} {i : Nat} {u : UnV} (h : W.us[i]? = some u) : unitsGo ks W i (W.us.drop i) = if unitFault ks W i u = 0 then unitsGo ks W (i + 1) (W.us.drop (i + 1)) else unitFault ks W i u := by
  obtain ⟨hi, e⟩ := List.getElem?_eq_some_iff.1 h
  rw [List.drop_eq_getElem_cons hi, e]
  rfl
theorem jobsGo_at {ks : List KV} {W : WV} {i : Nat} {j : JbV} (h : W.qs[i]? = some j) : jobsGo ks W (W.qs.drop i) = if jobFault ks W j = 0 then jobsGo ks W (W.qs.drop (i + 1)) else jobFault ks W j := by
  obtain ⟨hi, e⟩ := List.getElem?_eq_some_iff.1 h
  rw [List.drop_eq_getElem_cons hi, e]
  rfl
end Wd
end Go.Proofs.YtagnjmellcibhaaDoor

namespace Go.Proofs.YtagnjmellcibhaaDoor
open Go.RowKit
set_option linter.unusedVariables false

theorem wwithin_any (x lo hi : Int) (w : World) : Calls Tryd.prog 24 #[.int .i64 x, .int .i64 lo, .int .i64 hi] w fun e w' => e = .returned (.bool (decide (lo ≤ x ∧ x ≤ hi))) ∧ w' = w := by
  by_cases h1 : lo ≤ x
  · by_cases h2 : x ≤ hi
    · go_enter Tryd.func24, Tryd.ntmps24
      go_wp2
      go_ret
      refine ⟨?_, rfl⟩
      rw [decide_eq_true ⟨h1, h2⟩]
      rfl
    · go_enter Tryd.func24, Tryd.ntmps24
      go_wp2
      go_ret
      refine ⟨?_, rfl⟩
      rw [decide_eq_false (by omega)]
      rfl
  · go_enter Tryd.func24, Tryd.ntmps24
    go_wp2
    go_ret
    refine ⟨?_, rfl⟩
    rw [decide_eq_false (by omega)]
    rfl
end Go.Proofs.YtagnjmellcibhaaDoor

namespace Go.Proofs.YtagnjmellcibhaaDoor
open Go.RowKit
set_option linter.unusedVariables false

theorem FstU.one {p : UnV → Bool} {us : List UnV} {r r' : Int} (h : FstU p us r) (h' : FstU p us r') : r = r' := by
  rcases h with ⟨rfl, h1⟩ | ⟨k, x, rfl, h1, h2, h3⟩
  · rcases h' with ⟨rfl, _⟩ | ⟨k, x, rfl, g1, g2, g3⟩
    · rfl
    · have : us.any p = true := List.any_eq_true.2 ⟨x, List.mem_of_getElem? g1, g2⟩
      rw [h1] at this; cases this
  · rcases h' with ⟨rfl, g⟩ | ⟨k', x', rfl, g1, g2, g3⟩
    · have : us.any p = true := List.any_eq_true.2 ⟨x, List.mem_of_getElem? h1, h2⟩
      rw [g] at this; cases this
    · rcases Nat.lt_trichotomy k k' with hl | hl | hl
      · have : (us.take k').any p = true := List.any_eq_true.2 ⟨x, List.mem_of_getElem? (by rw [List.getElem?_take, if_pos hl]; exact h1), h2⟩
        rw [g3] at this; cases this
      · rw [hl]
      · have : (us.take k).any p = true := List.any_eq_true.2 ⟨x', List.mem_of_getElem? (by rw [List.getElem?_take, if_pos hl]; exact g1), g2⟩
        rw [h3] at this; cases this
set_option maxHeartbeats 1000000 in
theorem fid_any (u : UnV) (id : Int) (b : Nat) (w : World) (hc : w.cell? ⟨b, 0, none⟩ = some (.int .i64 id)) :
    Calls Tryd.prog 61 #[u.val, .pointer (some ⟨b, 0, none⟩)] w fun e w' => e = .returned (.bool (u.id == id)) ∧ Below w.heap.size w w' := by
  have hb : b < w.heap.size := cell_lt hc
  have hne : b ≠ w.heap.size := by omega
  unfold UnV.val
  go_enter Tryd.func61, Tryd.ntmps61
  go_wp2
  go_ret
  exact ⟨rfl, (Below.refl _ _).alloc (Nat.le_refl _) _⟩
set_option maxHeartbeats 1000000 in
theorem wfind_any (v : Value) (W : WV) (id : Int) (w : World) (h : Wl w v W) :
    Calls Tryd.prog 48 #[v, .int .i64 id] w fun e w' => ∃ r : Int, e = .returned (.int .i64 r) ∧ FstU (fun u => u.id == id) W.us r ∧ Below w.heap.size w w' := by
  have H : Hid (Wl w v W) := h
  obtain ⟨u1, u2, u3, u4, u5, rfl, -, -, -, h4, -⟩ := h
  have U : Hid (Unl w u4 W.us) := h4
  clear h4
  go_enter Tryd.func48, Tryd.ntmps48
  go_wp2_with fail
  have B0 : Hid (Below w.heap.size w ((w.alloc (Obj.cells #[.int .i64 W.turn, .int .i64 W.next, .int .i64 W.wide, .int .i64 W.high, u1, u2, u3, u4, u5] 29)).alloc (Obj.cells #[.int .i64 id] 3))) := ((Below.refl _ _).alloc (Nat.le_refl _) _).alloc (by simp) _
  have C0 : Hid (((w.alloc (Obj.cells #[.int .i64 W.turn, .int .i64 W.next, .int .i64 W.wide, .int .i64 W.high, u1, u2, u3, u4, u5] 29)).alloc (Obj.cells #[.int .i64 id] 3)).cell? ⟨w.heap.size + 1, 0, none⟩ = some (.int .i64 id)) := cell_of_new (by simp) rfl
  generalize ((w.alloc (Obj.cells #[.int .i64 W.turn, .int .i64 W.next, .int .i64 W.wide, .int .i64 W.high, u1, u2, u3, u4, u5] 29)).alloc (Obj.cells #[.int .i64 id] 3)) = w0 at *
  refine (idxu_any 61 (by intro args w; go_simp) u4 #[.pointer (some ⟨w.heap.size + 1, 0, none⟩)] W.us (fun u => u.id == id) w0 (U.out.below B0.out) (fun V hV k => fid_any k id (w.heap.size + 1) V (by rw [hV.cell (p := ⟨w.heap.size + 1, 0, none⟩) (cell_lt C0.out)]; exact C0.out))).mono ?_
  rintro e w1 ⟨r, rfl, hf, hb⟩
  have F : Hid (FstU (fun u => u.id == id) W.us r ∧ Below w.heap.size w w1) := ⟨hf, B0.out.trans (hb.mono B0.out.size)⟩
  clear hf hb
  go_wp2
  go_ret
  exact ⟨r, rfl, F.out.1, F.out.2⟩
set_option maxHeartbeats 1000000 in
theorem isone_ints (a : Option Addr) (n c : Nat) (i : Int) (w : World) (hn : n ≤ 9223372036854775807) :
    Calls Tryd.prog 44 #[.slice a n c, .int .i64 i] w fun e w' => e = .returned (.bool (decide (0 ≤ i ∧ i < (n : Int)))) ∧ w' = w := by
  have hw : IntKind.i64.wrap ((n : Int) - 1) = (n : Int) - 1 := by rw [IntKind.wrap_i64]; omega
  go_enter Tryd.func44, Tryd.ntmps44
  go_wp2_with fail
  refine (wwithin_any i 0 ((n : Int) - 1) w).mono ?_
  rintro e w1 ⟨rfl, rfl⟩
  have E : decide (0 ≤ i ∧ i ≤ (n : Int) - 1) = decide (0 ≤ i ∧ i < (n : Int)) := decide_eq_decide.2 ⟨fun h => by omega, fun h => by omega⟩
  rw [E]
  obtain ⟨b, hb⟩ : ∃ b, decide (0 ≤ i ∧ i < (n : Int)) = b := ⟨_, rfl⟩
  rw [hb]
  have HB : Hid (decide (0 ≤ i ∧ i < (n : Int)) = b) := hb
  clear hb E
  go_wp2
  go_ret
  exact ⟨by rw [HB.out]; rfl, rfl⟩
set_option maxHeartbeats 1000000 in
theorem isone_kinds (a : Option Addr) (n c : Nat) (i : Int) (w : World) (hn : n ≤ 9223372036854775807) :
    Calls Tryd.prog 45 #[.slice a n c, .int .i64 i] w fun e w' => e = .returned (.bool (decide (0 ≤ i ∧ i < (n : Int)))) ∧ w' = w := by
  have hw : IntKind.i64.wrap ((n : Int) - 1) = (n : Int) - 1 := by rw [IntKind.wrap_i64]; omega
  go_enter Tryd.func45, Tryd.ntmps45
  go_wp2_with fail
  refine (wwithin_any i 0 ((n : Int) - 1) w).mono ?_
  rintro e w1 ⟨rfl, rfl⟩
  have E : decide (0 ≤ i ∧ i ≤ (n : Int) - 1) = decide (0 ≤ i ∧ i < (n : Int)) := decide_eq_decide.2 ⟨fun h => by omega, fun h => by omega⟩
  rw [E]
  obtain ⟨b, hb⟩ : ∃ b, decide (0 ≤ i ∧ i < (n : Int)) = b := ⟨_, rfl⟩
  rw [hb]
  have HB : Hid (decide (0 ≤ i ∧ i < (n : Int)) = b) := hb
  clear hb E
  go_wp2
  go_ret
  exact ⟨by rw [HB.out]; rfl, rfl⟩
end Go.Proofs.YtagnjmellcibhaaDoor

namespace Go.Proofs.YtagnjmellcibhaaDoor
open Go.RowKit
set_option linter.unusedVariables false

set_option maxHeartbeats 1000000 in
theorem fat_any (u : UnV) (at_ : Int) (b : Nat) (w : World) (hc : w.cell? ⟨b, 0, none⟩ = some (.int .i64 at_)) :
    Calls Tryd.prog 59 #[u.val, .pointer (some ⟨b, 0, none⟩)] w fun e w' => e = .returned (.bool (u.at_ == at_)) ∧ Below w.heap.size w w' := by
  have hb : b < w.heap.size := cell_lt hc
  have hne : b ≠ w.heap.size := by omega
  unfold UnV.val
  go_enter Tryd.func59, Tryd.ntmps59
  go_wp2
  go_ret
  exact ⟨rfl, (Below.refl _ _).alloc (Nat.le_refl _) _⟩
theorem onto_or (g : Int) (fl : Bool) : Fd.onto g fl = 0 ∨ 0 < Fd.onto g fl := by
  unfold Fd.onto
  cases fl <;> (repeat' split) <;> omega
set_option maxRecDepth 100000 in
set_option maxHeartbeats 2000000 in
theorem isopen_any (f us : Value) (Wd_ H : Nat) (gs os : List Int) (ahead : List UnV) (a : Nat) (g : Int) (fl : Bool) (w : World) (hf : Fl w f Wd_ H gs os) (G : Fd.Good Wd_ H gs os) (hu : Unl w us ahead) (ha : a < Wd_ * H) (hg : gs[a]? = some g) :
    Calls Tryd.prog 46 #[f, us, .int .i64 (a : Nat), .bool fl] w fun e w' => e = .returned (.bool (Wd.open_ gs ahead (a : Nat) fl)) ∧ Below w.heap.size w w' := by
  have F : Hid (Fl w f Wd_ H gs os) := hf
  have U : Hid (Unl w us ahead) := hu
  have HG : Hid (Fd.Good Wd_ H gs os) := G
  have AT : Hid (a < Wd_ * H ∧ gs[a]? = some g) := ⟨ha, hg⟩
  have OP : Hid (Wd.open_ gs ahead (a : Nat) fl = (decide (0 < Fd.onto g fl) && !ahead.any (fun u => u.at_ == (a : Int)))) := by
    unfold Hid Wd.open_
    rw [Int.toNat_natCast, List.getD_eq_getElem?_getD, hg]
    rfl
  obtain ⟨u1, u2, rfl, h1, h2⟩ := hf
  clear h1 h2 G ha hg hu
  go_enter Tryd.func46, Tryd.ntmps46
  go_wp2_with fail
  have B0 : Hid (Below w.heap.size w ((w.alloc (Obj.cells #[.int .i64 (Wd_ : Int), .int .i64 (H : Int), u1, u2] 25)).alloc (Obj.cells #[.int .i64 (a : Int)] 3))) := ((Below.refl _ _).alloc (Nat.le_refl _) _).alloc (by simp) _
  have C0 : Hid (((w.alloc (Obj.cells #[.int .i64 (Wd_ : Int), .int .i64 (H : Int), u1, u2] 25)).alloc (Obj.cells #[.int .i64 (a : Int)] 3)).cell? ⟨w.heap.size + 1, 0, none⟩ = some (.int .i64 (a : Int))) := cell_of_new (by simp) rfl
  generalize ((w.alloc (Obj.cells #[.int .i64 (Wd_ : Int), .int .i64 (H : Int), u1, u2] 25)).alloc (Obj.cells #[.int .i64 (a : Int)] 3)) = w0 at *
  refine (Step_ok _ Wd_ H gs os a g fl w0 (F.out.below B0.out) HG.out AT.out.1 AT.out.2).mono ?_
  rintro e w1 ⟨rfl, hb1⟩
  have B1 : Hid (Below w.heap.size w w1) := B0.out.trans (hb1.mono B0.out.size)
  have C1 : Hid (w1.cell? ⟨w.heap.size + 1, 0, none⟩ = some (.int .i64 (a : Int))) := by unfold Hid; rw [hb1.cell (p := ⟨w.heap.size + 1, 0, none⟩) (cell_lt C0.out)]; exact C0.out
  clear hb1 C0
  obtain ⟨o, ho⟩ : ∃ o, Fd.onto g fl = o := ⟨_, rfl⟩
  have OR := onto_or g fl
  rw [ho] at OP OR ⊢
  clear ho
  rcases OR with rfl | hpos
  · have E : Hid (Wd.open_ gs ahead (a : Nat) fl = false) := by unfold Hid; rw [OP.out]; rfl
    go_wp2
    go_ret
    exact ⟨by rw [E.out]; rfl, B1.out⟩
  · have E : Hid (Wd.open_ gs ahead (a : Nat) fl = !ahead.any (fun u => u.at_ == (a : Int))) := by unfold Hid; rw [OP.out, decide_eq_true hpos]; rfl
    go_wp2_with fail
    refine (hasu_any 59 (by intro args w; go_simp) us #[.pointer (some ⟨w.heap.size + 1, 0, none⟩)] ahead (fun u => u.at_ == (a : Int)) w1 (U.out.below B1.out) (fun V hV k => fat_any k (a : Int) (w.heap.size + 1) V (by rw [hV.cell (p := ⟨w.heap.size + 1, 0, none⟩) (cell_lt C1.out)]; exact C1.out))).mono ?_
    rintro e w2 ⟨rfl, hb2⟩
    have B2 : Hid (Below w.heap.size w w2) := B1.out.trans (hb2.mono B1.out.size)
    obtain ⟨m, hm⟩ : ∃ m, ahead.any (fun u => u.at_ == (a : Int)) = m := ⟨_, rfl⟩
    rw [hm] at E ⊢
    clear hb2 hm
    go_wp2
    go_ret
    exact ⟨by rw [E.out]; rfl, B2.out⟩
end Go.Proofs.YtagnjmellcibhaaDoor

namespace Go.Proofs.YtagnjmellcibhaaDoor
open Go Go.RowKit
set_option linter.unusedVariables false

section
variable {P : Program} {ops : Array Oper} {md : Region.Mode} {C : World → Prop}

/-- the operation gives v, in each of the worlds C, and leaves one of them. -/
def YieldsC (P : Program) (ops : Array Oper) (C : World → Prop) (o : Oper) (v : Value) (a : Act) : Prop :=
  (Region.wanted o (yielded ops a.tmps) = true ∧ ∀ W, C W → ((execOp a.eval o).run P W = .ok (.value v) W ∨ ((execOp a.eval o).run P W = .ok .skip W ∧ v = undef) ∨
    ∃ f args, (execOp a.eval o).run P W = .ok (.enter f args) W ∧ Calls P f args W (fun e w' => e = .returned v ∧ C w'))) ∨
  (Region.wanted o (yielded ops a.tmps) = false ∧ v = undef)
def stC (P : Program) (ops : Array Oper) (C : World → Prop) (i : Nat) (K : Act → Prop) (a : Act) : Prop :=
  match ops[i]? with
  | none => K a
  | some o => ∃ v, YieldsC P ops C o v a ∧ K (a.put o.dst v)
theorem stC_mono {i : Nat} {a : Act} {K K' : Act → Prop} (h : ∀ a, K a → K' a) (hh : stC P ops C i K a) : stC P ops C i K' a := by
  unfold stC at *
  split
  · rename_i ho
    simp only [ho] at hh
    exact h _ hh
  · rename_i o ho
    simp only [ho] at hh
    obtain ⟨v, h1, h2⟩ := hh
    exact ⟨v, h1, h _ h2⟩
theorem YieldsC.of_same {o : Oper} {v : Value} {a a' : Act} (hy : YieldsC P ops C o v a) (he : execOp a'.eval o = execOp a.eval o)
    (hw : Region.wanted o (yielded ops a'.tmps) = Region.wanted o (yielded ops a.tmps)) : YieldsC P ops C o v a' := by
  unfold YieldsC at *
  rw [he, hw]
  exact hy
theorem stC_put {j : Nat} {oi oj : Oper} {v : Value} (hj : ops[j]? = some oj) (hap : oi.apart ops oj = true)
    (hsi : ∀ cs b, oi.op ≠ .select cs b) (hsj : ∀ cs b, oj.op ≠ .select cs b) {K : Act → Prop} {a : Act}
    (hy : YieldsC P ops C oi v a) (h : stC P ops C j K (a.put oi.dst v)) :
    stC P ops C j (fun a' => YieldsC P ops C oi v a' ∧ K (a'.put oi.dst v)) a := by
  obtain ⟨h1, h2, h3⟩ := Oper.apart_spec hap
  unfold stC at *
  simp only [hj] at *
  obtain ⟨u, hu, hk⟩ := h
  refine ⟨u, hu.of_same (execOp_put oj hsj a oi.dst v h1).symm (wanted_put oj a oi.dst v h1).symm, hy.of_same (execOp_put oi hsi a oj.dst u h3) (wanted_put oi a oj.dst u h3), ?_⟩
  rw [← Act.put_comm a v u h2]
  exact hk
theorem wpOp_of_stC {i : Nat} {a : Act} {W : World} {K : Act → Prop} {K' : Act → World → Prop} {Q' : Exit → Act → World → Prop} (h : ∀ a W, K a → C W → K' a W) (hh : stC P ops C i K a) (hW : C W) : wpOp P ops Q' i K' a W := by
  unfold stC at hh
  unfold wpOp
  split
  · rename_i ho
    simp only [ho] at hh
    exact h _ _ hh hW
  · rename_i o ho
    simp only [ho] at hh
    obtain ⟨v, hy, hk⟩ := hh
    rcases hy with ⟨hw, hr⟩ | ⟨hw, rfl⟩
    · simp only [hw, if_true]
      refine .inl ?_
      unfold Oper.wp
      rcases hr W hW with e | ⟨e, rfl⟩ | ⟨f, args, e, hc⟩
      · rw [e]
        exact h _ _ hk hW
      · rw [e]
        exact h _ _ hk hW
      · rw [e]
        exact hc.mono fun e w' ⟨he, hw'⟩ => by subst he; exact h _ _ hk hw'
    · simp only [hw]
      exact h _ _ hk hW
def wpAnyC (P : Program) (md : Region.Mode) (ops : Array Oper) (C : World → Prop) (n : Nat) (L : Array Bool → Act → Prop) : Nat → Array Bool → Act → Prop
  | 0, listed, a => L listed a
  | f + 1, listed, a =>
    Region.ready md ops listed ≠ [] ∧ ∀ i ∈ Region.ready md ops listed, i < n ∧ stC P ops C i (wpAnyC P md ops C n L f (listed.setIfInBounds i true)) a
theorem wpAny_of_headC {n g : Nat} {L : Array Bool → Act → Prop} {Q' : Exit → Act → World → Prop} (hL : ∀ listed a W, L listed a → C W → wpAny P md ops Q' g listed a W) :
    ∀ (f : Nat) (listed : Array Bool) (a : Act) (W : World), wpAnyC P md ops C n L f listed a → C W → wpAny P md ops Q' (f + g) listed a W
  | 0, listed, a, W, h, hW => by rw [Nat.zero_add]; exact hL _ _ _ h hW
  | f + 1, listed, a, W, h, hW => by
    rw [show f + 1 + g = (f + g) + 1 by omega]
    exact ⟨fun h0 => absurd h0 h.1, fun i hi => wpOp_of_stC (fun a' W' h' hW' => wpAny_of_headC hL f _ a' W' h' hW') (h.2 i hi).2 hW⟩
theorem wpAnyC_first {n i : Nat} {oi : Oper} {v : Value} {L : Array Bool → Act → Prop} (hi : ops[i]? = some oi) (hsel : ∀ (j : Nat) (o : Oper) cs b, ops[j]? = some o → o.op ≠ .select cs b)
    (hs : Region.sinkB md ops n = true) (hc : Region.chainB md ops n = true) (hn : n < ops.size) (hin : i < n)
    (hdone : ∀ listed a, L listed a → ∀ j ∈ Region.ready md ops listed, n ≤ j) :
    ∀ (f : Nat) (listed : Array Bool) (a : Act), HeadInv md ops n listed →
      (∀ j oj, ops[j]? = some oj → j ≠ i → listed.getD j true = false → (∀ e ∈ oj.after, Region.binds md e = true → e.on ≠ i) → oi.apart ops oj = true) →
      i ∈ Region.ready md ops listed → YieldsC P ops C oi v a →
      wpAnyC P md ops C n L f (listed.setIfInBounds i true) (a.put oi.dst v) → wpAnyC P md ops C n L (f + 1) listed a := by
  have hit : ∀ {K : Act → Prop} {a : Act}, YieldsC P ops C oi v a → K (a.put oi.dst v) → stC P ops C i K a := fun hy hk => by
    unfold stC
    simp only [hi]
    exact ⟨v, hy, hk⟩
  intro f
  induction f with
  | zero =>
    intro listed a inv _ hr hy H
    have hun := (mem_ready.1 hr).1
    refine ⟨fun h => (by rw [h] at hr; cases hr), fun j hj => ?_⟩
    have hjn : j < n := by
      rcases Nat.lt_or_ge j n with h | h
      · exact h
      · exact absurd hj (tail_waits hs hc hn inv _ i rfl hin hun j h)
    refine ⟨hjn, ?_⟩
    by_cases hji : j = i
    · subst hji; exact hit hy H
    · have := hdone _ _ H j (ready_mono hj hji)
      omega
  | succ f ih =>
    intro listed a inv hfree hr hy H
    have hun := (mem_ready.1 hr).1
    refine ⟨fun h => (by rw [h] at hr; cases hr), fun j hj => ?_⟩
    have hjn : j < n := by
      rcases Nat.lt_or_ge j n with h | h
      · exact h
      · exact absurd hj (tail_waits hs hc hn inv _ i rfl hin hun j h)
    refine ⟨hjn, ?_⟩
    by_cases hji : j = i
    · subst hji; exact hit hy H
    · have h1 := (H.2 j (ready_mono hj hji)).2
      obtain ⟨hjun, oj, hoj, hall⟩ := mem_ready.1 hj
      have hnot : ∀ e ∈ oj.after, Region.binds md e = true → e.on ≠ i := fun e he hb heq => by
        have h1 := hall e he hb
        rw [heq, getD_both hun] at h1
        cases h1
      have h2 := stC_put hoj (hfree j oj hoj hji hjun hnot) (fun cs b => hsel i oi cs b hi) (fun cs b => hsel j oj cs b hoj) hy h1
      have hfree' : ∀ k ok, ops[k]? = some ok → k ≠ i → (listed.setIfInBounds j true).getD k true = false →
          (∀ e ∈ ok.after, Region.binds md e = true → e.on ≠ i) → oi.apart ops ok = true := fun k ok hk hki hun hno => by
        refine hfree k ok hk hki ?_ hno
        by_cases hjk : j = k
        · subst hjk; exact hjun
        · rw [getD_set_ne true hjk] at hun; exact hun
      refine stC_mono (fun a' h3 => ih (listed.setIfInBounds j true) a' (inv.set hj hjn) hfree' (ready_mono hr (Ne.symm hji)) h3.1 ?_) h2
      rw [Array.setIfInBounds_comm _ _ hji]
      exact h3.2
/-- the head, in the text's order. -/
def wpHead (P : Program) (ops : Array Oper) (C : World → Prop) (Q : Act → Prop) : List Oper → Act → Prop
  | [], a => Q a
  | o :: rest, a => ∃ v, YieldsC P ops C o v a ∧ wpHead P ops C Q rest (a.put o.dst v)
theorem wpAnyC_lex {n g : Nat} {Lq : Act → Prop} (hsel : Region.noSelect ops = true) (hs : Region.sinkB md ops n = true) (hc : Region.chainB md ops n = true) (hn : n < ops.size) :
    ∀ (l : List Oper) (k : Nat) (listed : Array Bool) (a : Act), (∀ j, j < l.length → l[j]? = ops[k + j]?) → k + l.length = n → HeadInv md ops n listed →
    Region.lexHead md ops g l.length k listed = true → wpHead P ops C Lq l a →
    wpAnyC P md ops C n (fun listed' a' => Region.seqB md ops g n listed' = true ∧ Lq a') l.length listed a
  | [], k, listed, a, _, hk, _, hB, h => by
    have : k = n := by simpa using hk
    subst this
    exact ⟨by simpa [Region.lexHead] using hB, h⟩
  | o :: l, k, listed, a, hl, hk, inv, hB, h => by
    have h0 : ops[k]? = some o := by simpa using (hl 0 (by simp)).symm
    simp only [List.length_cons, Region.lexHead, Bool.and_eq_true] at hB
    obtain ⟨⟨hr, hf⟩, hB'⟩ := hB
    have hkn : k < n := by simp only [List.length_cons] at hk; omega
    have hr' : k ∈ Region.ready md ops listed := by simpa using hr
    obtain ⟨v, hy, hK⟩ := h
    exact wpAnyC_first h0 (Region.noSelect_spec hsel) hs hc hn hkn (fun listed' a' hL => seqB_ready hL.1) l.length listed a inv (Region.free_spec h0 hf) hr' hy
      (wpAnyC_lex hsel hs hc hn l (k + 1) _ _ (fun j hj => by have := hl (j + 1) (by simp; omega); simpa [Nat.add_assoc, Nat.add_comm 1 j] using this) (by simp only [List.length_cons] at hk; omega) (inv.set hr' hkn) hB' hK)
/-- the region: its head in the text's order, in each of the worlds C; its tail behind it. -/
theorem wp_region_class {id : Nat} {Q : Exit → Act → World → Prop} {a : Act} {w : World} {l : List Oper} (n : Nat) (C : World → Prop) (hm : P.follows .mixedOrders = true) (hB : Region.lexTailB .any l.toArray n = true)
    (hC : C { w with drawn := w.drawn + 1 }) (h : wpHead P l.toArray C (fun a' => ∀ W, C W → wpList P l.toArray Q (l.drop n) a' W) (l.take n) a) : (Code.region id l.toArray true).wp P Q a w := by
  simp only [Region.lexTailB, Bool.and_eq_true, decide_eq_true_eq] at hB
  obtain ⟨⟨⟨⟨hsel, hn⟩, hs⟩, hc⟩, hlex⟩ := hB
  have hn' : n < l.length := by simpa using hn
  have htl : (l.take n).length = n := by simp; omega
  have hdl : (l.drop n).length = l.toArray.size - n := by simp
  have inv0 : HeadInv .any l.toArray n (Array.replicate l.toArray.size false) :=
    ⟨by simp, fun j oj _ hl => (by rw [getD_replicate_false] at hl; cases hl), fun t _ ht => getD_in (by simpa using ht) (getD_replicate_false _ _)⟩
  have H := wpAnyC_lex (md := .any) (g := l.toArray.size - n) hsel hs hc hn (l.take n) 0 _ a (fun j hj => by
    have hj' : j < n := by rw [htl] at hj; exact hj
    simp [hj']) (by simpa using htl) inv0 (by rw [htl]; exact hlex) h
  refine wp_region_any hm ?_
  have := wpAny_of_headC (Q' := Q) (g := l.toArray.size - n) (fun listed a' W hL hW => by
    have := wpAny_of_seq (md := .any) (Q' := Q) (l.drop n) n listed a' W (fun j => by simp [List.getElem?_drop]) (by rw [hdl]; exact hL.1) (hL.2 W hW)
    rwa [hdl] at this) _ _ _ _ H hC
  rw [htl, show n + (l.toArray.size - n) = l.toArray.size by omega] at this
  exact this
end
theorem head_step {P : Program} {ops : Array Oper} {C : World → Prop} {Q : Act → Prop} {o : Oper} {rest : List Oper} {a : Act} (v : Value) (hw : Region.wanted o (yielded ops a.tmps) = true) (hr : ∀ W, C W → (execOp a.eval o).run P W = .ok (.value v) W) (h : wpHead P ops C Q rest (a.put o.dst v)) : wpHead P ops C Q (o :: rest) a :=
  ⟨v, .inl ⟨hw, fun W hW => .inl (hr W hW)⟩, h⟩
theorem head_call {P : Program} {ops : Array Oper} {C : World → Prop} {Q : Act → Prop} {o : Oper} {rest : List Oper} {a : Act} (v : Value) (f : FuncId) (args : Array Value) (hw : Region.wanted o (yielded ops a.tmps) = true) (hr : ∀ W, C W → (execOp a.eval o).run P W = .ok (.enter f args) W)
    (hc : ∀ W, C W → Calls P f args W (fun e w' => e = .returned v ∧ C w')) (h : wpHead P ops C Q rest (a.put o.dst v)) : wpHead P ops C Q (o :: rest) a :=
  ⟨v, .inl ⟨hw, fun W hW => .inr (.inr ⟨f, args, hr W hW, hc W hW⟩)⟩, h⟩

end Go.Proofs.YtagnjmellcibhaaDoor

namespace Go.Proofs.YtagnjmellcibhaaDoor
open Go.RowKit
set_option linter.unusedVariables false

theorem uf1 {ks : List KV} {W : WV} {i : Nat} {u : UnV} (h : decide (1 ≤ u.id ∧ u.id ≤ W.next - 1) = false) : Wd.unitFault ks W i u = 1 := by unfold Wd.unitFault; rw [h]; rfl
theorem uf2 {ks : List KV} {W : WV} {i : Nat} {u : UnV} (h : decide (1 ≤ u.id ∧ u.id ≤ W.next - 1) = true) (h2 : Wd.notAbove W.us i u = true) : Wd.unitFault ks W i u = 5 := by unfold Wd.unitFault; rw [h, h2]; rfl
theorem uf3 {ks : List KV} {W : WV} {i : Nat} {u : UnV} (h : decide (1 ≤ u.id ∧ u.id ≤ W.next - 1) = true) (h2 : Wd.notAbove W.us i u = false) (h3 : Wd.has W.gold.length u.player = false) : Wd.unitFault ks W i u = 1 := by unfold Wd.unitFault; rw [h, h2, h3]; rfl
theorem uf4 {ks : List KV} {W : WV} {i : Nat} {u : UnV} (h : decide (1 ≤ u.id ∧ u.id ≤ W.next - 1) = true) (h2 : Wd.notAbove W.us i u = false) (h3 : Wd.has W.gold.length u.player = true) (h4 : Wd.has ks.length u.kind = false) : Wd.unitFault ks W i u = 1 := by unfold Wd.unitFault; rw [h, h2, h3, h4]; rfl
theorem uf5 {ks : List KV} {W : WV} {i : Nat} {u : UnV} {k : KV} (h : decide (1 ≤ u.id ∧ u.id ≤ W.next - 1) = true) (h2 : Wd.notAbove W.us i u = false) (h3 : Wd.has W.gold.length u.player = true) (h4 : Wd.has ks.length u.kind = true) (h5 : ks[u.kind.toNat]? = some k) : Wd.unitFault ks W i u = Wd.kindPart W (W.us.take i) u k := by unfold Wd.unitFault; rw [h, h2, h3, h4, h5]; rfl
theorem wwithin_yes (x lo hi : Int) (w : World) (h : lo ≤ x ∧ x ≤ hi) : Calls Tryd.prog 24 #[.int .i64 x, .int .i64 lo, .int .i64 hi] w fun e w' => e = .returned (.bool true) ∧ w' = w := (wwithin_any x lo hi w).mono fun e w' ⟨h1, h2⟩ => ⟨by rw [h1, decide_eq_true h], h2⟩
theorem wwithin_no (x lo hi : Int) (w : World) (h : ¬ (lo ≤ x ∧ x ≤ hi)) : Calls Tryd.prog 24 #[.int .i64 x, .int .i64 lo, .int .i64 hi] w fun e w' => e = .returned (.bool false) ∧ w' = w := (wwithin_any x lo hi w).mono fun e w' ⟨h1, h2⟩ => ⟨by rw [h1, decide_eq_false h], h2⟩
section
variable {W : WV} {ah : List UnV} {u : UnV} {k : KV}
theorem kp1 (h : ¬ (1 ≤ u.life ∧ u.life ≤ k.n0) ∨ ¬ (0 ≤ u.load ∧ u.load ≤ k.n7) ∨ ¬ (0 ≤ u.task ∧ u.task ≤ 2)) : Wd.kindPart W ah u k = 1 := by
  unfold Wd.kindPart
  rw [if_pos]
  rcases h with h | h | h <;> simp only [decide_eq_false h, Bool.not_false, Bool.true_or, Bool.or_true]
theorem kp6 (h5 : 1 ≤ u.life ∧ u.life ≤ k.n0) (h6 : 0 ≤ u.load ∧ u.load ≤ k.n7) (h7 : 0 ≤ u.task ∧ u.task ≤ 2) (h : ¬ (0 ≤ u.at_ ∧ u.at_ < (W.gs.length : Int)) ∨ ¬ (0 ≤ u.goal ∧ u.goal < (W.gs.length : Int))) : Wd.kindPart W ah u k = 6 := by
  unfold Wd.kindPart Wd.has
  rw [decide_eq_true h5, decide_eq_true h6, decide_eq_true h7, if_neg (by decide), if_pos]
  rcases h with h | h <;> simp only [decide_eq_false h, Bool.not_false, Bool.true_or, Bool.or_true]
theorem kp7 (h5 : 1 ≤ u.life ∧ u.life ≤ k.n0) (h6 : 0 ≤ u.load ∧ u.load ≤ k.n7) (h7 : 0 ≤ u.task ∧ u.task ≤ 2) (h8 : 0 ≤ u.at_ ∧ u.at_ < (W.gs.length : Int)) (h9 : 0 ≤ u.goal ∧ u.goal < (W.gs.length : Int)) (h : Wd.open_ W.gs ah u.at_ k.f = false ∨ (u.goal ≠ 0 ∧ u.task = 0)) : Wd.kindPart W ah u k = 7 := by
  unfold Wd.kindPart Wd.has
  rw [decide_eq_true h5, decide_eq_true h6, decide_eq_true h7, decide_eq_true h8, decide_eq_true h9, if_neg (by decide), if_neg (by decide), if_pos]
  rcases h with h | ⟨h, h'⟩
  · rw [h]; rfl
  · simp [h, h']
theorem kp0 (h5 : 1 ≤ u.life ∧ u.life ≤ k.n0) (h6 : 0 ≤ u.load ∧ u.load ≤ k.n7) (h7 : 0 ≤ u.task ∧ u.task ≤ 2) (h8 : 0 ≤ u.at_ ∧ u.at_ < (W.gs.length : Int)) (h9 : 0 ≤ u.goal ∧ u.goal < (W.gs.length : Int)) (h : Wd.open_ W.gs ah u.at_ k.f = true) (h' : u.goal = 0 ∨ u.task ≠ 0) : Wd.kindPart W ah u k = 0 := by
  unfold Wd.kindPart Wd.has
  rw [decide_eq_true h5, decide_eq_true h6, decide_eq_true h7, decide_eq_true h8, decide_eq_true h9, h, if_neg (by decide), if_neg (by decide), if_neg]
  rcases h' with h' | h' <;> simp [h']
end
theorem Unl.take_ {w : World} {a : Option Addr} {n c : Nat} {us : List UnV} (h : Unl w (.slice a n c) us) {q : Nat} (hq : q ≤ us.length) : Unl w (.slice a q c) (us.take q) := by
  obtain ⟨a', c', e, h1, h2, h3⟩ := h
  injection e with e1 e2 e3
  subst e1 e3
  have hl : (us.take q).length = q := by rw [List.length_take]; omega
  refine ⟨a, c, by rw [hl], by omega, h2, fun hn => ?_⟩
  obtain ⟨x, e, hx, hc⟩ := h3 (by intro e; rw [e] at hn; simp at hn)
  refine ⟨x, e, hx, fun i k hk => hc i k ?_⟩
  rw [List.getElem?_take] at hk
  split at hk
  · exact hk
  · cases hk
set_option maxRecDepth 100000 in
set_option maxHeartbeats 16000000 in
theorem unit_any (vk vw : Value) (ks : List KV) (W : WV) (Wn Hn : Nat) (i : Nat) (u : UnV) (w : World) (hk : Kl w vk ks) (hw : Wl w vw W) (hW : W.wide = Wn) (hH : W.high = Hn) (G : Fd.Good Wn Hn W.gs W.os) (hu : W.us[i]? = some u) (hn : Wd.off 1 W.next = false) (hul : W.us.length ≤ 40) (hkl : ks.length ≤ 8) (hgl : W.gold.length ≤ 4) :
    Calls Tryd.prog 28 #[vk, vw, .int .i64 (i : Nat)] w fun e w' => ∃ r, e = .returned r ∧ Er r (Wd.unitFault ks W i u) ∧ Below w.heap.size w w' := by
  have K : Hid (Kl w vk ks) := hk
  have H : Hid (Wl w vw W) := hw
  have HG : Hid (Fd.Good Wn Hn W.gs W.os ∧ W.wide = Wn ∧ W.high = Hn) := ⟨G, hW, hH⟩
  have HU : Hid (W.us[i]? = some u) := hu
  have gl144 : W.gs.length ≤ 144 := by have := G.gl; have := G.pos; have := G.pos.2; omega
  obtain ⟨u1, u2, u3, u4, u5, rfl, r1, r2, r3, r4, r5⟩ := hw
  obtain ⟨p1, q1, rfl, -⟩ := r1
  obtain ⟨p2, q2, rfl, -⟩ := r2
  obtain ⟨p3, q3, rfl, -⟩ := r3
  obtain ⟨p4, q4, rfl, k41, k42, k43⟩ := r4
  obtain ⟨p5, q5, rfl, -⟩ := r5
  obtain ⟨pk, qk, rfl, kk1, kk2, kk3⟩ := hk
  have hil : i < W.us.length := (List.getElem?_eq_some_iff.1 hu).1
  have hili : (i : Int) < (W.us.length : Int) := by omega
  obtain ⟨x, rfl, hx, hcell⟩ := k43 (by intro e; rw [e] at hil; simp at hil)
  have UC : Hid (x.block < w.heap.size ∧ ∀ (i : Nat) k, W.us[i]? = some k → Unc w (x.add (i * 8)) k) := ⟨hx, hcell⟩
  obtain ⟨d0, d1, d2, d3, d4, d5, d6, d7⟩ := hcell i u hu
  have nx : 1 ≤ W.next ∧ W.next ≤ 1000000 := by
    unfold Wd.off at hn
    have : decide (1 ≤ W.next ∧ W.next ≤ 1000000) = true := by cases h : decide (1 ≤ W.next ∧ W.next ≤ 1000000) with | true => rfl | false => rw [h] at hn; cases hn
    exact of_decide_eq_true this
  obtain ⟨n1, hn1⟩ : ∃ n1 : Int, W.next - 1 = n1 := ⟨_, rfl⟩
  have wn1 : IntKind.i64.wrap n1 = n1 := by rw [IntKind.wrap_i64]; omega
  obtain ⟨b1, hb1⟩ : ∃ b, decide (1 ≤ u.id ∧ u.id ≤ n1) = b := ⟨_, rfl⟩
  have HB1 : Hid (decide (1 ≤ u.id ∧ u.id ≤ W.next - 1) = b1) := by unfold Hid; rw [hn1]; exact hb1
  clear hcell hx k43 hn nx hu hW hH G
  go_enter Tryd.func28, Tryd.ntmps28
  go_upto_region 1 with fail
  have Y0 : Hid (Bw (w.alloc (Obj.cells #[.int .i64 W.turn, .int .i64 W.next, .int .i64 W.wide, .int .i64 W.high, .slice p1 W.gs.length q1, .slice p2 W.os.length q2, .slice p3 W.gold.length q3, .slice (some x) W.us.length q4, .slice p5 W.qs.length q5] 29)) w.heap.size W (.slice p1 W.gs.length q1) (.slice p2 W.os.length q2) (.slice p3 W.gold.length q3) (.slice (some x) W.us.length q4) (.slice p5 W.qs.length q5)) := Bw.mk' W _ _ _ _ _ rfl
  have BY : Hid (Below w.heap.size w (w.alloc (Obj.cells #[.int .i64 W.turn, .int .i64 W.next, .int .i64 W.wide, .int .i64 W.high, .slice p1 W.gs.length q1, .slice p2 W.os.length q2, .slice p3 W.gold.length q3, .slice (some x) W.us.length q4, .slice p5 W.qs.length q5] 29))) := (Below.refl _ _).alloc (Nat.le_refl _) _
  have SY : Hid ((w.alloc (Obj.cells #[.int .i64 W.turn, .int .i64 W.next, .int .i64 W.wide, .int .i64 W.high, .slice p1 W.gs.length q1, .slice p2 W.os.length q2, .slice p3 W.gold.length q3, .slice (some x) W.us.length q4, .slice p5 W.qs.length q5] 29)).heap.size = w.heap.size + 1) := by unfold Hid; simp
  generalize (w.alloc (Obj.cells #[.int .i64 W.turn, .int .i64 W.next, .int .i64 W.wide, .int .i64 W.high, .slice p1 W.gs.length q1, .slice p2 W.os.length q2, .slice p3 W.gold.length q3, .slice (some x) W.us.length q4, .slice p5 W.qs.length q5] 29)) = wy at *
  clear d0 d1 d2 d3 d4 d5 d6 d7
  obtain ⟨d0, d1, d2, d3, d4, d5, d6, d7⟩ := (UC.out.2 i u HU.out).below BY.out (by rw [add_block]; exact UC.out.1)
  have x7 := Y0.out.c7
  go_upto_region 2 with fail
  have X0 : Hid (Bw (wy.alloc (Obj.cells #[.int .i64 u.id, .int .i64 u.player, .int .i64 u.kind, .int .i64 u.at_, .int .i64 u.life, .int .i64 u.load, .int .i64 u.task, .int .i64 u.goal] 33)) w.heap.size W (.slice p1 W.gs.length q1) (.slice p2 W.os.length q2) (.slice p3 W.gold.length q3) (.slice (some x) W.us.length q4) (.slice p5 W.qs.length q5)) := Y0.out.below ((Below.refl _ _).alloc (Nat.le_refl _) _) Y0.out.lt
  have U0 : Hid (Unc (wy.alloc (Obj.cells #[.int .i64 u.id, .int .i64 u.player, .int .i64 u.kind, .int .i64 u.at_, .int .i64 u.life, .int .i64 u.load, .int .i64 u.task, .int .i64 u.goal] 33)) ⟨wy.heap.size, 0, none⟩ u) := Unc.mk' u rfl
  have B0 : Hid (Below w.heap.size w (wy.alloc (Obj.cells #[.int .i64 u.id, .int .i64 u.player, .int .i64 u.kind, .int .i64 u.at_, .int .i64 u.life, .int .i64 u.load, .int .i64 u.task, .int .i64 u.goal] 33))) := BY.out.alloc BY.out.size _
  generalize (wy.alloc (Obj.cells #[.int .i64 u.id, .int .i64 u.player, .int .i64 u.kind, .int .i64 u.at_, .int .i64 u.life, .int .i64 u.load, .int .i64 u.task, .int .i64 u.goal] 33)) = w0 at *
  generalize wy.heap.size = zu at *
  clear d0 d1 d2 d3 d4 d5 d6 d7 x7 Y0 BY SY
  obtain ⟨x0, x1, x2, x3, x4, x5, x6, x7, x8⟩ := X0.out
  obtain ⟨y0, y1, y2, y3, y4, y5, y6, y7⟩ := U0.out
  go_wp2_with fail
  refine (wwithin_any u.id 1 n1 w0).mono ?_
  rintro e ww ⟨rfl, rfl⟩
  rw [hb1]
  clear hb1 hn1 wn1
  cases b1 with
  | false =>
    go_wp2
    go_ret
    exact ⟨_, rfl, by rw [uf1 HB1.out]; exact Er.no (by decide), B0.out⟩
  | true =>
    obtain ⟨b2, hb2⟩ : ∃ b, Wd.notAbove W.us i u = b := ⟨_, rfl⟩
    have HB2 : Hid (Wd.notAbove W.us i u = b2) := hb2
    go_upto_region 4 with fail
    go_cut [2, 22] from 23 to 36 (fun v2 v22 V => v2 = .int .i64 (i : Nat) ∧ v22 = .bool b2 ∧ Below ww.heap.size ww V)
    case first =>
      rcases Nat.eq_zero_or_pos i with hi0 | hi0
      · have g0 : ¬ (0 : Int) < (i : Int) := by omega
        have hbf : b2 = false := by rw [← hb2, hi0]; rfl
        subst hbf
        clear hb2
        have HI0 : Hid (i = 0) := hi0
        have hnp : ¬ 0 < i := by omega
        clear hi0
        go_quiet (fail)
        go_wp2
        go_meet
        case rel => exact ⟨by first | rfl | rw [HI0.out], rfl, _root_.Go.below_drewN (Below.refl _ _) _⟩
      · obtain ⟨j, hj⟩ : ∃ j, i = j + 1 := ⟨i - 1, by omega⟩
        obtain ⟨v, hv⟩ : ∃ v, W.us[j]? = some v := ⟨_, List.getElem?_eq_getElem (by omega)⟩
        have e0 : (i : Int) - 1 = (j : Nat) := by omega
        have g0 : (0 : Int) < (i : Int) := by omega
        have wj : IntKind.i64.wrap ((j : Nat) : Int) = (j : Nat) := by rw [IntKind.wrap_i64]; omega
        have jl : (j : Int) < (W.us.length : Int) := by omega
        obtain ⟨d0, -, -, -, -, -, -, -⟩ := (UC.out.2 j v hv).below B0.out (by rw [add_block]; exact UC.out.1)
        have hb : decide (u.id ≤ v.id) = b2 := by rw [← hb2, hj]; unfold Wd.notAbove; simp only [hv]
        clear hj hb2 hv
        cases b2
        · have hgt : ¬ u.id ≤ v.id := of_decide_eq_false hb
          clear hb
          go_quiet (fail)
          go_wp2
          go_meet
          case rel => exact ⟨by first | rfl | rw [HI0.out], rfl, _root_.Go.below_drewN (Below.refl _ _) _⟩
        · have hle : u.id ≤ v.id := of_decide_eq_true hb
          clear hb
          go_quiet (fail)
          go_wp2
          go_meet
          case rel => exact ⟨by first | rfl | rw [HI0.out], rfl, _root_.Go.below_drewN (Below.refl _ _) _⟩
    case rest =>
      obtain ⟨rfl, rfl, hbc⟩ := hcut
      have BC : Hid (Below w.heap.size w wc) := B0.out.trans (hbc.mono B0.out.size)
      have XC : Hid (Bw wc w.heap.size W (.slice p1 W.gs.length q1) (.slice p2 W.os.length q2) (.slice p3 W.gold.length q3) (.slice (some x) W.us.length q4) (.slice p5 W.qs.length q5)) := X0.out.below hbc X0.out.lt
      have VC : Hid (Unc wc ⟨zu, 0, none⟩ u) := U0.out.below hbc U0.out.lt
      clear hbc hb2 x0 x1 x2 x3 x4 x5 x6 x7 x8 y0 y1 y2 y3 y4 y5 y6 y7 X0 U0 B0
      obtain ⟨x0, x1, x2, x3, x4, x5, x6, x7, x8⟩ := XC.out
      obtain ⟨y0, y1, y2, y3, y4, y5, y6, y7⟩ := VC.out
      cases b2 with
      | true =>
        go_wp2
        go_ret
        exact ⟨_, rfl, by rw [uf2 HB1.out HB2.out]; exact Er.no (by decide), BC.out⟩
      | false =>
        obtain ⟨b3, hb3⟩ : ∃ b, decide (0 ≤ u.player ∧ u.player < (W.gold.length : Int)) = b := ⟨_, rfl⟩
        have HB3 : Hid (Wd.has W.gold.length u.player = b3) := hb3
        go_wp2_with fail
        refine (isone_ints _ _ _ _ _ (by omega)).mono ?_
        rintro e w5 ⟨rfl, hww⟩
        obtain rfl := hww.symm
        rw [hb3]
        clear hb3
        cases b3 with
        | false =>
          go_wp2
          go_ret
          exact ⟨_, rfl, by rw [uf3 HB1.out HB2.out HB3.out]; exact Er.no (by decide), BC.out⟩
        | true =>
          obtain ⟨b4, hb4⟩ : ∃ b, decide (0 ≤ u.kind ∧ u.kind < (ks.length : Int)) = b := ⟨_, rfl⟩
          have HB4 : Hid (Wd.has ks.length u.kind = b4) := hb4
          go_wp2_with fail
          refine (isone_kinds _ _ _ _ _ (by omega)).mono ?_
          rintro e w6 ⟨rfl, hww⟩
          obtain rfl := hww.symm
          rw [hb4]
          cases b4 with
          | false =>
            clear hb4
            go_wp2
            go_ret
            exact ⟨_, rfl, by rw [uf4 HB1.out HB2.out HB3.out HB4.out]; exact Er.no (by decide), BC.out⟩
          | true =>
            have hkr := of_decide_eq_true hb4
            obtain ⟨kn, ek⟩ : ∃ kn : Nat, u.kind = kn := ⟨u.kind.toNat, by omega⟩
            have hkn : kn < ks.length := by omega
            obtain ⟨k, hkk⟩ : ∃ k, ks[kn]? = some k := ⟨_, List.getElem?_eq_getElem hkn⟩
            have UF : Hid (Wd.unitFault ks W i u = Wd.kindPart W (W.us.take i) u k) := uf5 HB1.out HB2.out HB3.out HB4.out (by rw [ek, Int.toNat_natCast]; exact hkk)
            obtain ⟨xk, rfl, hxk, hkc⟩ := kk3 (by intro e; rw [e] at hkn; simp at hkn)
            have hkni : (kn : Int) < (ks.length : Int) := by omega
            have KC : Hid (Kc _ (xk.add (kn * 11)) k) := (hkc kn k hkk).below BC.out (by rw [add_block]; exact hxk)
            rw [ek] at y2
            obtain ⟨l0, l1, l2, l3, l4, l5, l6, l7, l8, l9, l10⟩ := KC.out
            clear hkr hb4 hkc hxk hkk kk3
            go_upto_region 9 with fail
            by_cases h5 : 1 ≤ u.life ∧ u.life ≤ k.n0
            · go_quiet ((go_at_call 24; exact Calls.quiet_of_same (wwithin_yes _ _ _ _ h5)))
              have BC' : Hid (Below w.heap.size w (wc.drewN nq)) := _root_.Go.below_drewN BC.out nq
              have XC' : Hid (Bw (wc.drewN nq) w.heap.size W (.slice p1 W.gs.length q1) (.slice p2 W.os.length q2) (.slice p3 W.gold.length q3) (.slice (some x) W.us.length q4) (.slice p5 W.qs.length q5)) := XC.out.below (_root_.Go.below_drewN (Below.refl _ _) nq) XC.out.lt
              have VC' : Hid (Unc (wc.drewN nq) ⟨zu, 0, none⟩ u) := VC.out.below (_root_.Go.below_drewN (Below.refl _ _) nq) VC.out.lt
              have KC' : Hid (Kc (wc.drewN nq) (xk.add (kn * 11)) k) := KC.out.below (_root_.Go.below_drewN (Below.refl _ _) nq) KC.out.lt
              generalize wc.drewN nq = wd at *
              clear BC XC VC KC x0 x1 x2 x3 x4 x5 x6 x7 x8 y0 y1 y2 y3 y4 y5 y6 y7 l0 l1 l2 l3 l4 l5 l6 l7 l8 l9 l10
              obtain ⟨wc, hwc⟩ : ∃ wc, wc = wd := ⟨_, rfl⟩
              subst hwc
              have BC := BC'
              have XC := XC'
              have VC := VC'
              have KC := KC'
              clear BC' XC' VC' KC'
              obtain ⟨x0, x1, x2, x3, x4, x5, x6, x7, x8⟩ := XC.out
              obtain ⟨y0, y1, y2, y3, y4, y5, y6, y7⟩ := VC.out
              rw [ek] at y2
              obtain ⟨l0, l1, l2, l3, l4, l5, l6, l7, l8, l9, l10⟩ := KC.out
              go_upto_region 10 with fail
              by_cases h6 : 0 ≤ u.load ∧ u.load ≤ k.n7
              · go_quiet ((go_at_call 24; exact Calls.quiet_of_same (wwithin_yes _ _ _ _ h6)))
                have BC' : Hid (Below w.heap.size w (wc.drewN nq)) := _root_.Go.below_drewN BC.out nq
                have XC' : Hid (Bw (wc.drewN nq) w.heap.size W (.slice p1 W.gs.length q1) (.slice p2 W.os.length q2) (.slice p3 W.gold.length q3) (.slice (some x) W.us.length q4) (.slice p5 W.qs.length q5)) := XC.out.below (_root_.Go.below_drewN (Below.refl _ _) nq) XC.out.lt
                have VC' : Hid (Unc (wc.drewN nq) ⟨zu, 0, none⟩ u) := VC.out.below (_root_.Go.below_drewN (Below.refl _ _) nq) VC.out.lt
                have KC' : Hid (Kc (wc.drewN nq) (xk.add (kn * 11)) k) := KC.out.below (_root_.Go.below_drewN (Below.refl _ _) nq) KC.out.lt
                generalize wc.drewN nq = wd at *
                clear BC XC VC KC x0 x1 x2 x3 x4 x5 x6 x7 x8 y0 y1 y2 y3 y4 y5 y6 y7 l0 l1 l2 l3 l4 l5 l6 l7 l8 l9 l10
                obtain ⟨wc, hwc⟩ : ∃ wc, wc = wd := ⟨_, rfl⟩
                subst hwc
                have BC := BC'
                have XC := XC'
                have VC := VC'
                have KC := KC'
                clear BC' XC' VC' KC'
                obtain ⟨x0, x1, x2, x3, x4, x5, x6, x7, x8⟩ := XC.out
                obtain ⟨y0, y1, y2, y3, y4, y5, y6, y7⟩ := VC.out
                rw [ek] at y2
                obtain ⟨l0, l1, l2, l3, l4, l5, l6, l7, l8, l9, l10⟩ := KC.out
                by_cases h7 : 0 ≤ u.task ∧ u.task ≤ 2
                · go_wp2_with fail
                  refine (wwithin_yes _ _ _ _ h7).mono ?_
                  rintro e w8 ⟨rfl, hww⟩
                  obtain rfl := hww.symm
                  by_cases h8 : 0 ≤ u.at_ ∧ u.at_ < (W.gs.length : Int)
                  · have t8 : decide (0 ≤ u.at_ ∧ u.at_ < (W.gs.length : Int)) = true := decide_eq_true h8
                    go_wp2_with fail
                    refine (isone_ints _ _ _ _ _ (by omega)).mono ?_
                    rintro e w9 ⟨rfl, hww⟩
                    obtain rfl := hww.symm
                    rw [t8]
                    by_cases h9 : 0 ≤ u.goal ∧ u.goal < (W.gs.length : Int)
                    · have t9 : decide (0 ≤ u.goal ∧ u.goal < (W.gs.length : Int)) = true := decide_eq_true h9
                      go_wp2_with fail
                      refine (isone_ints _ _ _ _ _ (by omega)).mono ?_
                      rintro e w10 ⟨rfl, hww⟩
                      obtain rfl := hww.symm
                      rw [t9]
                      clear t8 t9
                      obtain ⟨an, ea⟩ : ∃ an : Nat, u.at_ = an := ⟨u.at_.toNat, by omega⟩
                      obtain ⟨g, hg0⟩ : ∃ g, W.gs[an]? = some g := ⟨_, List.getElem?_eq_getElem (by omega)⟩
                      have hgan : Hid (W.gs[an]? = some g) := hg0
                      clear hg0
                      have FC : Hid (∀ V, Below wc.heap.size wc V → V.cell? ⟨w.heap.size, 2, none⟩ = some (.int .i64 W.wide) ∧ V.cell? ⟨w.heap.size, 3, none⟩ = some (.int .i64 W.high) ∧ V.cell? ⟨w.heap.size, 4, none⟩ = some (.slice p1 W.gs.length q1) ∧ V.cell? ⟨w.heap.size, 5, none⟩ = some (.slice p2 W.os.length q2) ∧ V.cell? ⟨w.heap.size, 7, none⟩ = some (.slice (some x) W.us.length q4) ∧ V.cell? ⟨zu, 3, none⟩ = some (.int .i64 (an : Nat)) ∧ V.cell? ⟨zu, 2, none⟩ = some (.int .i64 (kn : Nat)) ∧ V.cell? ⟨(xk.add (kn * 11)).block, (xk.add (kn * 11)).off + 9, none⟩ = some (.bool k.f)) := fun V hV => by
                        obtain ⟨-, -, z2, z3, z4, z5, -, z7, -⟩ := XC.out.below hV XC.out.lt
                        obtain ⟨-, -, g2, g3, -, -, -, -⟩ := VC.out.below hV VC.out.lt
                        obtain ⟨-, -, -, -, -, -, -, -, -, m9, -⟩ := KC.out.below hV KC.out.lt
                        rw [ek] at g2
                        rw [ea] at g3
                        exact ⟨z2, z3, z4, z5, z7, g3, g2, m9⟩
                      have OPN : Hid (∀ V, Below wc.heap.size wc V → Calls Tryd.prog 46 #[.agg #[.int .i64 W.wide, .int .i64 W.high, .slice p1 W.gs.length q1, .slice p2 W.os.length q2], .slice (some x) i q4, .int .i64 (an : Nat), .bool k.f] V fun e w' => e = .returned (.bool (Wd.open_ W.gs (W.us.take i) (an : Nat) k.f)) ∧ Below wc.heap.size wc w') := fun V hV => by
                        have BV : Below w.heap.size w V := BC.out.trans (hV.mono BC.out.size)
                        obtain ⟨r1, r2, -, r4, -⟩ := (H.out.below BV).slices
                        obtain ⟨hGood, hWn, hHn⟩ := HG.out
                        rw [hWn, hHn]
                        exact (isopen_any _ _ Wn Hn W.gs W.os (W.us.take i) an g k.f V ⟨_, _, rfl, r1, r2⟩ hGood (r4.take_ (by omega)) (by have := hGood.gl; omega) hgan.out).mono fun e w' ⟨h1, h2⟩ => ⟨h1, hV.trans (h2.mono hV.size)⟩
                      have eo : ∀ args w, (callFunc 46 args).run Tryd.prog w = .ok (.enter 46 args) w := by intro args w; go_simp
                      have hin : (i : Int) ≤ (q4 : Int) := by omega
                      go_upto_region 16 with fail
                      refine wp_region_class 15 (fun V => Below wc.heap.size wc V) (by kernel_rfl) (by kernel_rfl) (Below.refl _ _).drew ?_
                      simp only [List.take_succ_cons, List.take_zero, List.drop_succ_cons, List.drop_zero]
                      refine head_step (.pointer (some ⟨w.heap.size, 2, none⟩)) (by go_simp) (fun V hV => by go_simp) ?_
                      go_simp
                      refine head_step (.agg #[.int .i64 W.wide, .int .i64 W.high, .slice p1 W.gs.length q1, .slice p2 W.os.length q2]) (by go_simp) (fun V hV => by obtain ⟨f2, f3, f4, f5, -⟩ := FC.out V hV; go_simp) ?_
                      go_simp
                      refine head_step (.pointer (some ⟨w.heap.size, 7, none⟩)) (by go_simp) (fun V hV => by go_simp) ?_
                      go_simp
                      refine head_step (.slice (some x) W.us.length q4) (by go_simp) (fun V hV => by obtain ⟨-, -, -, -, f7, -⟩ := FC.out V hV; go_simp) ?_
                      go_simp
                      refine head_step (.int .i64 (i : Nat)) (by go_simp) (fun V hV => by go_simp) ?_
                      go_simp
                      refine head_step (.slice (some x) i q4) (by go_simp) (fun V hV => by go_simp) ?_
                      go_simp
                      refine head_step (.pointer (some ⟨zu, 3, none⟩)) (by go_simp) (fun V hV => by go_simp) ?_
                      go_simp
                      refine head_step (.int .i64 (an : Nat)) (by go_simp) (fun V hV => by obtain ⟨-, -, -, -, -, f8, -⟩ := FC.out V hV; go_simp) ?_
                      go_simp
                      refine head_step (.slice (some xk) ks.length qk) (by go_simp) (fun V hV => by go_simp) ?_
                      go_simp
                      refine head_step (.pointer (some ⟨zu, 2, none⟩)) (by go_simp) (fun V hV => by go_simp) ?_
                      go_simp
                      refine head_step (.int .i64 (kn : Nat)) (by go_simp) (fun V hV => by obtain ⟨-, -, -, -, -, -, f9, -⟩ := FC.out V hV; go_simp) ?_
                      go_simp
                      refine head_step (.pointer (some (xk.add (kn * 11)))) (by go_simp) (fun V hV => by go_simp) ?_
                      go_simp
                      refine head_step (.pointer (some ⟨(xk.add (kn * 11)).block, (xk.add (kn * 11)).off + 9, none⟩)) (by go_simp) (fun V hV => by go_simp) ?_
                      go_simp
                      refine head_step (.bool k.f) (by go_simp) (fun V hV => by obtain ⟨-, -, -, -, -, -, -, f10⟩ := FC.out V hV; go_simp) ?_
                      go_simp
                      refine head_call (.bool (Wd.open_ W.gs (W.us.take i) (an : Nat) k.f)) 46 #[.agg #[.int .i64 W.wide, .int .i64 W.high, .slice p1 W.gs.length q1, .slice p2 W.os.length q2], .slice (some x) i q4, .int .i64 (an : Nat), .bool k.f] (by go_simp) (fun V hV => by go_simp) (fun V hV => OPN.out V hV) ?_
                      go_simp
                      intro V hV
                      have BV : Hid (Below w.heap.size w V) := BC.out.trans (hV.mono BC.out.size)
                      have VV : Hid (Unc V ⟨zu, 0, none⟩ u) := VC.out.below hV VC.out.lt
                      obtain ⟨b9, hb9⟩ : ∃ b, Wd.open_ W.gs (W.us.take i) (an : Nat) k.f = b := ⟨_, rfl⟩
                      have HB9 : Hid (Wd.open_ W.gs (W.us.take i) (an : Nat) k.f = b9) := hb9
                      rw [hb9]
                      clear hV FC OPN hb9 x0 x1 x2 x3 x4 x5 x6 x7 x8 y0 y1 y2 y3 y4 y5 y6 y7 l0 l1 l2 l3 l4 l5 l6 l7 l8 l9 l10
                      cases b9 with
                      | false =>
                        go_wp2
                        go_ret
                        exact ⟨_, rfl, by rw [UF.out, kp7 h5 h6 h7 h8 h9 (.inl (by rw [ea]; exact HB9.out))]; exact Er.no (by decide), BV.out⟩
                      | true =>
                        obtain ⟨y0, y1, y2, y3, y4, y5, y6, y7⟩ := VV.out
                        by_cases hgo : u.goal = 0
                        · have FINE : Hid (Wd.unitFault ks W i u = 0) := by unfold Hid; rw [UF.out, kp0 h5 h6 h7 h8 h9 (by rw [ea]; exact HB9.out) (.inl hgo)]
                          go_wp2
                          go_ret
                          exact ⟨_, rfl, by rw [FINE.out]; exact Er.nil, BV.out⟩
                        · by_cases hta : u.task = 0
                          · have BADF : Hid (Wd.unitFault ks W i u = 7) := by unfold Hid; rw [UF.out, kp7 h5 h6 h7 h8 h9 (.inr ⟨hgo, hta⟩)]
                            go_wp2
                            go_ret
                            exact ⟨_, rfl, by rw [BADF.out]; exact Er.no (by decide), BV.out⟩
                          · have FINE : Hid (Wd.unitFault ks W i u = 0) := by unfold Hid; rw [UF.out, kp0 h5 h6 h7 h8 h9 (by rw [ea]; exact HB9.out) (.inr hta)]
                            have tb : (u.task == 0) = false := by simpa using hta
                            clear hta
                            go_wp2
                            go_ret
                            exact ⟨_, rfl, by rw [FINE.out]; exact Er.nil, BV.out⟩
                    · have t9 : decide (0 ≤ u.goal ∧ u.goal < (W.gs.length : Int)) = false := decide_eq_false h9
                      go_wp2_with fail
                      refine (isone_ints _ _ _ _ _ (by omega)).mono ?_
                      rintro e w10 ⟨rfl, hww⟩
                      obtain rfl := hww.symm
                      rw [t9]
                      clear t9 t8
                      go_wp2
                      go_ret
                      exact ⟨_, rfl, by rw [UF.out, kp6 h5 h6 h7 (.inr h9)]; exact Er.no (by decide), BC.out⟩
                  · have t8 : decide (0 ≤ u.at_ ∧ u.at_ < (W.gs.length : Int)) = false := decide_eq_false h8
                    go_wp2_with fail
                    refine (isone_ints _ _ _ _ _ (by omega)).mono ?_
                    rintro e w9 ⟨rfl, hww⟩
                    obtain rfl := hww.symm
                    rw [t8]
                    clear t8
                    go_wp2
                    go_ret
                    exact ⟨_, rfl, by rw [UF.out, kp6 h5 h6 h7 (.inl h8)]; exact Er.no (by decide), BC.out⟩
                · go_wp2_with fail
                  refine (wwithin_no _ _ _ _ h7).mono ?_
                  rintro e w8 ⟨rfl, hww⟩
                  obtain rfl := hww.symm
                  go_wp2
                  go_ret
                  exact ⟨_, rfl, by rw [UF.out, kp1 (.inr (.inr h7))]; exact Er.no (by decide), BC.out⟩
              · go_quiet ((go_at_call 24; exact Calls.quiet_of_same (wwithin_no _ _ _ _ h6)))
                have BC' : Hid (Below w.heap.size w (wc.drewN nq)) := _root_.Go.below_drewN BC.out nq
                have XC' : Hid (Bw (wc.drewN nq) w.heap.size W (.slice p1 W.gs.length q1) (.slice p2 W.os.length q2) (.slice p3 W.gold.length q3) (.slice (some x) W.us.length q4) (.slice p5 W.qs.length q5)) := XC.out.below (_root_.Go.below_drewN (Below.refl _ _) nq) XC.out.lt
                have VC' : Hid (Unc (wc.drewN nq) ⟨zu, 0, none⟩ u) := VC.out.below (_root_.Go.below_drewN (Below.refl _ _) nq) VC.out.lt
                have KC' : Hid (Kc (wc.drewN nq) (xk.add (kn * 11)) k) := KC.out.below (_root_.Go.below_drewN (Below.refl _ _) nq) KC.out.lt
                generalize wc.drewN nq = wd at *
                clear BC XC VC KC x0 x1 x2 x3 x4 x5 x6 x7 x8 y0 y1 y2 y3 y4 y5 y6 y7 l0 l1 l2 l3 l4 l5 l6 l7 l8 l9 l10
                obtain ⟨wc, hwc⟩ : ∃ wc, wc = wd := ⟨_, rfl⟩
                subst hwc
                have BC := BC'
                have XC := XC'
                have VC := VC'
                have KC := KC'
                clear BC' XC' VC' KC'
                obtain ⟨x0, x1, x2, x3, x4, x5, x6, x7, x8⟩ := XC.out
                obtain ⟨y0, y1, y2, y3, y4, y5, y6, y7⟩ := VC.out
                rw [ek] at y2
                obtain ⟨l0, l1, l2, l3, l4, l5, l6, l7, l8, l9, l10⟩ := KC.out
                go_wp2
                go_ret
                exact ⟨_, rfl, by rw [UF.out, kp1 (.inr (.inl h6))]; exact Er.no (by decide), BC.out⟩
            · go_quiet ((go_at_call 24; exact Calls.quiet_of_same (wwithin_no _ _ _ _ h5)))
              have BC' : Hid (Below w.heap.size w (wc.drewN nq)) := _root_.Go.below_drewN BC.out nq
              have XC' : Hid (Bw (wc.drewN nq) w.heap.size W (.slice p1 W.gs.length q1) (.slice p2 W.os.length q2) (.slice p3 W.gold.length q3) (.slice (some x) W.us.length q4) (.slice p5 W.qs.length q5)) := XC.out.below (_root_.Go.below_drewN (Below.refl _ _) nq) XC.out.lt
              have VC' : Hid (Unc (wc.drewN nq) ⟨zu, 0, none⟩ u) := VC.out.below (_root_.Go.below_drewN (Below.refl _ _) nq) VC.out.lt
              have KC' : Hid (Kc (wc.drewN nq) (xk.add (kn * 11)) k) := KC.out.below (_root_.Go.below_drewN (Below.refl _ _) nq) KC.out.lt
              generalize wc.drewN nq = wd at *
              clear BC XC VC KC x0 x1 x2 x3 x4 x5 x6 x7 x8 y0 y1 y2 y3 y4 y5 y6 y7 l0 l1 l2 l3 l4 l5 l6 l7 l8 l9 l10
              obtain ⟨wc, hwc⟩ : ∃ wc, wc = wd := ⟨_, rfl⟩
              subst hwc
              have BC := BC'
              have XC := XC'
              have VC := VC'
              have KC := KC'
              clear BC' XC' VC' KC'
              obtain ⟨x0, x1, x2, x3, x4, x5, x6, x7, x8⟩ := XC.out
              obtain ⟨y0, y1, y2, y3, y4, y5, y6, y7⟩ := VC.out
              rw [ek] at y2
              obtain ⟨l0, l1, l2, l3, l4, l5, l6, l7, l8, l9, l10⟩ := KC.out
              go_wp2
              go_ret
              exact ⟨_, rfl, by rw [UF.out, kp1 (.inl h5)]; exact Er.no (by decide), BC.out⟩
end Go.Proofs.YtagnjmellcibhaaDoor

namespace Go.Proofs.YtagnjmellcibhaaDoor
open Go.RowKit
set_option linter.unusedVariables false

theorem find_fst {us : List UnV} {id : Int} : ∀ {r : Int}, FstU (fun u => u.id == id) us r → (r = -1 ∧ us.find? (fun u => u.id == id) = none) ∨ ∃ (n : Nat) (x : UnV), r = n ∧ us[n]? = some x ∧ us.find? (fun u => u.id == id) = some x
  | r, .inl ⟨h, h1⟩ => .inl ⟨h, by
      rw [List.find?_eq_none]
      intro x hx hp
      have : us.any (fun u => u.id == id) = true := List.any_eq_true.2 ⟨x, hx, hp⟩
      rw [h1] at this; cases this⟩
  | r, .inr ⟨n, x, h, h1, h2, h3⟩ => .inr ⟨n, x, h, h1, by
      have hn : n < us.length := (List.getElem?_eq_some_iff.1 h1).1
      have e : us = us.take n ++ x :: us.drop (n + 1) := by
        obtain ⟨hi, e⟩ := List.getElem?_eq_some_iff.1 h1
        rw [← e, ← List.drop_eq_getElem_cons hi, List.take_append_drop]
      have h4 : (us.take n).find? (fun u => u.id == id) = none := by
        rw [List.find?_eq_none]
        intro y hy hp
        have : (us.take n).any (fun u => u.id == id) = true := List.any_eq_true.2 ⟨y, hy, hp⟩
        rw [h3] at this; cases this
      rw [e, List.find?_append, h4]
      simp only [Option.none_or]
      have h2' : (x.id == id) = true := h2
      simp only [List.find?_cons, h2']⟩
theorem jf6 {ks : List KV} {W : WV} {j : JbV} (h : W.us.find? (fun u => u.id == j.unit) = none) : Wd.jobFault ks W j = 6 := by unfold Wd.jobFault; rw [h]
theorem jf7 {ks : List KV} {W : WV} {j : JbV} {u : UnV} {k : KV} (h : W.us.find? (fun u => u.id == j.unit) = some u) (hk : ks[u.kind.toNat]? = some k) (h7 : u.player ≠ j.player ∨ k.t = false) : Wd.jobFault ks W j = 7 := by
  unfold Wd.jobFault
  rw [h]
  simp only [hk]
  rw [if_pos]
  rcases h7 with h7 | h7 <;> simp [h7]
theorem jf1 {ks : List KV} {W : WV} {j : JbV} {u : UnV} {k : KV} (h : W.us.find? (fun u => u.id == j.unit) = some u) (hk : ks[u.kind.toNat]? = some k) (hp : u.player = j.player) (ht : k.t = true) (h1 : decide (0 ≤ j.kind ∧ j.kind < (ks.length : Int)) = false ∨ decide (1 ≤ j.left ∧ j.left ≤ 1000) = false) : Wd.jobFault ks W j = 1 := by
  unfold Wd.jobFault Wd.has
  rw [h]
  simp only [hk]
  rw [hp, ht, if_neg (by simp), if_pos]
  rcases h1 with h1 | h1 <;> rw [h1] <;> simp
theorem jf0 {ks : List KV} {W : WV} {j : JbV} {u : UnV} {k : KV} (h : W.us.find? (fun u => u.id == j.unit) = some u) (hk : ks[u.kind.toNat]? = some k) (hp : u.player = j.player) (ht : k.t = true) (h1 : decide (0 ≤ j.kind ∧ j.kind < (ks.length : Int)) = true) (h2 : decide (1 ≤ j.left ∧ j.left ≤ 1000) = true) : Wd.jobFault ks W j = 0 := by
  unfold Wd.jobFault Wd.has
  rw [h]
  simp only [hk]
  rw [hp, ht, h1, h2, if_neg (by simp), if_neg (by simp)]
set_option maxRecDepth 100000 in
set_option maxHeartbeats 8000000 in
theorem job_any (vk vw : Value) (ks : List KV) (W : WV) (j : JbV) (w : World) (hk : Kl w vk ks) (hw : Wl w vw W) (hul : W.us.length ≤ 40) (hkl : ks.length ≤ 8) (hall : ∀ u ∈ W.us, 0 ≤ u.kind ∧ u.kind < (ks.length : Int)) :
    Calls Tryd.prog 29 #[vk, vw, j.val] w fun e w' => ∃ r, e = .returned r ∧ Er r (Wd.jobFault ks W j) ∧ Below w.heap.size w w' := by
  have K : Hid (Kl w vk ks) := hk
  have H : Hid (Wl w vw W) := hw
  have HA : Hid (∀ u ∈ W.us, 0 ≤ u.kind ∧ u.kind < (ks.length : Int)) := hall
  obtain ⟨u1, u2, u3, u4, u5, rfl, r1, r2, r3, r4, r5⟩ := hw
  obtain ⟨p4, q4, rfl, k41, k42, k43⟩ := r4
  obtain ⟨pk, qk, rfl, kk1, kk2, kk3⟩ := hk
  have UC : Hid (W.us ≠ [] → ∃ x, p4 = some x ∧ x.block < w.heap.size ∧ ∀ (i : Nat) k, W.us[i]? = some k → Unc w (x.add (i * 8)) k) := k43
  have KK : Hid (ks ≠ [] → ∃ x, pk = some x ∧ x.block < w.heap.size ∧ ∀ (i : Nat) k, ks[i]? = some k → Kc w (x.add (i * 11)) k) := kk3
  clear r1 r2 r3 r5 k43 kk3 hall
  unfold JbV.val
  go_enter Tryd.func29, Tryd.ntmps29
  go_wp2_with fail
  have B0 : Hid (Below w.heap.size w ((w.alloc (Obj.cells #[.int .i64 W.turn, .int .i64 W.next, .int .i64 W.wide, .int .i64 W.high, u1, u2, u3, .slice p4 W.us.length q4, u5] 29)).alloc (Obj.cells #[.int .i64 j.player, .int .i64 j.unit, .int .i64 j.kind, .int .i64 j.left] 75))) := ((Below.refl _ _).alloc (Nat.le_refl _) _).alloc (by simp) _
  have X0 : Hid (Bw ((w.alloc (Obj.cells #[.int .i64 W.turn, .int .i64 W.next, .int .i64 W.wide, .int .i64 W.high, u1, u2, u3, .slice p4 W.us.length q4, u5] 29)).alloc (Obj.cells #[.int .i64 j.player, .int .i64 j.unit, .int .i64 j.kind, .int .i64 j.left] 75)) w.heap.size W u1 u2 u3 (.slice p4 W.us.length q4) u5) := (Bw.mk' W _ _ _ _ _ rfl).below (n := w.heap.size + 1) ((Below.refl _ _).alloc (by simp) _) (Nat.lt_succ_self _)
  have J0 : Hid (Jbc ((w.alloc (Obj.cells #[.int .i64 W.turn, .int .i64 W.next, .int .i64 W.wide, .int .i64 W.high, u1, u2, u3, .slice p4 W.us.length q4, u5] 29)).alloc (Obj.cells #[.int .i64 j.player, .int .i64 j.unit, .int .i64 j.kind, .int .i64 j.left] 75)) ⟨w.heap.size + 1, 0, none⟩ j) := Jbc.mk' j (by simp)
  generalize ((w.alloc (Obj.cells #[.int .i64 W.turn, .int .i64 W.next, .int .i64 W.wide, .int .i64 W.high, u1, u2, u3, .slice p4 W.us.length q4, u5] 29)).alloc (Obj.cells #[.int .i64 j.player, .int .i64 j.unit, .int .i64 j.kind, .int .i64 j.left] 75)) = w0 at *
  generalize w.heap.size + 1 = zj at *
  refine (wfind_any _ W j.unit w0 (H.out.below B0.out)).mono ?_
  rintro e w1 ⟨r, rfl, hf, hb1⟩
  have B1 : Hid (Below w.heap.size w w1) := B0.out.trans (hb1.mono B0.out.size)
  have X1 : Hid (Bw w1 w.heap.size W u1 u2 u3 (.slice p4 W.us.length q4) u5) := X0.out.below hb1 X0.out.lt
  have J1 : Hid (Jbc w1 ⟨zj, 0, none⟩ j) := J0.out.below hb1 J0.out.lt
  clear hb1 X0 J0 B0
  rcases find_fst hf with ⟨rfl, hfn⟩ | ⟨n, u, rfl, hn, hfs⟩
  · have F6 : Hid (Wd.jobFault ks W j = 6) := jf6 hfn
    clear hf hfn
    go_wp2
    go_ret
    exact ⟨_, rfl, by rw [F6.out]; exact Er.no (by decide), B1.out⟩
  · have hnl : n < W.us.length := (List.getElem?_eq_some_iff.1 hn).1
    have hni : (n : Int) < (W.us.length : Int) := by omega
    have hn0 : ¬ (n : Int) < 0 := by omega
    have HF : Hid (W.us.find? (fun u => u.id == j.unit) = some u) := hfs
    obtain ⟨x, rfl, hx, hcell⟩ := UC.out (by intro e; rw [e] at hnl; simp at hnl)
    obtain ⟨d0, d1, d2, d3, d4, d5, d6, d7⟩ := (hcell n u hn).below B1.out (by rw [add_block]; exact hx)
    have hku := HA.out u (List.mem_of_getElem? hn)
    obtain ⟨kn, ek⟩ : ∃ kn : Nat, u.kind = kn := ⟨u.kind.toNat, by omega⟩
    have hkn : kn < ks.length := by omega
    have hkni : (kn : Int) < (ks.length : Int) := by omega
    obtain ⟨k, hkk⟩ : ∃ k, ks[kn]? = some k := ⟨_, List.getElem?_eq_getElem hkn⟩
    have HK : Hid (ks[u.kind.toNat]? = some k) := by unfold Hid; rw [ek, Int.toNat_natCast]; exact hkk
    obtain ⟨xk, rfl, hxk, hkc⟩ := KK.out (by intro e; rw [e] at hkn; simp at hkn)
    have KC1 : Hid (Kc w1 (xk.add (kn * 11)) k) := (hkc kn k hkk).below B1.out (by rw [add_block]; exact hxk)
    have x7 := X1.out.c7
    have EK : Hid (u.kind = kn) := ek
    clear hf hfs hcell hx hn hku hkc hxk hkk ek
    go_upto_region 5 with fail
    have U2 : Hid (Unc (w1.alloc (Obj.cells #[.int .i64 u.id, .int .i64 u.player, .int .i64 u.kind, .int .i64 u.at_, .int .i64 u.life, .int .i64 u.load, .int .i64 u.task, .int .i64 u.goal] 33)) ⟨w1.heap.size, 0, none⟩ u) := Unc.mk' u rfl
    have BA : Hid (Below w1.heap.size w1 (w1.alloc (Obj.cells #[.int .i64 u.id, .int .i64 u.player, .int .i64 u.kind, .int .i64 u.at_, .int .i64 u.life, .int .i64 u.load, .int .i64 u.task, .int .i64 u.goal] 33))) := (Below.refl _ _).alloc (Nat.le_refl _) _
    generalize (w1.alloc (Obj.cells #[.int .i64 u.id, .int .i64 u.player, .int .i64 u.kind, .int .i64 u.at_, .int .i64 u.life, .int .i64 u.load, .int .i64 u.task, .int .i64 u.goal] 33)) = w2 at *
    have B2 : Hid (Below w.heap.size w w2) := B1.out.trans (BA.out.mono B1.out.size)
    have J2 : Hid (Jbc w2 ⟨zj, 0, none⟩ j) := J1.out.below BA.out J1.out.lt
    have KC2 : Hid (Kc w2 (xk.add (kn * 11)) k) := KC1.out.below BA.out KC1.out.lt
    clear d0 d1 d2 d3 d4 d5 d6 d7 x7 X1 J1 KC1 BA B1
    generalize w1.heap.size = zu at *
    obtain ⟨y0, y1, y2, y3, y4, y5, y6, y7⟩ := U2.out
    rw [EK.out] at y2
    obtain ⟨j0, j1, j2, j3⟩ := J2.out
    obtain ⟨l0, l1, l2, l3, l4, l5, l6, l7, l8, l9, l10⟩ := KC2.out
    simp only [Nat.zero_add] at y1 y2 y3 y4 y5 y6 y7 j1 j2 j3
    by_cases hp : u.player = j.player
    · cases ht : k.t with
      | false =>
        have F7 : Hid (Wd.jobFault ks W j = 7) := jf7 HF.out HK.out (.inr ht)
        rw [ht] at l10
        rw [hp] at y1
        clear ht
        go_wp2
        go_ret
        exact ⟨_, rfl, by rw [F7.out]; exact Er.no (by decide), B2.out⟩
      | true =>
        obtain ⟨b4, hb4⟩ : ∃ b, decide (0 ≤ j.kind ∧ j.kind < (ks.length : Int)) = b := ⟨_, rfl⟩
        obtain ⟨b5, hb5⟩ : ∃ b, decide (1 ≤ j.left ∧ j.left ≤ 1000) = b := ⟨_, rfl⟩
        have HB : Hid (decide (0 ≤ j.kind ∧ j.kind < (ks.length : Int)) = b4 ∧ decide (1 ≤ j.left ∧ j.left ≤ 1000) = b5) := ⟨hb4, hb5⟩
        have HPT : Hid (u.player = j.player ∧ k.t = true) := ⟨hp, ht⟩
        rw [ht] at l10
        rw [hp] at y1
        clear ht
        go_wp2_with fail
        refine (isone_kinds _ _ _ _ _ (by omega)).mono ?_
        rintro e w3 ⟨rfl, hww⟩
        obtain rfl := hww.symm
        rw [hb4]
        clear hb4
        cases b4 with
        | false =>
          have F1 : Hid (Wd.jobFault ks W j = 1) := jf1 HF.out HK.out HPT.out.1 HPT.out.2 (.inl HB.out.1)
          clear hb5
          go_wp2
          go_ret
          exact ⟨_, rfl, by rw [F1.out]; exact Er.no (by decide), B2.out⟩
        | true =>
          go_wp2_with fail
          refine (wwithin_any j.left 1 1000 _).mono ?_
          rintro e w4 ⟨rfl, hww⟩
          obtain rfl := hww.symm
          rw [hb5]
          clear hb5
          cases b5 with
          | false =>
            have F1 : Hid (Wd.jobFault ks W j = 1) := jf1 HF.out HK.out HPT.out.1 HPT.out.2 (.inr HB.out.2)
            go_wp2
            go_ret
            exact ⟨_, rfl, by rw [F1.out]; exact Er.no (by decide), B2.out⟩
          | true =>
            have F0 : Hid (Wd.jobFault ks W j = 0) := jf0 HF.out HK.out HPT.out.1 HPT.out.2 HB.out.1 HB.out.2
            go_wp2
            go_ret
            exact ⟨_, rfl, by rw [F0.out]; exact Er.nil, B2.out⟩
    · have F7 : Hid (Wd.jobFault ks W j = 7) := jf7 HF.out HK.out (.inl hp)
      go_wp2
      go_ret
      exact ⟨_, rfl, by rw [F7.out]; exact Er.no (by decide), B2.out⟩
end Go.Proofs.YtagnjmellcibhaaDoor

