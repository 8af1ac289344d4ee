/- sight.reaches, doesSee and its function. · A block of integers that may be written. · Lists of bools: what a slice holds; a block of them that may be written; make([]bool, n). · sight.checkPlayer, seen, Seen, Seers. · What the reference answers of roots, and of how far it is. · How far two cells are, by the reference. · How far two cells are, by the reference, as a number. · What the reference says of lines. · What the reference sees. -/
import Derived.Test.YtagnjmellcibhaaGreatDoorZSightShows2
import Derived.Test.YtagnjmellcibhaaGreatDoorZSightShows1
import Derived.Test.YtagnjmellcibhaaGreatDoorZSightShows3
import Derived.Test.YtagnjmellcibhaaGreatDoorZSightShows4
import Derived.OwnWalk
import Derived.Laws.MakeOwn
import Derived.Test.YtagnjmellcibhaaGreatDoorRows
import Derived.BigQuiet
import Derived.Deep.DeepCutAuto
namespace Go.Proofs.YtagnjmellcibhaaGreatDoor
open Go.RowKit
set_option linter.unusedVariables false

theorem cell_new1 {w : World} {z : Nat} (v : Value) (T : TypeId) (hz : w.heap.size = z) : (w.alloc (.cells #[v] T)).cell? ⟨z, 0, none⟩ = some v := by
  subst hz
  simp
set_option maxRecDepth 100000 in
set_option maxHeartbeats 4000000 in
theorem reaches_any (v : Value) (W H : Nat) (gs os : List Int) (k : KV) (a b : Nat) (w : World) (h : Fl w v W H gs os) (G : Fd.Good W H gs os) (ha : a < W * H) (hb : b < W * H) (s0 : 0 ≤ k.n3) (s1 : k.n3 ≤ 12) :
    Calls Tryz.prog 75 #[v, k.val, .int .i64 (a : Nat), .int .i64 (b : Nat)] w fun e w' => e = .returned (.bool (seeN W gs k a b)) ∧ Below w.heap.size w w' := by
  have F0 : Hid (Fl w v W H gs os) := h
  have HG : Hid (Fd.Good W H gs os ∧ a < W * H ∧ b < W * H ∧ 0 ≤ k.n3 ∧ k.n3 ≤ 12) := ⟨G, ha, hb, s0, s1⟩
  have hm : W * H ≤ 144 := G.pos.2
  have FE : Hid (∀ r, Ma.Sq r ((((a % W : Nat) : Int) - ((b % W : Nat) : Int)) * (((a % W : Nat) : Int) - ((b % W : Nat) : Int)) + (((a / W : Nat) : Int) - ((b / W : Nat) : Int)) * (((a / W : Nat) : Int) - ((b / W : Nat) : Int))) → farN W a b = r) := fun r hr => farN_eq G.w2 (by omega) (by omega) G.w1 hr
  obtain ⟨ca, hca⟩ : ∃ n, a % W = n := ⟨_, rfl⟩
  obtain ⟨ra, hra⟩ : ∃ n, a / W = n := ⟨_, rfl⟩
  obtain ⟨cb, hcb⟩ : ∃ n, b % W = n := ⟨_, rfl⟩
  obtain ⟨rb, hrb⟩ : ∃ n, b / W = n := ⟨_, rfl⟩
  have hw : ¬ (W : Int) = 0 := by have := G.w1; omega
  have e1 : (a : Int) % (W : Int) = (ca : Nat) := by rw [← hca]; rfl
  have e2 : (a : Int) / (W : Int) = (ra : Nat) := by rw [← hra]; rfl
  have e3 : (b : Int) % (W : Int) = (cb : Nat) := by rw [← hcb]; rfl
  have e4 : (b : Int) / (W : Int) = (rb : Nat) := by rw [← hrb]; rfl
  have l1 : ra ≤ 144 := by rw [← hra]; exact Nat.le_trans (Nat.div_le_self _ _) (by omega)
  have l2 : rb ≤ 144 := by rw [← hrb]; exact Nat.le_trans (Nat.div_le_self _ _) (by omega)
  have l3 : ca ≤ 144 := by rw [← hca]; exact Nat.le_trans (Nat.mod_le _ _) (by omega)
  have l4 : cb ≤ 144 := by rw [← hcb]; exact Nat.le_trans (Nat.mod_le _ _) (by omega)
  have FO : Hid (∀ V, Calls Tryz.prog 97 #[.int .i64 (ca : Nat), .int .i64 (ra : Nat), .int .i64 (cb : Nat), .int .i64 (rb : Nat)] V fun e w' => e = .returned (.tuple #[.int .i64 (farN W a b), .nilIface]) ∧ w' = V) := fun V => by
    refine (far_ok _ _ _ _ V (small_in6 l3) (small_in6 l1) (small_in6 l4) (small_in6 l2)).mono ?_
    rintro e w' ⟨r, hr, rfl, rfl⟩
    rw [← hca, ← hra, ← hcb, ← hrb] at hr
    rw [FE.out r hr]
    exact ⟨rfl, rfl⟩
  clear hca hra hcb hrb
  obtain ⟨u1, u2, rfl, ⟨a1, c, rfl, c1, c2, ca'⟩, ⟨b1, d, rfl, d1, d2, cb'⟩⟩ := h
  clear ca' cb' G ha hb s0 s1 hm
  have B0 : Hid (Below w.heap.size w ((w.alloc (Obj.cells #[.int .i64 (W : Nat), .int .i64 (H : Nat), .slice a1 gs.length c, .slice b1 os.length d] 25)).alloc (Obj.cells #[.string k.b, .int .i64 k.n0, .int .i64 k.n1, .int .i64 k.n2, .int .i64 k.n3, .int .i64 k.n4, .int .i64 k.n5, .int .i64 k.n6, .int .i64 k.n7, .bool k.f, .bool k.t] 61))) := ((Below.refl _ _).alloc (Nat.le_refl _) _).alloc (by simp) _
  have F1 : Hid (Bf ((w.alloc (Obj.cells #[.int .i64 (W : Nat), .int .i64 (H : Nat), .slice a1 gs.length c, .slice b1 os.length d] 25)).alloc (Obj.cells #[.string k.b, .int .i64 k.n0, .int .i64 k.n1, .int .i64 k.n2, .int .i64 k.n3, .int .i64 k.n4, .int .i64 k.n5, .int .i64 k.n6, .int .i64 k.n7, .bool k.f, .bool k.t] 61)) w.heap.size W H (.slice a1 gs.length c) (.slice b1 os.length d)) := (Bf.mk' _ _ _ _ rfl).below ((Below.refl _ _).alloc (Nat.le_refl _) _) (by simp)
  have K1 : Hid (Kc ((w.alloc (Obj.cells #[.int .i64 (W : Nat), .int .i64 (H : Nat), .slice a1 gs.length c, .slice b1 os.length d] 25)).alloc (Obj.cells #[.string k.b, .int .i64 k.n0, .int .i64 k.n1, .int .i64 k.n2, .int .i64 k.n3, .int .i64 k.n4, .int .i64 k.n5, .int .i64 k.n6, .int .i64 k.n7, .bool k.f, .bool k.t] 61)) ⟨w.heap.size + 1, 0, none⟩ k) := Kc.mk' k (by simp)
  unfold KV.val
  go_enter Tryz.func75, Tryz.ntmps75
  go_upto_region 1 with fail
  generalize ((w.alloc (Obj.cells #[.int .i64 (W : Nat), .int .i64 (H : Nat), .slice a1 gs.length c, .slice b1 os.length d] 25)).alloc (Obj.cells #[.string k.b, .int .i64 k.n0, .int .i64 k.n1, .int .i64 k.n2, .int .i64 k.n3, .int .i64 k.n4, .int .i64 k.n5, .int .i64 k.n6, .int .i64 k.n7, .bool k.f, .bool k.t] 61)) = w0 at *
  obtain ⟨f0, f1, f2, f3⟩ := F1.out
  obtain ⟨y0, y1, y2, y3, y4, y5, y6, y7, y8, y9, y10⟩ := K1.out
  obtain ⟨f, hf⟩ : ∃ f, farN W a b = f := ⟨_, rfl⟩
  have HF : Hid (farN W a b = f) := hf
  rw [hf] at FO
  clear hf
  cases hk : k.f with
  | true =>
    have SE : Hid (seeN W gs k a b = decide (f ≤ k.n3)) := by unfold Hid seeN; rw [hk, HF.out]; simp
    rw [hk] at y9
    go_upto_region 2 with fail
    go_quiet ((go_at_call 97; exact Calls.quiet_of_same (FO.out _)))
    go_wp2
    go_ret
    exact ⟨by rw [SE.out]; rfl, ⟨B0.out.os, B0.out.tape, B0.out.output, B0.out.size, B0.out.block⟩⟩
  | false =>
    obtain ⟨z, hz⟩ : ∃ z, (decide (f ≤ k.n3) && !(Fd.line W a b).any (Fd.hide gs a b)) = z := ⟨_, rfl⟩
    have SE : Hid (seeN W gs k a b = z) := by unfold Hid seeN; rw [hk, HF.out, ← hz]; simp
    rw [hk] at y9
    go_upto_region 4 with fail
    go_wp2_with fail
    refine (Sees_ok _ W H gs os a b k.n3 w0 (F0.out.below B0.out) HG.out.1 HG.out.2.1 HG.out.2.2.1 HG.out.2.2.2.1 (by have := HG.out.2.2.2.2; omega)).mono ?_
    rintro e w1 ⟨r, hr, rfl, hb⟩
    have er : f = r := HF.out.symm.trans (FE.out r hr)
    rw [← er, hz]
    have B1 : Hid (Below w.heap.size w w1) := B0.out.trans (hb.mono B0.out.size)
    clear hb hr er hz f0 f1 f2 f3 y0 y1 y2 y3 y4 y5 y6 y7 y8 y9 y10
    cases z <;>
    · go_wp2
      go_ret
      exact ⟨by rw [SE.out]; rfl, B1.out⟩

set_option maxHeartbeats 1000000 in
theorem hasm_any (K : Nat) (eK : ∀ args w, (callFunc K args).run Tryz.prog w = .ok (.enter K args) w) (u : Value) (cs : Array Value) (ks : List UnV) (p : UnV → Bool) (w : World) (hu : Unl w u ks)
    (hp : ∀ W, Below w.heap.size w W → ∀ k ∈ ks, Calls Tryz.prog K (#[k.val] ++ cs) W fun e w' => e = .returned (.bool (p k)) ∧ Below W.heap.size W w') :
    Calls Tryz.prog 76 #[u, .func (Fn.func K) #[] cs] w fun e w' => e = .returned (.bool (ks.any p)) ∧ Below w.heap.size w w' := by
  have H' : Hid (Calls Tryz.prog 61 #[u, .func (Fn.func K) #[] cs] w fun e w' => ∃ r : Int, e = .returned (.int .i64 r) ∧ FstU p ks r ∧ Below w.heap.size w w') := idxm_any K eK u cs ks p w hu hp
  clear hp
  go_enter Tryz.func76, Tryz.ntmps76
  go_wp2_with fail
  refine Calls.mono H'.out ?_
  rintro e w1 ⟨r, rfl, hr, q⟩
  have Hr : Hid (decide (0 ≤ r) = ks.any p) := hr.has
  have Q : Hid (Below w.heap.size w w1) := q
  clear hr q
  go_wp2
  go_ret
  exact ⟨by show Ending.returned (.bool (decide (0 ≤ r))) = _; rw [Hr.out], Q⟩

set_option maxRecDepth 100000 in
set_option maxHeartbeats 4000000 in
theorem see_fg (ks : List KV) (X : WV) (u : UnV) (p : Int) (Wn c bp bw bk ba : Nat) (vk u1 u2 u3 u4 u5 : Value) (w : World) (WR : WRight ks X) (hw : X.wide = (Wn : Nat)) (hc : c < X.gs.length) (hu : u ∈ X.us)
    (hk : Kl w vk ks) (hx : Wl w (.agg #[.int .i64 X.turn, .int .i64 X.next, .int .i64 X.wide, .int .i64 X.high, u1, u2, u3, u4, u5]) X) (hb : Bw w bw X u1 u2 u3 u4 u5)
    (c1 : w.cell? ⟨bp, 0, none⟩ = some (.int .i64 p)) (c2 : w.cell? ⟨bk, 0, none⟩ = some vk) (c3 : w.cell? ⟨ba, 0, none⟩ = some (.int .i64 (c : Nat))) :
    Calls Tryz.prog 74 (#[u.val] ++ #[.pointer (some ⟨bp, 0, none⟩), .pointer (some ⟨bw, 0, none⟩), .pointer (some ⟨bk, 0, none⟩), .pointer (some ⟨ba, 0, none⟩)]) w fun e w' => e = .returned (.bool (seeU ks Wn X.gs p c u)) ∧ Below w.heap.size w w' := by
  obtain ⟨i, hi⟩ := List.mem_iff_getElem?.1 hu
  obtain ⟨k, fu⟩ := WR.fine hi
  obtain ⟨Wm, Hn, e1, e2, G⟩ := WR.good
  have ew : Wm = Wn := by omega
  subst ew
  obtain ⟨kn, hkn⟩ : ∃ n : Nat, u.kind = n := ⟨u.kind.toNat, by have := fu.k0.1; omega⟩
  obtain ⟨an, han⟩ : ∃ n : Nat, u.at_ = n := ⟨u.at_.toNat, by have := fu.at_.1; omega⟩
  have hkk : ks[kn]? = some k := by have := fu.kk; rw [hkn] at this; exact this
  have hkl : kn < ks.length := (List.getElem?_eq_some_iff.1 hkk).1
  have hN := kind_nums WR.kinds (List.mem_of_getElem? hkk)
  have HE : Hid (u.kind = (kn : Nat) ∧ u.at_ = (an : Nat) ∧ X.wide = (Wm : Nat) ∧ X.high = (Hn : Nat)) := ⟨hkn, han, e1, e2⟩
  have LL : Hid (Fd.Good Wm Hn X.gs X.os ∧ an < Wm * Hn ∧ c < Wm * Hn ∧ 0 ≤ k.n3 ∧ k.n3 ≤ 12) := ⟨G, by have := fu.at_.2; have := G.gl; omega, by have := G.gl; omega, hN.2.2.2.2.2.2.2.2.1, hN.2.2.2.2.2.2.2.2.2.1⟩
  have SE : Hid (seeU ks Wm X.gs p c u = ((u.player == p) && seeN Wm X.gs k an c)) := by
    unfold Hid seeU
    rw [hkn, han, Int.toNat_natCast, Int.toNat_natCast, hkk]
  have XL : Hid (Wl w (.agg #[.int .i64 X.turn, .int .i64 X.next, .int .i64 X.wide, .int .i64 X.high, u1, u2, u3, u4, u5]) X) := hx
  obtain ⟨pk, qk, rfl, ck1, ck2, kc⟩ := hk
  obtain ⟨xk, rfl, hxk, hkc⟩ := kc (by intro h; rw [h] at hkl; simp at hkl)
  have KC : Hid (Kc w (xk.add (kn * 11)) k ∧ (xk.add (kn * 11)).block < w.heap.size) := ⟨hkc kn k hkk, by rw [add_block]; exact hxk⟩
  have CF : Hid (w.cell? ⟨bp, 0, none⟩ = some (.int .i64 p) ∧ w.cell? ⟨bk, 0, none⟩ = some (.slice (some xk) ks.length qk) ∧ w.cell? ⟨ba, 0, none⟩ = some (.int .i64 (c : Nat)) ∧ bp < w.heap.size ∧ bk < w.heap.size ∧ ba < w.heap.size) := ⟨c1, c2, c3, cell_lt c1, cell_lt c2, cell_lt c3⟩
  have BX : Hid (Bw w bw X u1 u2 u3 u4 u5) := hb
  have B0 : Hid (Below w.heap.size w (w.alloc (Obj.cells #[.int .i64 u.id, .int .i64 u.player, .int .i64 u.kind, .int .i64 u.at_, .int .i64 u.life, .int .i64 u.load, .int .i64 u.task, .int .i64 u.goal] 59))) := (Below.refl _ _).alloc (Nat.le_refl _) _
  have O0 : Hid (Unc (w.alloc (Obj.cells #[.int .i64 u.id, .int .i64 u.player, .int .i64 u.kind, .int .i64 u.at_, .int .i64 u.life, .int .i64 u.load, .int .i64 u.task, .int .i64 u.goal] 59)) ⟨w.heap.size, 0, none⟩ u) := Unc.mk' u rfl
  clear kc hkc hxk hx hb c1 c2 c3 hkk fu hi e1 e2 G hN hkn han hc hu WR
  unfold UnV.val
  go_enter Tryz.func74, Tryz.ntmps74
  go_upto_region 1 with fail
  generalize (w.alloc (Obj.cells #[.int .i64 u.id, .int .i64 u.player, .int .i64 u.kind, .int .i64 u.at_, .int .i64 u.life, .int .i64 u.load, .int .i64 u.task, .int .i64 u.goal] 59)) = w0 at *
  by_cases hp : u.player = p
  case neg =>
    have hp' : (u.player == p) = false := by rw [beq_eq_false_iff_ne]; exact hp
    have hp2 : decide (u.player = p) = false := decide_eq_false hp
    have S1 : Hid (seeU ks Wm X.gs p c u = false) := by unfold Hid; rw [SE.out, hp']; rfl
    have d1 : w0.cell? ⟨w.heap.size, 1, none⟩ = some (.int .i64 u.player) := by have := O0.out.c1; rw [Nat.zero_add] at this; exact this
    have d2 : w0.cell? ⟨bp, 0, none⟩ = some (.int .i64 p) := by rw [B0.out.cell (p := ⟨bp, 0, none⟩) CF.out.2.2.2.1]; exact CF.out.1
    obtain ⟨q0, q1, q2, q3, q4, q5, q6, q7⟩ := O0.out
    clear hp
    go_quiet (fail)
    go_wp2
    go_ret
    exact ⟨by rw [S1.out]; rfl, ⟨B0.out.os, B0.out.tape, B0.out.output, B0.out.size, B0.out.block⟩⟩
  · have S1 : Hid (seeU ks Wm X.gs p c u = seeN Wm X.gs k an c) := by unfold Hid; rw [SE.out, hp]; simp
    have C1 : Hid (w.cell? ⟨bp, 0, none⟩ = some (.int .i64 u.player)) := by unfold Hid; rw [hp]; exact CF.out.1
    clear hp
    have CB : Hid (∀ V, Below w.heap.size w V → Unc V ⟨w.heap.size, 0, none⟩ u → (V.cell? ⟨w.heap.size, 1, none⟩ = some (.int .i64 u.player) ∧ V.cell? ⟨w.heap.size, 2, none⟩ = some (.int .i64 (kn : Nat)) ∧ V.cell? ⟨w.heap.size, 3, none⟩ = some (.int .i64 (an : Nat)) ∧ V.cell? ⟨bp, 0, none⟩ = some (.int .i64 u.player) ∧ V.cell? ⟨bk, 0, none⟩ = some (.slice (some xk) ks.length qk) ∧ V.cell? ⟨ba, 0, none⟩ = some (.int .i64 (c : Nat)) ∧ Bw V bw X u1 u2 u3 u4 u5 ∧ Kc V (xk.add (kn * 11)) k)) := fun V hb h0 =>
      ⟨by have := h0.c1; rw [Nat.zero_add] at this; exact this, by have := h0.c2; rw [Nat.zero_add, HE.out.1] at this; exact this, by have := h0.c3; rw [Nat.zero_add, HE.out.2.1] at this; exact this,
       by rw [hb.cell (p := ⟨bp, 0, none⟩) CF.out.2.2.2.1]; exact C1.out, by rw [hb.cell (p := ⟨bk, 0, none⟩) CF.out.2.2.2.2.1]; exact CF.out.2.1, by rw [hb.cell (p := ⟨ba, 0, none⟩) CF.out.2.2.2.2.2]; exact CF.out.2.2.1,
       BX.out.below hb BX.out.lt, KC.out.1.below hb KC.out.2⟩
    refine wp_region_two [(true, 0), (true, 1), (true, 2), (true, 3), (true, 4), (true, 5), (true, 6), (true, 7), (true, 8), (true, 9), (true, 10), (true, 11), (true, 12), (true, 13), (true, 14), (false, 15)] [(true, 16), (false, 17)] (fun V => (V.cell? ⟨w.heap.size, 1, none⟩ = some (.int .i64 u.player) ∧ V.cell? ⟨w.heap.size, 2, none⟩ = some (.int .i64 (kn : Nat)) ∧ V.cell? ⟨w.heap.size, 3, none⟩ = some (.int .i64 (an : Nat)) ∧ V.cell? ⟨bp, 0, none⟩ = some (.int .i64 u.player) ∧ V.cell? ⟨bk, 0, none⟩ = some (.slice (some xk) ks.length qk) ∧ V.cell? ⟨ba, 0, none⟩ = some (.int .i64 (c : Nat)) ∧ Bw V bw X u1 u2 u3 u4 u5 ∧ Kc V (xk.add (kn * 11)) k)) (by kernel_rfl) (by kernel_rfl) (by kernel_rfl) (by decide +kernel) (by decide +kernel) (CB.out _ B0.out.drew (O0.out.below ((Below.refl _ _).drew) O0.out.lt)) ?_
    have B1 : Hid (Below w.heap.size w { w0 with drawn := w0.drawn + 1 }) := B0.out.drew
    have O1 : Hid (Unc { w0 with drawn := w0.drawn + 1 } ⟨w.heap.size, 0, none⟩ u) := O0.out.below ((Below.refl _ _).drew) O0.out.lt
    generalize ({ w0 with drawn := w0.drawn + 1 } : World) = w1 at *
    clear B0 O0
    refine headT_read rfl (.pointer (some ⟨w.heap.size, 1, none⟩)) (by go_simp) (fun V hV => by go_simp) ?_
    go_simp
    refine headT_read rfl (.int .i64 u.player) (by go_simp) (fun V hV => by obtain ⟨d1, d2, d3, d4, d5, d6, ⟨x0, x1, x2, x3, x4, x5, x6, x7, x8⟩, ⟨y0, y1, y2, y3, y4, y5, y6, y7, y8, y9, y10⟩⟩ := hV; go_simp) ?_
    go_simp
    refine headT_read rfl (.int .i64 u.player) (by go_simp) (fun V hV => by obtain ⟨d1, d2, d3, d4, d5, d6, ⟨x0, x1, x2, x3, x4, x5, x6, x7, x8⟩, ⟨y0, y1, y2, y3, y4, y5, y6, y7, y8, y9, y10⟩⟩ := hV; go_simp) ?_
    go_simp
    refine headT_read rfl (.bool true) (by go_simp) (fun V hV => by go_simp) ?_
    go_simp
    refine headT_read rfl (.bool true) (by go_simp) (fun V hV => by go_simp) ?_
    go_simp
    refine headT_read rfl (.pointer (some ⟨bw, 2, none⟩)) (by go_simp) (fun V hV => by go_simp) ?_
    go_simp
    refine headT_read rfl (.agg #[.int .i64 X.wide, .int .i64 X.high, u1, u2]) (by go_simp) (fun V hV => by obtain ⟨d1, d2, d3, d4, d5, d6, ⟨x0, x1, x2, x3, x4, x5, x6, x7, x8⟩, ⟨y0, y1, y2, y3, y4, y5, y6, y7, y8, y9, y10⟩⟩ := hV; go_simp) ?_
    go_simp
    refine headT_read rfl (.slice (some xk) ks.length qk) (by go_simp) (fun V hV => by obtain ⟨d1, d2, d3, d4, d5, d6, ⟨x0, x1, x2, x3, x4, x5, x6, x7, x8⟩, ⟨y0, y1, y2, y3, y4, y5, y6, y7, y8, y9, y10⟩⟩ := hV; go_simp) ?_
    go_simp
    refine headT_read rfl (.pointer (some ⟨w.heap.size, 2, none⟩)) (by go_simp) (fun V hV => by go_simp) ?_
    go_simp
    refine headT_read rfl (.int .i64 (kn : Nat)) (by go_simp) (fun V hV => by obtain ⟨d1, d2, d3, d4, d5, d6, ⟨x0, x1, x2, x3, x4, x5, x6, x7, x8⟩, ⟨y0, y1, y2, y3, y4, y5, y6, y7, y8, y9, y10⟩⟩ := hV; go_simp) ?_
    go_simp
    refine headT_read rfl (.pointer (some (xk.add (kn * 11)))) (by go_simp) (fun V hV => by go_simp) ?_
    go_simp
    refine headT_read rfl (.agg #[.string k.b, .int .i64 k.n0, .int .i64 k.n1, .int .i64 k.n2, .int .i64 k.n3, .int .i64 k.n4, .int .i64 k.n5, .int .i64 k.n6, .int .i64 k.n7, .bool k.f, .bool k.t]) (by go_simp) (fun V hV => by obtain ⟨d1, d2, d3, d4, d5, d6, ⟨x0, x1, x2, x3, x4, x5, x6, x7, x8⟩, ⟨y0, y1, y2, y3, y4, y5, y6, y7, y8, y9, y10⟩⟩ := hV; go_simp) ?_
    go_simp
    refine headT_read rfl (.pointer (some ⟨w.heap.size, 3, none⟩)) (by go_simp) (fun V hV => by go_simp) ?_
    go_simp
    refine headT_read rfl (.int .i64 (an : Nat)) (by go_simp) (fun V hV => by obtain ⟨d1, d2, d3, d4, d5, d6, ⟨x0, x1, x2, x3, x4, x5, x6, x7, x8⟩, ⟨y0, y1, y2, y3, y4, y5, y6, y7, y8, y9, y10⟩⟩ := hV; go_simp) ?_
    go_simp
    refine headT_read rfl (.int .i64 (c : Nat)) (by go_simp) (fun V hV => by obtain ⟨d1, d2, d3, d4, d5, d6, ⟨x0, x1, x2, x3, x4, x5, x6, x7, x8⟩, ⟨y0, y1, y2, y3, y4, y5, y6, y7, y8, y9, y10⟩⟩ := hV; go_simp) ?_
    go_simp
    refine headT_call rfl 75 #[.agg #[.int .i64 X.wide, .int .i64 X.high, u1, u2], .agg #[.string k.b, .int .i64 k.n0, .int .i64 k.n1, .int .i64 k.n2, .int .i64 k.n3, .int .i64 k.n4, .int .i64 k.n5, .int .i64 k.n6, .int .i64 k.n7, .bool k.f, .bool k.t], .int .i64 (an : Nat), .int .i64 (c : Nat)] (by go_simp) (by go_simp) ?_
    have FLD := fl_of (XL.out.below B1.out)
    rw [HE.out.2.2.1, HE.out.2.2.2] at FLD ⊢
    refine (reaches_any _ Wm Hn X.gs X.os k an c w1 FLD LL.out.1 LL.out.2.1 LL.out.2.2.1 LL.out.2.2.2.1 LL.out.2.2.2.2).mono ?_
    rintro e w2 ⟨rfl, hb⟩
    have B2 : Hid (Below w.heap.size w w2) := B1.out.trans (hb.mono B1.out.size)
    refine ⟨_, rfl, CB.out _ B2.out (O1.out.below hb O1.out.lt), ?_⟩
    clear hb B1 O1 FLD
    go_simp
    obtain ⟨t, ht⟩ : ∃ t, seeN Wm X.gs k an c = t := ⟨_, rfl⟩
    rw [ht] at S1 ⊢
    clear ht
    refine sched_read rfl (.bool t) (by go_simp) (fun V hV => by go_simp) ?_
    go_simp
    refine sched_value rfl (.bool t) w2 (by go_simp) (by go_simp) trivial ?_
    go_simp
    unfold wpSched
    go_wp2
    go_ret
    exact ⟨by rw [S1.out]; rfl, B2.out⟩

set_option maxRecDepth 100000 in
set_option maxHeartbeats 4000000 in
theorem doesSee_any (vk vw : Value) (ks : List KV) (X : WV) (p : Int) (Wn c : Nat) (w : World) (WR : WRight ks X) (hw : X.wide = (Wn : Nat)) (hc : c < X.gs.length) (hk : Kl w vk ks) (hx : Wl w vw X) :
    Calls Tryz.prog 48 #[vk, vw, .int .i64 p, .int .i64 (c : Nat)] w fun e w' => e = .returned (.bool (seesP ks Wn X.gs X.us p c)) ∧ Below w.heap.size w w' := by
  have HR : Hid (WRight ks X ∧ X.wide = (Wn : Nat) ∧ c < X.gs.length) := ⟨WR, hw, hc⟩
  have K : Hid (Kl w vk ks) := hk
  have XL : Hid (Wl w vw X) := hx
  obtain ⟨p1, q1, p2, q2, p3, q3, p4, q4, p5, q5, rfl⟩ := wl_shape9 hx
  obtain ⟨pk, qk, rfl, -⟩ := hk
  clear hx hw hc WR
  have B0 : Hid (Below w.heap.size w ((((w.alloc (Obj.cells #[.slice pk ks.length qk] 22)).alloc (Obj.cells #[.int .i64 X.turn, .int .i64 X.next, .int .i64 X.wide, .int .i64 X.high, .slice p1 X.gs.length q1, .slice p2 X.os.length q2, .slice p3 X.gold.length q3, .slice p4 X.us.length q4, .slice p5 X.qs.length q5] 29)).alloc (Obj.cells #[.int .i64 p] 3)).alloc (Obj.cells #[.int .i64 (c : Nat)] 3))) := ((((Below.refl _ _).alloc (Nat.le_refl _) _).alloc (by simp) _).alloc (by simp; omega) _).alloc (by simp; omega) _
  have K0 : Hid (((((w.alloc (Obj.cells #[.slice pk ks.length qk] 22)).alloc (Obj.cells #[.int .i64 X.turn, .int .i64 X.next, .int .i64 X.wide, .int .i64 X.high, .slice p1 X.gs.length q1, .slice p2 X.os.length q2, .slice p3 X.gold.length q3, .slice p4 X.us.length q4, .slice p5 X.qs.length q5] 29)).alloc (Obj.cells #[.int .i64 p] 3)).alloc (Obj.cells #[.int .i64 (c : Nat)] 3)).cell? ⟨w.heap.size, 0, none⟩ = some (.slice pk ks.length qk) ∧ ((((w.alloc (Obj.cells #[.slice pk ks.length qk] 22)).alloc (Obj.cells #[.int .i64 X.turn, .int .i64 X.next, .int .i64 X.wide, .int .i64 X.high, .slice p1 X.gs.length q1, .slice p2 X.os.length q2, .slice p3 X.gold.length q3, .slice p4 X.us.length q4, .slice p5 X.qs.length q5] 29)).alloc (Obj.cells #[.int .i64 p] 3)).alloc (Obj.cells #[.int .i64 (c : Nat)] 3)).cell? ⟨w.heap.size + 1 + 1, 0, none⟩ = some (.int .i64 p) ∧ ((((w.alloc (Obj.cells #[.slice pk ks.length qk] 22)).alloc (Obj.cells #[.int .i64 X.turn, .int .i64 X.next, .int .i64 X.wide, .int .i64 X.high, .slice p1 X.gs.length q1, .slice p2 X.os.length q2, .slice p3 X.gold.length q3, .slice p4 X.us.length q4, .slice p5 X.qs.length q5] 29)).alloc (Obj.cells #[.int .i64 p] 3)).alloc (Obj.cells #[.int .i64 (c : Nat)] 3)).cell? ⟨w.heap.size + 1 + 1 + 1, 0, none⟩ = some (.int .i64 (c : Nat))) := by
    refine ⟨?_, ?_, ?_⟩
    · rw [cell_alloc (p := ⟨w.heap.size, 0, none⟩) (by simp; omega), cell_alloc (p := ⟨w.heap.size, 0, none⟩) (by simp; omega), cell_alloc (p := ⟨w.heap.size, 0, none⟩) (by simp)]
      simp
    · rw [cell_alloc (p := ⟨w.heap.size + 1 + 1, 0, none⟩) (by simp)]
      exact cell_new1 _ _ (by simp)
    · exact cell_new1 _ _ (by simp)
  have X0 : Hid (Bw ((((w.alloc (Obj.cells #[.slice pk ks.length qk] 22)).alloc (Obj.cells #[.int .i64 X.turn, .int .i64 X.next, .int .i64 X.wide, .int .i64 X.high, .slice p1 X.gs.length q1, .slice p2 X.os.length q2, .slice p3 X.gold.length q3, .slice p4 X.us.length q4, .slice p5 X.qs.length q5] 29)).alloc (Obj.cells #[.int .i64 p] 3)).alloc (Obj.cells #[.int .i64 (c : Nat)] 3)) (w.heap.size + 1) X (.slice p1 X.gs.length q1) (.slice p2 X.os.length q2) (.slice p3 X.gold.length q3) (.slice p4 X.us.length q4) (.slice p5 X.qs.length q5)) := ((Bw.mk' X _ _ _ _ _ (by simp)).below ((Below.refl _ _).alloc (Nat.le_refl _) _) (by simp)).below ((Below.refl _ _).alloc (Nat.le_refl _) _) (by simp)
  go_enter Tryz.func48, Tryz.ntmps48
  go_upto_region 1 with fail
  generalize ((((w.alloc (Obj.cells #[.slice pk ks.length qk] 22)).alloc (Obj.cells #[.int .i64 X.turn, .int .i64 X.next, .int .i64 X.wide, .int .i64 X.high, .slice p1 X.gs.length q1, .slice p2 X.os.length q2, .slice p3 X.gold.length q3, .slice p4 X.us.length q4, .slice p5 X.qs.length q5] 29)).alloc (Obj.cells #[.int .i64 p] 3)).alloc (Obj.cells #[.int .i64 (c : Nat)] 3)) = w0 at *
  obtain ⟨x0, x1, x2, x3, x4, x5, x6, x7, x8⟩ := X0.out
  go_wp2_with fail
  refine (hasm_any 74 (by intro args w; go_simp) _ #[.pointer (some ⟨w.heap.size + 1 + 1, 0, none⟩), .pointer (some ⟨w.heap.size + 1, 0, none⟩), .pointer (some ⟨w.heap.size, 0, none⟩), .pointer (some ⟨w.heap.size + 1 + 1 + 1, 0, none⟩)] X.us (seeU ks Wn X.gs p c) w0 (XL.out.below B0.out).slices.2.2.2.1 (fun V hV u hu => see_fg ks X u p Wn c _ _ _ _ _ _ _ _ _ _ V HR.out.1 HR.out.2.1 HR.out.2.2 hu (K.out.below (B0.out.trans (hV.mono B0.out.size))) (XL.out.below (B0.out.trans (hV.mono B0.out.size))) (X0.out.below hV X0.out.lt) (by rw [hV.cell (p := ⟨w.heap.size + 1 + 1, 0, none⟩) (cell_lt K0.out.2.1)]; exact K0.out.2.1) (by rw [hV.cell (p := ⟨w.heap.size, 0, none⟩) (cell_lt K0.out.1)]; exact K0.out.1) (by rw [hV.cell (p := ⟨w.heap.size + 1 + 1 + 1, 0, none⟩) (cell_lt K0.out.2.2)]; exact K0.out.2.2))).mono ?_
  rintro e w1 ⟨rfl, hb⟩
  have B1 : Hid (Below w.heap.size w w1) := B0.out.trans (hb.mono B0.out.size)
  obtain ⟨t, ht⟩ : ∃ t, X.us.any (seeU ks Wn X.gs p c) = t := ⟨_, rfl⟩
  have ST : Hid (seesP ks Wn X.gs X.us p c = t) := ht
  rw [ht]
  clear hb ht x0 x1 x2 x3 x4 x5 x6 x7 x8
  go_wp2
  go_ret
  exact ⟨by rw [ST.out]; rfl, B1.out⟩
end Go.Proofs.YtagnjmellcibhaaGreatDoor

namespace Go.Proofs.YtagnjmellcibhaaGreatDoor
open Go.RowKit

def intCells (ds : List Int) : List Value := ds.map fun d => .int .i64 d

/-- block b holds the integers ds, and some cells behind. -/
def Bk (w : World) (b : Nat) (ds : List Int) (r : Array Value) : Prop := w.heap[b]? = some (.cells ((intCells ds).toArray ++ r) 3 (0, 0))

theorem Bk.cell {w : World} {b : Nat} {ds : List Int} {r : Array Value} (h : Bk w b ds r) {i : Nat} {d : Int} (hd : ds[i]? = some d) : w.cell? ⟨b, i, none⟩ = some (.int .i64 d) := by
  have hi : i < ds.length := (List.getElem?_eq_some_iff.1 hd).1
  unfold Bk at h
  simp only [World.cell?, h]
  simp [intCells, Array.getElem?_append, hi]
  exact (List.getElem?_eq_some_iff.1 hd).2
theorem Bk.thaw {w : World} {b : Nat} {ds : List Int} {r : Array Value} (h : Bk w b ds r) (i : Nat) : w.frozen? ⟨b, i, none⟩ = false := by
  unfold Bk at h
  simp [World.frozen?, h]
theorem Bk.set {w : World} {b : Nat} {ds : List Int} {r : Array Value} (h : Bk w b ds r) (i : Nat) (d : Int) (hi : i < ds.length) : Bk (w.setCell ⟨b, i, none⟩ (.int .i64 d)) b (ds.set i d) r := by
  unfold Bk at *
  rw [heap_setCell_same w b i _ _ _ h]
  have e : (intCells (ds.set i d)).toArray = (intCells ds).toArray.setIfInBounds i (.int .i64 d) := by
    simp [intCells, List.map_set]
  rw [e]
  have hl : i < (intCells ds).toArray.size := by simpa [intCells] using hi
  rw [Array.setIfInBounds_append_left hl]
theorem Bk.drewN {w : World} {b : Nat} {ds : List Int} {r : Array Value} (h : Bk w b ds r) (n : Nat) : Bk (w.drewN n) b ds r := h
theorem Bk.kp {w w' : World} {b z : Nat} {ds : List Int} {r : Array Value} (h : Bk w b ds r) (hk : Kp z w w') (hne : b ≠ z) : Bk w' b ds r := by
  unfold Bk at *
  rw [hk.block b (lt_of_block h) hne]; exact h
theorem Bk.below {w w' : World} {b : Nat} {ds : List Int} {r : Array Value} (h : Bk w b ds r) (hb : Below w.heap.size w w') : Bk w' b ds r := by
  unfold Bk at *
  rw [hb.block b (lt_of_block h)]; exact h
theorem Bk.lt {w : World} {b : Nat} {ds : List Int} {r : Array Value} (h : Bk w b ds r) : b < w.heap.size := lt_of_block h
theorem Bk.ro {w : World} {b c : Nat} {ds : List Int} {r : Array Value} (h : Bk w b ds r) (h1 : ds.length ≤ c) (h2 : c ≤ 9223372036854775807) : Ro w (.slice (some ⟨b, 0, none⟩) ds.length c) ds :=
  ⟨_, c, rfl, h1, h2, fun _ => ⟨_, rfl, h.lt, fun i d hd => by rw [Addr.add_lit, Nat.zero_add]; exact h.cell hd⟩⟩
/-- another cell, another block. -/
theorem Bk.other {w : World} {b : Nat} {ds : List Int} {r : Array Value} (h : Bk w b ds r) {g : Nat} (hne : b ≠ g) (i : Nat) (u : Value) : Bk (w.setCell ⟨g, i, none⟩ u) b ds r := by
  unfold Bk at *
  rw [Below.heap_setCell _ _ _ _ hne]; exact h
theorem Bk.low {w w' : World} {b B : Nat} {ds : List Int} {r : Array Value} (h : Bk w b ds r) (hb : Below B w w') (hB : b < B) : Bk w' b ds r := by
  unfold Bk at *
  rw [hb.block b hB]; exact h
end Go.Proofs.YtagnjmellcibhaaGreatDoor

namespace Go.Proofs.YtagnjmellcibhaaGreatDoor
open Go.RowKit
set_option linter.unusedVariables false

/-- v is a slice of the bools xs. -/
def Bl (w : World) (v : Value) (xs : List Bool) : Prop := ∃ (a : Option Addr) (c : Nat), v = .slice a xs.length c ∧ xs.length ≤ c ∧ c ≤ 9223372036854775807 ∧ (xs ≠ [] → ∃ x, a = some x ∧ x.block < w.heap.size ∧ ∀ i d, xs[i]? = some d → w.cell? (x.add i) = some (.bool d))
theorem Bl.below {w w' : World} {v : Value} {xs : List Bool} (h : Bl w v xs) (hb : Below w.heap.size w w') : Bl w' v xs := by
  obtain ⟨a, c, h1, h2, h3, h4⟩ := h
  refine ⟨a, c, h1, h2, h3, fun hx => ?_⟩
  obtain ⟨x, ha, hl, hc⟩ := h4 hx
  refine ⟨x, ha, Nat.lt_of_lt_of_le hl hb.size, fun i d hd => ?_⟩
  rw [hb.cell (p := x.add i) (by rw [add_block]; exact hl)]
  exact hc i d hd
theorem Bl.nil (w : World) : Bl w (.slice none 0 0) [] := ⟨none, 0, rfl, Nat.le_refl _, by omega, fun h => absurd rfl h⟩
theorem Bl.len {w : World} {v : Value} {xs : List Bool} (h : Bl w v xs) : ∃ a c, v = .slice a xs.length c := by
  obtain ⟨a, c, h, -⟩ := h
  exact ⟨a, c, h⟩
def boolCells (ds : List Bool) : List Value := ds.map fun d => .bool d
/-- block b holds the bools ds. -/
def Bb (w : World) (b : Nat) (ds : List Bool) : Prop := w.heap[b]? = some (.cells (boolCells ds).toArray 4 (0, 0))
theorem Bb.cell {w : World} {b : Nat} {ds : List Bool} (h : Bb w b ds) {i : Nat} {d : Bool} (hd : ds[i]? = some d) : w.cell? ⟨b, i, none⟩ = some (.bool d) := by
  have hi : i < ds.length := (List.getElem?_eq_some_iff.1 hd).1
  unfold Bb at h
  simp only [World.cell?, h]
  simp [boolCells, hi]
  exact (List.getElem?_eq_some_iff.1 hd).2
theorem Bb.thaw {w : World} {b : Nat} {ds : List Bool} (h : Bb w b ds) (i : Nat) : w.frozen? ⟨b, i, none⟩ = false := by
  unfold Bb at h
  simp [World.frozen?, h]
theorem Bb.set {w : World} {b : Nat} {ds : List Bool} (h : Bb w b ds) (i : Nat) (d : Bool) : Bb (w.setCell ⟨b, i, none⟩ (.bool d)) b (ds.set i d) := by
  unfold Bb at *
  rw [heap_setCell_same w b i _ _ _ h]
  have e : (boolCells (ds.set i d)).toArray = (boolCells ds).toArray.setIfInBounds i (.bool d) := by
    simp [boolCells, List.map_set]
  rw [e]
theorem Bb.lt {w : World} {b : Nat} {ds : List Bool} (h : Bb w b ds) : b < w.heap.size := lt_of_block h
theorem Bb.low {w w' : World} {b B : Nat} {ds : List Bool} (h : Bb w b ds) (hb : Below B w w') (hB : b < B) : Bb w' b ds := by
  unfold Bb at *
  rw [hb.block b hB]; exact h
theorem Bb.bl {w : World} {b c : Nat} {ds : List Bool} (h : Bb w b ds) (h1 : ds.length ≤ c) (h2 : c ≤ 9223372036854775807) : Bl w (.slice (some ⟨b, 0, none⟩) ds.length c) ds :=
  ⟨_, c, rfl, h1, h2, fun _ => ⟨_, rfl, h.lt, fun i d hd => by rw [Addr.add_lit, Nat.zero_add]; exact h.cell hd⟩⟩
theorem info_bool : (Tryz.prog.info? 4).map (fun i => (i.zero, i.size, i.bytes)) = some (some (.bool false), 1, 1) := by kernel_rfl
theorem made_bools (n : Nat) : madeCells #[Value.bool false] n = (boolCells (List.replicate n false)).toArray := by
  apply Array.ext_getElem?
  intro i
  unfold madeCells boolCells
  by_cases h : i < n
  · simp [h, Nat.mod_one]
  · simp [h]
theorem makeB (n : Nat) (w : World) (h : n ≤ 1000000) : ∃ w', (Instr.makeSlice 46 (.int .i64 (n : Nat)) (.int .i64 (n : Nat))).run Tryz.prog w = .ok (.slice (some ⟨w.heap.size, 0, none⟩) n n) w' ∧ Bb w' w.heap.size (List.replicate n false) ∧ Below w.heap.size w w' ∧ w'.heap.size = w.heap.size + 1 := by
  obtain ⟨i0, hi, hz0, hz1, hz2⟩ := info_parts info_bool
  have hr := run_make (P := Tryz.prog) w 46 4 i0 (.bool false) Tryz.underlying46 hi hz0 .i64 .i64 (n : Nat) (n : Nat) (by omega) (Int.le_refl _) (by rw [hz2]; omega) (by omega)
  refine ⟨_, hr, ?_, (Below.refl _ _).alloc (Nat.le_refl _) _, by simp⟩
  unfold Bb
  rw [hz1, Int.toNat_natCast, Nat.mul_one, heap_alloc_new]
  have e : (Value.bool false).cells = #[Value.bool false] := rfl
  rw [e, made_bools]
end Go.Proofs.YtagnjmellcibhaaGreatDoor

namespace Go.Proofs.YtagnjmellcibhaaGreatDoor
open Go.RowKit
set_option linter.unusedVariables false

/-- what is wrong with a world, or a player of it. -/
def pfault (ks : List KV) (X : WV) (p : Int) : Int := if Wd.wfault ks X = 0 then (if 0 ≤ p ∧ p < (X.gold.length : Int) then 0 else 1) else Wd.wfault ks X
/-- what is wrong with a world, or a cell of it. -/
def cfault (ks : List KV) (X : WV) (c : Int) : Int := if Wd.wfault ks X = 0 then (if 0 ≤ c ∧ c < (X.gs.length : Int) then 0 else 6) else Wd.wfault ks X
theorem pfault_zero {ks : List KV} {X : WV} {p : Int} (h : pfault ks X p = 0) : Wd.wfault ks X = 0 ∧ 0 ≤ p ∧ p < (X.gold.length : Int) := by
  unfold pfault at h
  split at h
  · rename_i h1
    split at h
    · rename_i h2; exact ⟨h1, h2⟩
    · cases h
  · rename_i h1; exact absurd h h1
theorem cfault_zero {ks : List KV} {X : WV} {c : Int} (h : cfault ks X c = 0) : Wd.wfault ks X = 0 ∧ 0 ≤ c ∧ c < (X.gs.length : Int) := by
  unfold cfault at h
  split at h
  · rename_i h1
    split at h
    · rename_i h2; exact ⟨h1, h2⟩
    · cases h
  · rename_i h1; exact absurd h h1
/-- what is seen of the first cells. -/
def seenUp (ks : List KV) (W : Nat) (X : WV) (p : Int) (n : Nat) : List Bool := (List.range X.gs.length).map (fun i => decide (i < n) && seesP ks W X.gs X.us p i)
theorem seenUp_len (ks : List KV) (W : Nat) (X : WV) (p : Int) (n : Nat) : (seenUp ks W X p n).length = X.gs.length := by unfold seenUp; simp
theorem seenUp_zero (ks : List KV) (W : Nat) (X : WV) (p : Int) : seenUp ks W X p 0 = List.replicate X.gs.length false := by
  unfold seenUp
  apply List.ext_getElem
  · simp
  · intro i h1 h2
    simp
theorem seenUp_all (ks : List KV) (W : Nat) (X : WV) (p : Int) : seenUp ks W X p X.gs.length = seenL ks W X p := by
  unfold seenUp seenL
  apply List.map_congr_left
  intro i hi
  simp [List.mem_range.1 hi]
theorem seenUp_next (ks : List KV) (W : Nat) (X : WV) (p : Int) (n : Nat) : seenUp ks W X p (n + 1) = (seenUp ks W X p n).set n (seesP ks W X.gs X.us p n) := by
  unfold seenUp
  apply List.ext_getElem
  · simp
  · intro i h1 h2
    rw [List.getElem_set]
    simp only [List.getElem_map, List.getElem_range]
    by_cases e : n = i
    · subst e; simp
    · rw [if_neg e]
      have : decide (i < n + 1) = decide (i < n) := decide_eq_decide.2 (by omega)
      rw [this]

set_option maxRecDepth 100000 in
set_option maxHeartbeats 4000000 in
theorem checkPlayer_any (vk vw : Value) (ks : List KV) (X : WV) (p : Int) (w : World) (hk : Kl w vk ks) (hb : ∀ k ∈ ks, k.b.size ≤ 9223372036854775807) (hw : Wl w vw X) :
    Calls Tryz.prog 43 #[vk, vw, .int .i64 p] w fun e w' => ∃ r, e = .returned r ∧ Er r (pfault ks X p) ∧ Below w.heap.size w w' := by
  have K : Hid (Kl w vk ks ∧ ∀ k ∈ ks, k.b.size ≤ 9223372036854775807) := ⟨hk, hb⟩
  have H : Hid (Wl w vw X) := hw
  obtain ⟨p1, q1, p2, q2, p3, q3, p4, q4, p5, q5, rfl⟩ := wl_shape9 hw
  obtain ⟨pk, qk, rfl, -⟩ := hk
  clear hb hw
  have B0 : Hid (Below w.heap.size w (w.alloc (Obj.cells #[.int .i64 X.turn, .int .i64 X.next, .int .i64 X.wide, .int .i64 X.high, .slice p1 X.gs.length q1, .slice p2 X.os.length q2, .slice p3 X.gold.length q3, .slice p4 X.us.length q4, .slice p5 X.qs.length q5] 29))) := (Below.refl _ _).alloc (Nat.le_refl _) _
  have X0 : Hid (Bw (w.alloc (Obj.cells #[.int .i64 X.turn, .int .i64 X.next, .int .i64 X.wide, .int .i64 X.high, .slice p1 X.gs.length q1, .slice p2 X.os.length q2, .slice p3 X.gold.length q3, .slice p4 X.us.length q4, .slice p5 X.qs.length q5] 29)) w.heap.size X (.slice p1 X.gs.length q1) (.slice p2 X.os.length q2) (.slice p3 X.gold.length q3) (.slice p4 X.us.length q4) (.slice p5 X.qs.length q5)) := Bw.mk' X _ _ _ _ _ rfl
  go_enter Tryz.func43, Tryz.ntmps43
  go_upto_region 1 with fail
  generalize (w.alloc (Obj.cells #[.int .i64 X.turn, .int .i64 X.next, .int .i64 X.wide, .int .i64 X.high, .slice p1 X.gs.length q1, .slice p2 X.os.length q2, .slice p3 X.gold.length q3, .slice p4 X.us.length q4, .slice p5 X.qs.length q5] 29)) = w0 at *
  obtain ⟨x0, x1, x2, x3, x4, x5, x6, x7, x8⟩ := X0.out
  go_wp2_with fail
  refine (wcheck_any _ _ ks X w0 (K.out.1.below B0.out) K.out.2 (H.out.below B0.out)).mono ?_
  rintro e w1 ⟨r, rfl, hr, hb⟩
  obtain ⟨fw, hfw⟩ : ∃ f, Wd.wfault ks X = f := ⟨_, rfl⟩
  have FW : Hid (Wd.wfault ks X = fw) := hfw
  rw [hfw] at hr
  have B1 : Hid (Below w.heap.size w w1) := B0.out.trans (hb.mono B0.out.size)
  have X1 : Hid (Bw w1 w.heap.size X (.slice p1 X.gs.length q1) (.slice p2 X.os.length q2) (.slice p3 X.gold.length q3) (.slice p4 X.us.length q4) (.slice p5 X.qs.length q5)) := X0.out.below hb X0.out.lt
  clear hb hfw x0 x1 x2 x3 x4 x5 x6 x7 x8 X0 B0
  rcases hr with ⟨rfl, rfl⟩ | ⟨hf, rfl⟩
  case inr =>
    have HF : Hid (fw ≠ 0) := hf
    clear hf
    have PF : Hid (pfault ks X p = fw) := by unfold Hid pfault; rw [FW.out, if_neg HF.out]
    go_wp2
    go_ret
    exact ⟨_, rfl, by rw [PF.out]; exact Er.no HF.out, B1.out⟩
  obtain ⟨x0, x1, x2, x3, x4, x5, x6, x7, x8⟩ := X1.out
  by_cases hi0 : p < 0
  · have PF : Hid (pfault ks X p = 1) := by unfold Hid pfault; rw [FW.out, if_pos rfl, if_neg (by omega)]
    go_wp2
    go_ret
    exact ⟨_, rfl, by rw [PF.out]; exact Er.no (by decide), B1.out⟩
  by_cases hi1 : (X.gold.length : Int) ≤ p
  · have PF : Hid (pfault ks X p = 1) := by unfold Hid pfault; rw [FW.out, if_pos rfl, if_neg (by omega)]
    go_wp2
    go_ret
    exact ⟨_, rfl, by rw [PF.out]; exact Er.no (by decide), B1.out⟩
  have PF : Hid (pfault ks X p = 0) := by unfold Hid pfault; rw [FW.out, if_pos rfl, if_pos (by omega)]
  go_wp2
  go_ret
  exact ⟨_, rfl, by rw [PF.out]; exact Er.nil, B1.out⟩

set_option maxRecDepth 100000 in
set_option maxHeartbeats 4000000 in
theorem seen_any (vk vw : Value) (ks : List KV) (X : WV) (p : Int) (Wn : Nat) (w : World) (WR : WRight ks X) (hww : X.wide = (Wn : Nat)) (hk : Kl w vk ks) (hb : ∀ k ∈ ks, k.b.size ≤ 9223372036854775807) (hw : Wl w vw X) :
    Calls Tryz.prog 44 #[vk, vw, .int .i64 p] w fun e w' => ∃ b, e = .returned (.slice (some ⟨b, 0, none⟩) X.gs.length X.gs.length) ∧ Bb w' b (seenL ks Wn X p) ∧ w.heap.size < b ∧ Below w.heap.size w w' := by
  have HR : Hid (WRight ks X ∧ X.wide = (Wn : Nat)) := ⟨WR, hww⟩
  have GL : X.gs.length ≤ 144 := by obtain ⟨_, _, -, -, G⟩ := WR.good; rw [G.gl]; exact G.pos.2
  clear WR hww
  have K : Hid (Kl w vk ks ∧ ∀ k ∈ ks, k.b.size ≤ 9223372036854775807) := ⟨hk, hb⟩
  have H : Hid (Wl w vw X) := hw
  obtain ⟨p1, q1, p2, q2, p3, q3, p4, q4, p5, q5, rfl⟩ := wl_shape9 hw
  obtain ⟨pk, qk, rfl, -⟩ := hk
  clear hb hw
  have B0 : Hid (Below w.heap.size w (w.alloc (Obj.cells #[.int .i64 X.turn, .int .i64 X.next, .int .i64 X.wide, .int .i64 X.high, .slice p1 X.gs.length q1, .slice p2 X.os.length q2, .slice p3 X.gold.length q3, .slice p4 X.us.length q4, .slice p5 X.qs.length q5] 29))) := (Below.refl _ _).alloc (Nat.le_refl _) _
  have X0 : Hid (Bw (w.alloc (Obj.cells #[.int .i64 X.turn, .int .i64 X.next, .int .i64 X.wide, .int .i64 X.high, .slice p1 X.gs.length q1, .slice p2 X.os.length q2, .slice p3 X.gold.length q3, .slice p4 X.us.length q4, .slice p5 X.qs.length q5] 29)) w.heap.size X (.slice p1 X.gs.length q1) (.slice p2 X.os.length q2) (.slice p3 X.gold.length q3) (.slice p4 X.us.length q4) (.slice p5 X.qs.length q5)) := Bw.mk' X _ _ _ _ _ rfl
  go_enter Tryz.func44, Tryz.ntmps44
  go_upto_region 1 with fail
  generalize (w.alloc (Obj.cells #[.int .i64 X.turn, .int .i64 X.next, .int .i64 X.wide, .int .i64 X.high, .slice p1 X.gs.length q1, .slice p2 X.os.length q2, .slice p3 X.gold.length q3, .slice p4 X.us.length q4, .slice p5 X.qs.length q5] 29)) = w0 at *
  have x4 := X0.out.c4
  obtain ⟨w1, hmk, hbk, hb1, hs1⟩ := makeB X.gs.length w0 (by omega)
  go_upto_region 2 with fail
  have BK : Hid (Bb w1 w0.heap.size (seenUp ks Wn X p 0)) := by unfold Hid; rw [seenUp_zero]; exact hbk
  have B1 : Hid (Below w.heap.size w w1) := B0.out.trans (hb1.mono B0.out.size)
  have X1 : Hid (Bw w1 w.heap.size X (.slice p1 X.gs.length q1) (.slice p2 X.os.length q2) (.slice p3 X.gold.length q3) (.slice p4 X.us.length q4) (.slice p5 X.qs.length q5)) := X0.out.below hb1 X0.out.lt
  obtain ⟨lb, hlb⟩ : ∃ z, w0.heap.size = z := ⟨_, rfl⟩
  have LB : Hid (w.heap.size < lb) := by unfold Hid; rw [← hlb]; exact X0.out.lt
  rw [hlb] at BK ⊢
  clear hmk hbk hb1 hs1 x4 hlb B0 X0
  go_wp2_with fail
  go_loopw [16] (fun i V => ∃ n : Nat, i = .int .i64 (n : Nat) ∧ n ≤ X.gs.length ∧ Bb V lb (seenUp ks Wn X p n) ∧ Bw V w.heap.size X (.slice p1 X.gs.length q1) (.slice p2 X.os.length q2) (.slice p3 X.gold.length q3) (.slice p4 X.us.length q4) (.slice p5 X.qs.length q5) ∧ Below w.heap.size w V) (fun i _ => X.gs.length - (intOf i).toNat)
  case atStart => exact ⟨0, rfl, Nat.zero_le _, BK.out, X1.out, B1.out⟩
  case round =>
    obtain ⟨n, rfl, hn, hbb, hx, hb⟩ := hrel
    clear BK X1 B1
    have BK : Hid (Bb wr lb (seenUp ks Wn X p n)) := hbb
    have X1 : Hid (Bw wr w.heap.size X (.slice p1 X.gs.length q1) (.slice p2 X.os.length q2) (.slice p3 X.gold.length q3) (.slice p4 X.us.length q4) (.slice p5 X.qs.length q5)) := hx
    have B1 : Hid (Below w.heap.size w wr) := hb
    clear hbb hx hb
    by_cases h0 : n = X.gs.length
    · subst h0
      go_wp2
      go_ret
      exact ⟨lb, rfl, by have := BK.out; rw [seenUp_all] at this; exact this, LB.out, B1.out⟩
    · have hnl : n < X.gs.length := by omega
      have hni : ((n : Nat) : Int) < (X.gs.length : Nat) := by omega
      have hnl2 : Hid (n < X.gs.length) := hnl
      have WN : IntKind.i64.wrap ((n : Nat) + 1 : Int) = ((n : Nat) : Int) + 1 := by rw [IntKind.wrap_i64]; omega
      obtain ⟨x0, x1, x2, x3, x4, x5, x6, x7, x8⟩ := X1.out
      go_wp2_with fail
      refine (doesSee_any _ _ ks X p Wn n wr HR.out.1 HR.out.2 hnl2.out (K.out.1.below B1.out) (H.out.below B1.out)).mono ?_
      rintro e w2 ⟨rfl, hb⟩
      have B2 : Hid (Below w.heap.size w w2) := B1.out.trans (hb.mono B1.out.size)
      have X2 : Hid (Bw w2 w.heap.size X (.slice p1 X.gs.length q1) (.slice p2 X.os.length q2) (.slice p3 X.gold.length q3) (.slice p4 X.us.length q4) (.slice p5 X.qs.length q5)) := X1.out.below hb X1.out.lt
      have BK2 : Hid (Bb w2 lb (seenUp ks Wn X p n)) := BK.out.low hb BK.out.lt
      obtain ⟨t, ht⟩ : ∃ t, seesP ks Wn X.gs X.us p n = t := ⟨_, rfl⟩
      have NX : Hid (seenUp ks Wn X p (n + 1) = (seenUp ks Wn X p n).set n t) := by unfold Hid; rw [seenUp_next, ht]
      obtain ⟨y, hy⟩ : ∃ y, (seenUp ks Wn X p n)[n]? = some y := ⟨_, List.getElem?_eq_getElem (by rw [seenUp_len]; exact hnl2.out)⟩
      have cy := BK2.out.cell hy
      have ty := BK2.out.thaw n
      rw [ht]
      clear hb ht hy x0 x1 x2 x3 x4 x5 x6 x7 x8 BK B1 X1
      have K3 : Hid (Kp lb w2 (w2.setCell ⟨lb, n, none⟩ (.bool t))) := Kp.set _ _ _
      have BK3 : Hid (Bb (w2.setCell ⟨lb, n, none⟩ (.bool t)) lb ((seenUp ks Wn X p n).set n t)) := BK2.out.set n t
      go_wp2
      generalize (w2.setCell ⟨lb, n, none⟩ (.bool t)) = w3 at *
      go_round
      case rel => exact ⟨n + 1, by go_num, by have := hnl2.out; omega, by rw [NX.out]; exact BK3.out, X2.out.kp9 K3.out (by have := LB.out; omega), K3.out.below B2.out B2.out.size (by have := LB.out; omega)⟩
      case measure => simp [intOf]; omega

/-- what Seen tells. -/
def SeenSays (ks : List KV) (X : WV) (p : Int) (w' : World) (v : Value) : Prop :=
  (pfault ks X p ≠ 0 ∧ v = .slice none 0 0) ∨ (pfault ks X p = 0 ∧ ∃ Wn : Nat, X.wide = (Wn : Nat) ∧ Bl w' v (seenL ks Wn X p))
set_option maxRecDepth 100000 in
set_option maxHeartbeats 4000000 in
theorem Seen_any (vk vw : Value) (ks : List KV) (X : WV) (p : Int) (w : World) (hk : Kl w vk ks) (hb : ∀ k ∈ ks, k.b.size ≤ 9223372036854775807) (hw : Wl w vw X) :
    Calls Tryz.prog 15 #[vk, vw, .int .i64 p] w fun e w' => ∃ v r, e = .returned (.tuple #[v, r]) ∧ Er r (pfault ks X p) ∧ SeenSays ks X p w' v ∧ Below w.heap.size w w' := by
  have K : Hid (Kl w vk ks ∧ ∀ k ∈ ks, k.b.size ≤ 9223372036854775807) := ⟨hk, hb⟩
  have H : Hid (Wl w vw X) := hw
  obtain ⟨p1, q1, p2, q2, p3, q3, p4, q4, p5, q5, rfl⟩ := wl_shape9 hw
  obtain ⟨pk, qk, rfl, -⟩ := hk
  clear hb hw
  have B0 : Hid (Below w.heap.size w (w.alloc (Obj.cells #[.int .i64 X.turn, .int .i64 X.next, .int .i64 X.wide, .int .i64 X.high, .slice p1 X.gs.length q1, .slice p2 X.os.length q2, .slice p3 X.gold.length q3, .slice p4 X.us.length q4, .slice p5 X.qs.length q5] 29))) := (Below.refl _ _).alloc (Nat.le_refl _) _
  have X0 : Hid (Bw (w.alloc (Obj.cells #[.int .i64 X.turn, .int .i64 X.next, .int .i64 X.wide, .int .i64 X.high, .slice p1 X.gs.length q1, .slice p2 X.os.length q2, .slice p3 X.gold.length q3, .slice p4 X.us.length q4, .slice p5 X.qs.length q5] 29)) w.heap.size X (.slice p1 X.gs.length q1) (.slice p2 X.os.length q2) (.slice p3 X.gold.length q3) (.slice p4 X.us.length q4) (.slice p5 X.qs.length q5)) := Bw.mk' X _ _ _ _ _ rfl
  go_enter Tryz.func15, Tryz.ntmps15
  go_upto_region 1 with fail
  generalize (w.alloc (Obj.cells #[.int .i64 X.turn, .int .i64 X.next, .int .i64 X.wide, .int .i64 X.high, .slice p1 X.gs.length q1, .slice p2 X.os.length q2, .slice p3 X.gold.length q3, .slice p4 X.us.length q4, .slice p5 X.qs.length q5] 29)) = w0 at *
  obtain ⟨x0, x1, x2, x3, x4, x5, x6, x7, x8⟩ := X0.out
  go_wp2_with fail
  refine (checkPlayer_any _ _ ks X p w0 (K.out.1.below B0.out) K.out.2 (H.out.below B0.out)).mono ?_
  rintro e w1 ⟨r, rfl, hr, hb⟩
  obtain ⟨fw, hfw⟩ : ∃ f, pfault ks X p = f := ⟨_, rfl⟩
  have FW : Hid (pfault ks X p = fw) := hfw
  rw [hfw] at hr
  have B1 : Hid (Below w.heap.size w w1) := B0.out.trans (hb.mono B0.out.size)
  have X1 : Hid (Bw w1 w.heap.size X (.slice p1 X.gs.length q1) (.slice p2 X.os.length q2) (.slice p3 X.gold.length q3) (.slice p4 X.us.length q4) (.slice p5 X.qs.length q5)) := X0.out.below hb X0.out.lt
  clear hb hfw x0 x1 x2 x3 x4 x5 x6 x7 x8 X0 B0
  rcases hr with ⟨rfl, rfl⟩ | ⟨hf, rfl⟩
  case inr =>
    have HF : Hid (fw ≠ 0) := hf
    clear hf
    go_wp2
    go_ret2
    exact ⟨_, _, rfl, by rw [FW.out]; exact Er.no HF.out, .inl ⟨by rw [FW.out]; exact HF.out, rfl⟩, B1.out⟩
  have WR : Hid (WRight ks X) := wright_of (pfault_zero FW.out).1
  obtain ⟨Wn, Hn, e1, e2, G⟩ := WR.out.good
  have GD : Hid (X.wide = (Wn : Nat) ∧ X.gs.length ≤ 144) := ⟨e1, by rw [G.gl]; exact G.pos.2⟩
  clear e1 e2 G
  obtain ⟨x0, x1, x2, x3, x4, x5, x6, x7, x8⟩ := X1.out
  go_wp2_with fail
  refine (seen_any _ _ ks X p Wn w1 WR.out GD.out.1 (K.out.1.below B1.out) K.out.2 (H.out.below B1.out)).mono ?_
  rintro e w2 ⟨b, rfl, hbb, -, hb⟩
  have B2 : Hid (Below w.heap.size w w2) := B1.out.trans (hb.mono B1.out.size)
  have BL : Hid (Bl w2 (.slice (some ⟨b, 0, none⟩) X.gs.length X.gs.length) (seenL ks Wn X p)) := by
    have h := hbb.bl (c := X.gs.length) (by rw [seen_len]; exact Nat.le_refl _) (by have := GD.out.2; omega)
    rw [seen_len] at h
    exact h
  clear hb hbb x0 x1 x2 x3 x4 x5 x6 x7 x8
  go_wp2
  go_ret2
  exact ⟨_, _, rfl, by rw [FW.out]; exact Er.nil, .inr ⟨FW.out, Wn, GD.out.1, BL.out⟩, B2.out⟩

/-- what Seers tells. -/
def SeersSays (ks : List KV) (X : WV) (c : Int) (w' : World) (v : Value) : Prop :=
  (cfault ks X c ≠ 0 ∧ v = .slice none 0 0) ∨ (cfault ks X c = 0 ∧ ∃ Wn : Nat, X.wide = (Wn : Nat) ∧ Ro w' v (seersL ks Wn X c.toNat))
set_option maxRecDepth 100000 in
set_option maxHeartbeats 4000000 in
theorem Seers_any (vk vw : Value) (ks : List KV) (X : WV) (c : Int) (w : World) (hk : Kl w vk ks) (hb : ∀ k ∈ ks, k.b.size ≤ 9223372036854775807) (hw : Wl w vw X) :
    Calls Tryz.prog 18 #[vk, vw, .int .i64 c] w fun e w' => ∃ v r, e = .returned (.tuple #[v, r]) ∧ Er r (cfault ks X c) ∧ SeersSays ks X c w' v ∧ Below w.heap.size w w' := by
  have K : Hid (Kl w vk ks ∧ ∀ k ∈ ks, k.b.size ≤ 9223372036854775807) := ⟨hk, hb⟩
  have H : Hid (Wl w vw X) := hw
  obtain ⟨p1, q1, p2, q2, p3, q3, p4, q4, p5, q5, rfl⟩ := wl_shape9 hw
  obtain ⟨pk, qk, rfl, -⟩ := hk
  clear hb hw
  have B0 : Hid (Below w.heap.size w (w.alloc (Obj.cells #[.int .i64 X.turn, .int .i64 X.next, .int .i64 X.wide, .int .i64 X.high, .slice p1 X.gs.length q1, .slice p2 X.os.length q2, .slice p3 X.gold.length q3, .slice p4 X.us.length q4, .slice p5 X.qs.length q5] 29))) := (Below.refl _ _).alloc (Nat.le_refl _) _
  have X0 : Hid (Bw (w.alloc (Obj.cells #[.int .i64 X.turn, .int .i64 X.next, .int .i64 X.wide, .int .i64 X.high, .slice p1 X.gs.length q1, .slice p2 X.os.length q2, .slice p3 X.gold.length q3, .slice p4 X.us.length q4, .slice p5 X.qs.length q5] 29)) w.heap.size X (.slice p1 X.gs.length q1) (.slice p2 X.os.length q2) (.slice p3 X.gold.length q3) (.slice p4 X.us.length q4) (.slice p5 X.qs.length q5)) := Bw.mk' X _ _ _ _ _ rfl
  go_enter Tryz.func18, Tryz.ntmps18
  go_upto_region 1 with fail
  generalize (w.alloc (Obj.cells #[.int .i64 X.turn, .int .i64 X.next, .int .i64 X.wide, .int .i64 X.high, .slice p1 X.gs.length q1, .slice p2 X.os.length q2, .slice p3 X.gold.length q3, .slice p4 X.us.length q4, .slice p5 X.qs.length q5] 29)) = w0 at *
  obtain ⟨x0, x1, x2, x3, x4, x5, x6, x7, x8⟩ := X0.out
  go_wp2_with fail
  refine (wcheck_any _ _ ks X w0 (K.out.1.below B0.out) K.out.2 (H.out.below B0.out)).mono ?_
  rintro e w1 ⟨r, rfl, hr, hb⟩
  obtain ⟨fw, hfw⟩ : ∃ f, Wd.wfault ks X = f := ⟨_, rfl⟩
  have FW : Hid (Wd.wfault ks X = fw) := hfw
  rw [hfw] at hr
  have B1 : Hid (Below w.heap.size w w1) := B0.out.trans (hb.mono B0.out.size)
  have X1 : Hid (Bw w1 w.heap.size X (.slice p1 X.gs.length q1) (.slice p2 X.os.length q2) (.slice p3 X.gold.length q3) (.slice p4 X.us.length q4) (.slice p5 X.qs.length q5)) := X0.out.below hb X0.out.lt
  clear hb hfw x0 x1 x2 x3 x4 x5 x6 x7 x8 X0 B0
  rcases hr with ⟨rfl, rfl⟩ | ⟨hf, rfl⟩
  case inr =>
    have HF : Hid (fw ≠ 0) := hf
    clear hf
    have PF : Hid (cfault ks X c = fw) := by unfold Hid cfault; rw [FW.out, if_neg HF.out]
    go_wp2
    go_ret2
    exact ⟨_, _, rfl, by rw [PF.out]; exact Er.no HF.out, .inl ⟨by rw [PF.out]; exact HF.out, rfl⟩, B1.out⟩
  obtain ⟨x0, x1, x2, x3, x4, x5, x6, x7, x8⟩ := X1.out
  by_cases hi0 : c < 0
  · have PF : Hid (cfault ks X c = 6) := by unfold Hid cfault; rw [FW.out, if_pos rfl, if_neg (by omega)]
    go_wp2
    go_ret2
    exact ⟨_, _, rfl, by rw [PF.out]; exact Er.no (by decide), .inl ⟨by rw [PF.out]; decide, rfl⟩, B1.out⟩
  by_cases hi1 : (X.gs.length : Int) ≤ c
  · have PF : Hid (cfault ks X c = 6) := by unfold Hid cfault; rw [FW.out, if_pos rfl, if_neg (by omega)]
    go_wp2
    go_ret2
    exact ⟨_, _, rfl, by rw [PF.out]; exact Er.no (by decide), .inl ⟨by rw [PF.out]; decide, rfl⟩, B1.out⟩
  have PF : Hid (cfault ks X c = 0) := by unfold Hid cfault; rw [FW.out, if_pos rfl, if_pos (by omega)]
  obtain ⟨c, rfl⟩ : ∃ n : Nat, c = n := ⟨c.toNat, by omega⟩
  have hcl : Hid (c < X.gs.length) := by unfold Hid; omega
  have WR : Hid (WRight ks X) := wright_of FW.out
  obtain ⟨Wn, Hn, e1, e2, G⟩ := WR.out.good
  have GD : Hid (X.wide = (Wn : Nat)) := e1
  have GO : Hid (X.gold.length ≤ 4) := by have := (nums_ok WR.out.nums).2; unfold Hid; omega
  have hj0 : decide (((c : Nat) : Int) < 0) = false := decide_eq_false hi0
  have hj1 : decide (X.gs.length ≤ c) = false := decide_eq_false (by omega)
  clear e1 e2 G
  go_wp2_with fail
  clear hi0 hi1 hj0 hj1 x0 x1 x2 x3 x4 x5 x6 x7 x8
  obtain ⟨b1, hb1⟩ : ∃ z, w1.heap.size = z := ⟨_, rfl⟩
  have LB : Hid (w.heap.size < b1) := by unfold Hid; rw [← hb1]; exact X1.out.lt
  have SZ : Hid (b1 ≤ w1.heap.size) := by unfold Hid; rw [hb1]; exact Nat.le_refl _
  clear hb1
  go_loopw [9, 31] (fun l i V => ∃ (n : Nat) (lv : Value), i = .int .i64 (n : Nat) ∧ lv = l ∧ n ≤ X.gold.length ∧ Ow V b1 lv (seersUp ks Wn X c n) ∧ Below b1 w1 V) (fun _ i _ => X.gold.length - (intOf i).toNat)
  case atStart => exact ⟨0, _, rfl, rfl, Nat.zero_le _, Ow.nil _ _, Below.refl _ _⟩
  case round =>
    obtain ⟨n, lv, rfl, rfl, hn, ho, hb⟩ := hrel
    have OW : Hid (Ow wr b1 lv (seersUp ks Wn X c n)) := ho
    have BB : Hid (Below b1 w1 wr) := hb
    have B2 : Hid (Below w.heap.size w wr) := B1.out.trans (hb.mono (Nat.le_of_lt LB.out))
    have X2 : Hid (Bw wr w.heap.size X (.slice p1 X.gs.length q1) (.slice p2 X.os.length q2) (.slice p3 X.gold.length q3) (.slice p4 X.us.length q4) (.slice p5 X.qs.length q5)) := X1.out.below hb LB.out
    clear ho hb
    by_cases h0 : n = X.gold.length
    · subst h0
      go_wp2
      go_ret2
      exact ⟨_, _, rfl, by rw [PF.out]; exact Er.nil, .inr ⟨PF.out, Wn, GD.out, OW.out.ro⟩, B2.out⟩
    · have hnl : n < X.gold.length := by omega
      have hni : ((n : Nat) : Int) < (X.gold.length : Nat) := by omega
      have HN : Hid (n < X.gold.length) := hnl
      have WN : IntKind.i64.wrap ((n : Nat) + 1 : Int) = ((n : Nat) : Int) + 1 := by have := GO.out; rw [IntKind.wrap_i64]; omega
      obtain ⟨xs, hxs⟩ : ∃ l, seersUp ks Wn X c n = l := ⟨_, rfl⟩
      have LX : Hid (xs.length ≤ 4) := by have h1 := seersUp_len ks Wn X c n; have := GO.out; unfold Hid; rw [← hxs]; omega
      have NX := seers_next ks Wn X c n
      rw [hxs] at OW NX
      clear hxs
      obtain ⟨x0, x1, x2, x3, x4, x5, x6, x7, x8⟩ := X2.out
      go_wp2_with fail
      refine (doesSee_any _ _ ks X (n : Nat) Wn c wr WR.out GD.out hcl.out (K.out.1.below B2.out) (H.out.below B2.out)).mono ?_
      rintro e w2 ⟨rfl, hb⟩
      have BB2 : Hid (Below b1 w1 w2) := BB.out.trans (hb.mono (Nat.le_trans SZ.out BB.out.size))
      have OW2 : Hid (Ow w2 b1 lv xs) := OW.out.below hb
      have S2 : Hid (b1 ≤ w2.heap.size) := Nat.le_trans SZ.out BB2.out.size
      obtain ⟨t, ht⟩ : ∃ t, seesP ks Wn X.gs X.us (n : Nat) c = t := ⟨_, rfl⟩
      rw [ht] at NX ⊢
      clear hb ht x0 x1 x2 x3 x4 x5 x6 x7 x8 BB OW B2 X2
      cases t with
      | false =>
        have NY : Hid (seersUp ks Wn X c (n + 1) = xs) := by unfold Hid; rw [NX]; simp
        clear NX
        go_wp2
        go_round
        case rel => exact ⟨n + 1, _, by go_num, rfl, by have := HN.out; omega, by rw [NY.out]; exact OW2.out, BB2.out⟩
        case measure => simp [intOf]; omega
      | true =>
        have NY : Hid (seersUp ks Wn X c (n + 1) = xs ++ [((n : Nat) : Int)]) := by unfold Hid; rw [NX]; simp
        clear NX
        go_wp2_with (at_builtin; refine app_int _ rfl _ _ rfl b1 _ xs rfl (OW2.out.alloc _) ⟨w2.heap.size, 0, none⟩ (n : Nat) rfl (by simp) (by have := LX.out; omega) (by have := S2.out; simp; omega) ?_)
        intro g cap w6 o6 g6 _ _
        have O6 : Hid (Ow w6 b1 (.slice (some ⟨g, 0, none⟩) (xs.length + 1) cap) (xs ++ [((n : Nat) : Int)])) := o6
        have hob : ∀ k, lv.ownBlock = some k → b1 ≤ k := fun k hk => (OW2.out.block k hk).1
        have B6 : Hid (Below b1 w1 w6) := BB2.out.trans (((Below.refl _ _).alloc S2.out _).grown g6 (by have := S2.out; simp; omega) hob)
        clear o6 g6 hob OW2 BB2 S2
        go_wp2
        go_round
        case rel => exact ⟨n + 1, _, by go_num, rfl, by have := HN.out; omega, by rw [NY.out]; exact O6.out, B6.out⟩
        case measure => simp [intOf]; omega
end Go.Proofs.YtagnjmellcibhaaGreatDoor

namespace Go.Proofs.YtagnjmellcibhaaGreatDoor
open Go.RowKit

set_option maxHeartbeats 400000 in
theorem ref_root (n : Int) (w : World) (h0 : 0 ≤ n) (h1 : n ≤ 9223372036854775807) :
    Calls Tryz.prog 96 #[.int .i64 n] w fun e w' => ∃ r, Ma.Sq r n ∧ e = .returned (.int .i64 r) ∧ w' = w := by
  go_enter Tryz.func96, Tryz.ntmps96
  go_wp2
  go_loop [3, 4] (fun low high => ∃ l h : Int, low = .int .i64 l ∧ high = .int .i64 h ∧ 0 ≤ l ∧ l < h ∧ h ≤ 3037000500 ∧ l * l ≤ n ∧ n < h * h) (fun low high => (intOf high - intOf low).toNat)
  case atStart => exact ⟨0, 3037000500, rfl, rfl, by omega, by omega, by omega, by omega, by omega⟩
  case round =>
    obtain ⟨l, h, rfl, rfl, l0, lh, hh, hl, hu⟩ := hrel
    by_cases ht : 1 < h - l
    · have Hl : Hid (l * l ≤ n) := hl
      have Hu : Hid (n < h * h) := hu
      clear hl hu
      have m1 : l < (l + h) / 2 := by omega
      have m2 : (l + h) / 2 < h := by omega
      have m3 := Ma.mul_mono ((l + h) / 2) 3037000499 (by omega) (by omega)
      have m4 := Int.mul_nonneg (a := (l + h) / 2) (b := (l + h) / 2) (by omega) (by omega)
      by_cases hm : (l + h) / 2 * ((l + h) / 2) ≤ n
      · go_wp2
        go_round
        case rel => exact ⟨(l + h) / 2, h, rfl, rfl, by omega, m2, hh, hm, Hu⟩
        case measure => simp [intOf]; omega
      · go_wp2
        go_round
        case rel => exact ⟨l, (l + h) / 2, rfl, rfl, l0, m1, by omega, Hl, by omega⟩
        case measure => simp [intOf]; omega
    · have e : h = l + 1 := by omega
      subst e
      have Hl : Hid (Ma.Sq l n) := ⟨l0, hl, hu⟩
      clear hl hu
      go_wp2
      go_ret
      exact ⟨l, Hl, rfl, rfl⟩

set_option maxHeartbeats 400000 in
theorem ref_far (a b c d : Int) (w : World) (ha : In6 a) (hb : In6 b) (hc : In6 c) (hd : In6 d) :
    Calls Tryz.prog 65 #[.int .i64 a, .int .i64 b, .int .i64 c, .int .i64 d] w fun e w' => ∃ r, Ma.Sq r ((a - c) * (a - c) + (b - d) * (b - d)) ∧ e = .returned (.int .i64 r) ∧ w' = w := by
  obtain ⟨ha1, ha2⟩ := ha
  obtain ⟨hb1, hb2⟩ := hb
  obtain ⟨hc1, hc2⟩ := hc
  obtain ⟨hd1, hd2⟩ := hd
  obtain ⟨s10, s11⟩ := sqb (a - c) (by omega) (by omega)
  obtain ⟨s20, s21⟩ := sqb (b - d) (by omega) (by omega)
  go_enter Tryz.func65, Tryz.ntmps65
  go_wp2_with (go_at_call 96; refine (ref_root _ _ (by omega) (by omega)).mono ?_; rintro e w' ⟨r, hr, rfl, rfl⟩)
  go_ret
  exact ⟨r, hr, rfl, rfl⟩
end Go.Proofs.YtagnjmellcibhaaGreatDoor

namespace Go.Proofs.YtagnjmellcibhaaGreatDoor
open Go.RowKit
set_option linter.unusedVariables false

theorem sq_ex (n : Nat) : ∃ r : Int, Ma.Sq r n := by
  induction n with
  | zero => exact ⟨0, by decide, by decide, by decide⟩
  | succ n ih =>
    obtain ⟨r, h0, h1, h2⟩ := ih
    by_cases h : ((n + 1 : Nat) : Int) < (r + 1) * (r + 1)
    · exact ⟨r, h0, by omega, h⟩
    · have e := Ma.sq_expand (r + 1) 1
      exact ⟨r + 1, by omega, by omega, by omega⟩

set_option maxHeartbeats 1000000 in
theorem ref_apart (v : Value) (W H : Nat) (gs os : List Int) (a b : Nat) (r : Int) (w : World) (h : Fl w v W H gs os) (h1 : 0 < W) (h2 : W ≤ 12) (h3 : H ≤ 12) (ha : a < W * H) (hb : b < W * H)
    (hr : Ma.Sq r ((((a % W : Nat) : Int) - (b % W : Nat)) * (((a % W : Nat) : Int) - (b % W : Nat)) + (((a / W : Nat) : Int) - (b / W : Nat)) * (((a / W : Nat) : Int) - (b / W : Nat)))) :
    Calls Tryz.prog 41 #[v, .int .i64 (a : Nat), .int .i64 (b : Nat)] w fun e w' => e = .returned (.int .i64 r) ∧ Below w.heap.size w w' := by
  obtain ⟨u1, u2, rfl, -, -⟩ := h
  have hm : W * H ≤ 144 := Nat.mul_le_mul h2 h3
  have a1 : a / W < H := Nat.div_lt_of_lt_mul ha
  have a2 : b / W < H := Nat.div_lt_of_lt_mul hb
  have a3 := Nat.mod_lt a h1
  have a4 := Nat.mod_lt b h1
  have e1 : (a : Int) % (W : Int) = (a % W : Nat) := rfl
  have e2 : (a : Int) / (W : Int) = (a / W : Nat) := rfl
  have e3 : (b : Int) % (W : Int) = (b % W : Nat) := rfl
  have e4 : (b : Int) / (W : Int) = (b / W : Nat) := rfl
  have A1 : a ≤ 144 := by omega
  have B1 : b ≤ 144 := by omega
  generalize a % W = p at *
  generalize a / W = m at *
  generalize b % W = q at *
  generalize b / W = n at *
  have hw : ¬ (W : Int) = 0 := by omega
  have K : Hid (∀ W', Calls Tryz.prog 65 #[.int .i64 (p : Nat), .int .i64 (m : Nat), .int .i64 (q : Nat), .int .i64 (n : Nat)] W' fun e w' => e = .returned (.int .i64 r) ∧ w' = W') := fun W' =>
    (ref_far p m q n W' ⟨by omega, by omega⟩ ⟨by omega, by omega⟩ ⟨by omega, by omega⟩ ⟨by omega, by omega⟩).mono fun e w' ⟨r', h1, h2, h3⟩ => ⟨by rw [h2, Ma.sq_uniq _ _ _ h1 hr], h3⟩
  have m1 : m ≤ 144 := by omega
  have n1 : n ≤ 144 := by omega
  clear ha hb hr a1 a2 a3 a4
  generalize hw0 : w.alloc (Obj.cells #[.int .i64 (W : Nat), .int .i64 (H : Nat), u1, u2] 25) = w0
  have B0 : Hid (Below w.heap.size w w0) := by rw [← hw0]; exact (Below.refl _ _).alloc (Nat.le_refl _) _
  have f0 : w0.cell? ⟨w.heap.size, 0, none⟩ = some (.int .i64 (W : Nat)) := by rw [← hw0]; simp
  have Hw : Hid (w.alloc (Obj.cells #[.int .i64 (W : Nat), .int .i64 (H : Nat), u1, u2] 25) = w0) := hw0
  clear hw0
  go_enter Tryz.func41, Tryz.ntmps41
  go_wp2_with fail
  rw [Hw.out]
  go_quiet ((go_at_call 65; exact Calls.quiet_of_same (K.out _)))
  go_wp2
  go_ret
  exact ⟨rfl, _root_.Go.below_drewN B0.out _⟩
end Go.Proofs.YtagnjmellcibhaaGreatDoor

namespace Go.Proofs.YtagnjmellcibhaaGreatDoor
open Go.RowKit
set_option linter.unusedVariables false

theorem self_ge (x : Int) : 0 ≤ x * x := by
  rcases Int.le_total 0 x with h | h
  · exact Int.mul_nonneg h h
  · have e : x * x = (-x) * (-x) := by rw [Int.neg_mul_neg]
    rw [e]
    exact Int.mul_nonneg (by omega) (by omega)
theorem rapart_any (v : Value) (W H : Nat) (gs os : List Int) (a b : Nat) (w : World) (h : Fl w v W H gs os) (h1 : 0 < W) (h2 : W ≤ 12) (h3 : H ≤ 12) (ha : a < W * H) (hb : b < W * H) :
    Calls Tryz.prog 41 #[v, .int .i64 (a : Nat), .int .i64 (b : Nat)] w fun e w' => e = .returned (.int .i64 (farN W a b)) ∧ Below w.heap.size w w' := by
  have hm : W * H ≤ 144 := Nat.mul_le_mul h2 h3
  have s1 : 0 ≤ (((a % W : Nat) : Int) - ((b % W : Nat) : Int)) * (((a % W : Nat) : Int) - ((b % W : Nat) : Int)) := self_ge _
  have s2 : 0 ≤ (((a / W : Nat) : Int) - ((b / W : Nat) : Int)) * (((a / W : Nat) : Int) - ((b / W : Nat) : Int)) := self_ge _
  obtain ⟨n, hn⟩ : ∃ n : Nat, (((a % W : Nat) : Int) - ((b % W : Nat) : Int)) * (((a % W : Nat) : Int) - ((b % W : Nat) : Int)) + (((a / W : Nat) : Int) - ((b / W : Nat) : Int)) * (((a / W : Nat) : Int) - ((b / W : Nat) : Int)) = n := ⟨Int.toNat _, (Int.toNat_of_nonneg (Int.add_nonneg s1 s2)).symm⟩
  obtain ⟨r, hr⟩ := sq_ex n
  rw [← hn] at hr
  have e := farN_eq (W := W) (a := a) (b := b) h2 (by omega) (by omega) h1 hr
  rw [e]
  exact ref_apart v W H gs os a b r w h h1 h2 h3 ha hb hr
end Go.Proofs.YtagnjmellcibhaaGreatDoor

namespace Go.Proofs.YtagnjmellcibhaaGreatDoor
open Go.RowKit
set_option linter.unusedVariables false

set_option maxRecDepth 100000 in
set_option maxHeartbeats 2000000 in
theorem ref_line (v : Value) (W H : Nat) (gs os : List Int) (a b : Nat) (w : World) (h : Fl w v W H gs os) (h1 : 0 < W) (h2 : W ≤ 12) (h3 : H ≤ 12) (ha : a < W * H) (hb : b < W * H) :
    Calls Tryz.prog 73 #[v, .int .i64 (a : Nat), .int .i64 (b : Nat)] w fun e w' => ∃ u, e = .returned u ∧ Ro w' u (Fd.line W a b) ∧ Below w.heap.size w w' := by
  obtain ⟨u1, u2, rfl, -, -⟩ := h
  have hm : W * H ≤ 144 := Nat.mul_le_mul h2 h3
  have hs := Fd.span_le h1 h2 h3 ha hb
  have a1 : a / W < H := Nat.div_lt_of_lt_mul ha
  have a2 : b / W < H := Nat.div_lt_of_lt_mul hb
  have a3 := Nat.mod_lt a h1
  have a4 := Nat.mod_lt b h1
  have hn : Hid (max (max (a % W - b % W) (b % W - a % W)) (max (a / W - b / W) (b / W - a / W)) = Fd.span W a b) := rfl
  have HL : Hid (Fd.line W a b = if Fd.span W a b = 0 then [(a : Int)] else (List.range (Fd.span W a b + 1)).map fun k : Nat => Fd.along (Fd.span W a b) (a / W : Nat) (b / W : Nat) k * W + Fd.along (Fd.span W a b) (a % W : Nat) (b % W : Nat) k) := rfl
  have e1 : (a : Int) % (W : Int) = (a % W : Nat) := rfl
  have e2 : (a : Int) / (W : Int) = (a / W : Nat) := rfl
  have e3 : (b : Int) % (W : Int) = (b % W : Nat) := rfl
  have e4 : (b : Int) / (W : Int) = (b / W : Nat) := rfl
  generalize a % W = c at *
  generalize a / W = r at *
  generalize b % W = d at *
  generalize b / W = s at *
  generalize Fd.span W a b = n at *
  have A1 : a ≤ 144 := by omega
  have B1 : b ≤ 144 := by omega
  have c1 : c ≤ 11 := by omega
  have d1 : d ≤ 11 := by omega
  have r1 : r ≤ 11 := by omega
  have s1 : s ≤ 11 := by omega
  have hw : ¬ (W : Int) = 0 := by omega
  clear ha hb a1 a2 a3 a4
  generalize hw0 : w.alloc (Obj.cells #[.int .i64 (W : Nat), .int .i64 (H : Nat), u1, u2] 25) = w0
  have B0 : Hid (Below w.heap.size w w0) := by rw [← hw0]; exact (Below.refl _ _).alloc (Nat.le_refl _) _
  have f0 : w0.cell? ⟨w.heap.size, 0, none⟩ = some (.int .i64 (W : Nat)) := by rw [← hw0]; simp
  have Z0 : Hid (w0.heap.size = w.heap.size + 1) := by rw [← hw0]; unfold Hid; simp
  have Hw : Hid (w.alloc (Obj.cells #[.int .i64 (W : Nat), .int .i64 (H : Nat), u1, u2] 25) = w0) := hw0
  clear hw0
  go_enter Tryz.func73, Tryz.ntmps73
  go_upto_if 37 with fail
  rw [Hw.out]
  go_cut [7, 9, 11] (fun v7 v9 v11 W' => v7 = .int .i64 (c : Nat) ∧ v9 = .int .i64 (d : Nat) ∧ v11 = .int .i64 (max (c - d) (d - c) : Nat) ∧ W' = w0)
  case first =>
    by_cases q : (d : Int) - c < 0
    · go_wp2_with fail
      go_meet
      case rel => exact ⟨by first | rfl | rw [e1], by first | rfl | rw [e3], by congr 1; omega, rfl⟩
    · go_wp2_with fail
      go_meet
      case rel => exact ⟨by first | rfl | rw [e1], by first | rfl | rw [e3], by congr 1; omega, rfl⟩
  case rest =>
    obtain ⟨rfl, rfl, rfl, rfl⟩ := hcut
    clear e1 e2 e3 e4
    obtain ⟨n1, hn1⟩ : ∃ n1, max (c - d) (d - c) = n1 := ⟨_, rfl⟩
    rw [hn1]
    have N1 : Hid (max (c - d) (d - c) = n1) := hn1
    have n1l : n1 ≤ 11 := by omega
    clear hn1
    go_upto_if 44 with fail
    go_cut [12] (fun v12 W' => v12 = .int .i64 (max (r - s) (s - r) : Nat) ∧ W' = wc)
    case first =>
      by_cases q : (s : Int) - r < 0
      · go_wp2_with fail
        go_meet
        case rel => exact ⟨by congr 1; omega, rfl⟩
      · go_wp2_with fail
        go_meet
        case rel => exact ⟨by congr 1; omega, rfl⟩
    case rest =>
      obtain ⟨rfl, rfl⟩ := hcut
      obtain ⟨n2, hn2⟩ : ∃ n2, max (r - s) (s - r) = n2 := ⟨_, rfl⟩
      rw [hn2]
      have hN : max n1 n2 = n := by have := hn.out; have := N1.out; omega
      have n2l : n2 ≤ 11 := by omega
      clear hn2
      go_upto_if 49 with fail
      go_cut [11] (fun v11 W' => v11 = .int .i64 (n : Nat) ∧ W' = wc)
      case first =>
        have hN' : Hid (max n1 n2 = n) := hN
        clear hN
        by_cases q : (n1 : Int) < n2
        · go_wp2_with fail
          go_meet
          case rel => exact ⟨by congr 1; have := hN'.out; omega, rfl⟩
        · go_wp2_with fail
          go_meet
          case rel => exact ⟨by congr 1; have := hN'.out; omega, rfl⟩
      case rest =>
        obtain ⟨rfl, rfl⟩ := hcut
        clear hN n2l n1l N1 hn
        by_cases h0 : n = 0
        · subst h0
          go_wp2
          go_ret
          refine ⟨_, rfl, ?_, ?_⟩
          · have e := HL.out
            simp only [if_true] at e
            rw [e]
            have hz := B0.out.size
            exact (Ow.one (w := wc) (base := 0) _ (Nat.zero_le _) rfl).ro
          · exact B0.out.alloc B0.out.size _
        · have n0 : 0 < n := by omega
          have HL' : Hid (Fd.line W a b = (List.range (n + 1)).map fun k : Nat => Fd.along n r s k * W + Fd.along n c d k) := by
            have := HL.out
            rw [if_neg h0] at this
            exact this
          clear HL
          have hb0 : ((n : Int) == 0) = false := by rw [beq_eq_false_iff_ne]; omega
          go_wp2_with fail
          clear h0 hb0
          go_loopw [13, 14] (fun v i W' => ∃ k : Nat, k ≤ n + 1 ∧ i = .int .i64 (k : Nat) ∧ Ow W' (w.heap.size + 1) v ((List.range k).map fun k : Nat => Fd.along n r s k * W + Fd.along n c d k) ∧ W'.cell? ⟨w.heap.size, 0, none⟩ = some (.int .i64 (W : Nat)) ∧ Below w.heap.size w W' ∧ w.heap.size + 1 ≤ W'.heap.size) (fun _ i _ => n + 1 - (intOf i).toNat)
          case atStart => exact ⟨0, Nat.zero_le _, rfl, Ow.nil _ _, f0, B0, by rw [Z0.out]; exact Nat.le_refl _⟩
          case round =>
            obtain ⟨k, hk, rfl, ho, hc, hbl, hz⟩ := hrel
            clear f0
            have O : Hid (Ow wr (w.heap.size + 1) u13 ((List.range k).map fun k : Nat => Fd.along n r s k * W + Fd.along n c d k)) := ho
            have B : Hid (Below w.heap.size w wr) := hbl
            have Z : Hid (w.heap.size + 1 ≤ wr.heap.size) := hz
            have C : Hid (wr.cell? ⟨w.heap.size, 0, none⟩ = some (.int .i64 (W : Nat))) := hc
            clear ho hbl hz
            by_cases h0 : k = n + 1
            · subst h0
              have e1 : ¬ ((n : Int) + 1 ≤ n) := by omega
              go_wp2
              go_ret
              exact ⟨_, rfl, by rw [HL'.out]; exact O.out.ro, B⟩
            · have hkn : k ≤ n := by omega
              have b1 : 0 ≤ 2 * (r : Int) * n := Int.mul_nonneg (by omega) (by omega)
              have b2 : 2 * (r : Int) * n ≤ 22 * 11 := Int.mul_le_mul (by omega) (by omega) (by omega) (by omega)
              have b3 : 0 ≤ 2 * (c : Int) * n := Int.mul_nonneg (by omega) (by omega)
              have b4 : 2 * (c : Int) * n ≤ 22 * 11 := Int.mul_le_mul (by omega) (by omega) (by omega) (by omega)
              have t1 : 0 ≤ 2 * (r : Int) * n + 2 * (k : Int) * ((s : Int) - r) + n ∧ 2 * (r : Int) * n + 2 * (k : Int) * ((s : Int) - r) + n ≤ 1000 := by
                rw [Fd.along_num]
                have g1 : 0 ≤ (r : Int) * (n - k) := Int.mul_nonneg (by omega) (by omega)
                have g2 : 0 ≤ (s : Int) * k := Int.mul_nonneg (by omega) (by omega)
                have g3 : (r : Int) * (n - k) ≤ 11 * 11 := Int.mul_le_mul (by omega) (by omega) (by omega) (by omega)
                have g4 : (s : Int) * k ≤ 11 * 11 := Int.mul_le_mul (by omega) (by omega) (by omega) (by omega)
                omega
              have t2 : 0 ≤ 2 * (c : Int) * n + 2 * (k : Int) * ((d : Int) - c) + n ∧ 2 * (c : Int) * n + 2 * (k : Int) * ((d : Int) - c) + n ≤ 1000 := by
                rw [Fd.along_num]
                have g1 : 0 ≤ (c : Int) * (n - k) := Int.mul_nonneg (by omega) (by omega)
                have g2 : 0 ≤ (d : Int) * k := Int.mul_nonneg (by omega) (by omega)
                have g3 : (c : Int) * (n - k) ≤ 11 * 11 := Int.mul_le_mul (by omega) (by omega) (by omega) (by omega)
                have g4 : (d : Int) * k ≤ 11 * 11 := Int.mul_le_mul (by omega) (by omega) (by omega) (by omega)
                omega
              obtain ⟨t11, t12⟩ := t1
              obtain ⟨t21, t22⟩ := t2
              have p1 := Fd.along_ge 0 n r s k (by omega) (by omega) (by omega) (by omega) (by omega)
              have p2 := Fd.along_le 11 n r s k (by omega) (by omega) (by omega) (by omega) (by omega)
              have q1 := Fd.along_ge 0 n c d k (by omega) (by omega) (by omega) (by omega) (by omega)
              have q2 := Fd.along_le 11 n c d k (by omega) (by omega) (by omega) (by omega) (by omega)
              have ep : (2 * (r : Int) * n + 2 * (k : Int) * ((s : Int) - r) + n) / (2 * n) = Fd.along n r s k := rfl
              have eq : (2 * (c : Int) * n + 2 * (k : Int) * ((d : Int) - c) + n) / (2 * n) = Fd.along n c d k := rfl
              have S : Hid (((List.range (k + 1)).map fun k : Nat => Fd.along n r s k * W + Fd.along n c d k) = ((List.range k).map fun k : Nat => Fd.along n r s k * W + Fd.along n c d k) ++ [Fd.along n r s k * W + Fd.along n c d k]) := by
                unfold Hid
                rw [List.range_succ, List.map_append]
                rfl
              generalize Fd.along n r s k = p at *
              generalize Fd.along n c d k = q at *
              have L : Hid (((List.range k).map fun k : Nat => Fd.along n r s k * W + Fd.along n c d k).length = k) := by unfold Hid; simp
              generalize ((List.range k).map fun k : Nat => Fd.along n r s k * W + Fd.along n c d k) = xs at *
              have m1 : 0 ≤ p * (W : Int) := Int.mul_nonneg p1 (by omega)
              have m2 : p * (W : Int) ≤ 11 * 12 := Int.mul_le_mul p2 (by omega) (by omega) (by omega)
              go_wp2_with (at_builtin; refine app_int _ rfl _ _ rfl (w.heap.size + 1) _ xs rfl (O.out.alloc _) ⟨wr.heap.size, 0, none⟩ (p * W + q) rfl (by simp) (by rw [L.out]; omega) (by have := Z.out; simp; omega) ?_)
              intro g cap w5 o5 g5 a5 l5
              have O5 : Hid (Ow w5 (w.heap.size + 1) (.slice (some ⟨g, 0, none⟩) (xs.length + 1) cap) (xs ++ [p * W + q])) := o5
              have hob : ∀ k, u13.ownBlock = some k → w.heap.size + 1 ≤ k := fun k hk => (O.out.block k hk).1
              have b5 : Below (w.heap.size + 1) wr w5 := ((Below.refl _ _).alloc Z.out _).grown g5 (by have := Z.out; simp; omega) hob
              have C5 : Hid (w5.cell? ⟨w.heap.size, 0, none⟩ = some (.int .i64 (W : Nat))) := by
                unfold Hid
                rw [b5.cell (p := ⟨w.heap.size, 0, none⟩) (Nat.lt_succ_self _)]
                exact C.out
              have B5 : Hid (Below w.heap.size w w5) := B.out.trans (b5.mono (Nat.le_succ _))
              have Z5 : Hid (w.heap.size + 1 ≤ w5.heap.size) := Nat.le_trans Z.out b5.size
              clear o5 g5 a5 l5 hob b5
              go_wp2
              go_round
              case rel => exact ⟨k + 1, by omega, by go_num, by rw [S.out]; exact O5, C5, B5, Z5⟩
              case measure => simp [intOf]; omega
end Go.Proofs.YtagnjmellcibhaaGreatDoor

namespace Go.Proofs.YtagnjmellcibhaaGreatDoor
open Go.RowKit
set_option linter.unusedVariables false

namespace Fd
/-- does a ground hide? -/
def dark (g : Int) : Prop := g = 1 ∨ g = 3
section
variable {W H a b : Nat} {gs : List Int} (hW : 0 < W) (ha : a < W * H) (hb : b < W * H)
include hW ha hb
theorem see_no {k : Nat} (h0 : 0 < k) (h1 : k < span W a b) (hd : ∃ t g : Nat × Int, spot W a b k = t.1 ∧ gs[t.1]? = some g.2 ∧ dark g.2) : (line W a b).any (hide gs a b) = true := by
  obtain ⟨t, g, e, hgt, hd⟩ := hd
  rw [List.any_eq_true]
  refine ⟨spot W a b k, ?_, ?_⟩
  · refine List.mem_of_getElem? (i := k) ?_
    rw [line_get (by omega), if_neg (by omega)]
  · obtain ⟨i1, i2⟩ := spot_inner hW ha hb (by omega) h0 h1
    unfold hide
    rw [decide_eq_true i1, decide_eq_true i2, e, Int.toNat_natCast, List.getD_eq_getElem?_getD, hgt]
    rcases hd with hd | hd
    · simp [hd]
    · simp [hd]
theorem see_yes (hg : gs.length = W * H) (hd : ∀ k, 0 < k → k < span W a b → ∀ t : Nat, spot W a b k = t → ∀ g, gs[t]? = some g → ¬ dark g) : (line W a b).any (hide gs a b) = false := by
  rw [List.any_eq_false]
  intro x hx
  obtain ⟨k, hk, e⟩ := List.mem_iff_getElem.1 hx
  rw [line_len] at hk
  have e2 := line_get (W := W) (a := a) (b := b) (k := k) (by omega)
  rw [List.getElem?_eq_getElem (by rw [line_len]; omega), e] at e2
  injection e2 with e2
  unfold hide
  by_cases h0 : span W a b = 0
  · rw [if_pos h0] at e2
    simp [e2]
  · rw [if_neg h0] at e2
    by_cases hk0 : k = 0
    · rw [hk0, spot_zero (by omega)] at e2
      simp [e2]
    · by_cases hk1 : k = span W a b
      · rw [hk1, spot_end (by omega)] at e2
        simp [e2]
      · obtain ⟨r, c, -, -, -, -, es, el, -, -⟩ := spot_in hW ha hb (show 0 < span W a b by omega) (show k ≤ span W a b by omega)
        have hgt : r * W + c < gs.length := by rw [hg]; exact el
        have h := hd k (by omega) (by omega) _ es _ (List.getElem?_eq_getElem hgt)
        rw [e2, es, Int.toNat_natCast, List.getD_eq_getElem?_getD, List.getElem?_eq_getElem hgt]
        unfold dark at h
        simp
        omega
end
end Fd

set_option maxHeartbeats 2000000 in
theorem ref_sees (v : Value) (W H : Nat) (gs os : List Int) (a b : Nat) (s r : Int) (w : World) (h : Fl w v W H gs os) (G : Fd.Good W H gs os) (ha : a < W * H) (hb : b < W * H)
    (hr : Ma.Sq r ((((a % W : Nat) : Int) - (b % W : Nat)) * (((a % W : Nat) : Int) - (b % W : Nat)) + (((a / W : Nat) : Int) - (b / W : Nat)) * (((a / W : Nat) : Int) - (b / W : Nat)))) :
    Calls Tryz.prog 45 #[v, .int .i64 (a : Nat), .int .i64 (b : Nat), .int .i64 s] w fun e w' => e = .returned (.bool (decide (r ≤ s) && !(Fd.line W a b).any (Fd.hide gs a b))) ∧ Below w.heap.size w w' := by
  have F0 : Hid (Fl w v W H gs os) := h
  have HR : Hid (Ma.Sq r _) := hr
  have HA : Hid (a < W * H) := ha
  have HB : Hid (b < W * H) := hb
  have W1 := G.w1
  have W2 := G.w2
  have H2 := G.h2
  have gp := G.pos.2
  have GL : Hid (gs.length = W * H) := G.gl
  have gl2 : gs.length ≤ 144 := by rw [G.gl]; exact gp
  have Yes : Hid ((∀ k, 0 < k → k < Fd.span W a b → ∀ t : Nat, Fd.spot W a b k = t → ∀ g, gs[t]? = some g → ¬ Fd.dark g) → (Fd.line W a b).any (Fd.hide gs a b) = false) := Fd.see_yes W1 ha hb G.gl
  have No : Hid (∀ k, 0 < k → k < Fd.span W a b → (∃ t g : Nat × Int, Fd.spot W a b k = t.1 ∧ gs[t.1]? = some g.2 ∧ Fd.dark g.2) → (Fd.line W a b).any (Fd.hide gs a b) = true) := fun k h0 h1 hd => Fd.see_no W1 ha hb h0 h1 hd
  obtain ⟨u1, u2, rfl, ⟨a1, c, rfl, c1, c2, ca⟩, ⟨b1, d, rfl, d1, d2, cb⟩⟩ := h
  obtain ⟨y, rfl, yl, hy⟩ := ca (by intro e; have h3 := G.gl; have h4 := G.pos; rw [e] at h3; simp only [List.length_nil] at h3; omega)
  have Cy : Hid (y.block < w.heap.size ∧ ∀ i d, gs[i]? = some d → w.cell? (y.add i) = some (.int .i64 d)) := ⟨yl, hy⟩
  clear cb hy yl G ha hb hr
  go_enter Tryz.func45, Tryz.ntmps45
  go_wp2_with fail
  refine (ref_apart _ W H gs os a b r _ (F0.out.below ((Below.refl _ _).alloc (Nat.le_refl _) _)) W1 W2 H2 HA.out HB.out HR.out).mono ?_
  rintro e w1 ⟨rfl, k1⟩
  have B1 : Hid (Below w.heap.size w w1) := ((Below.refl _ _).alloc (Nat.le_refl _) _).trans (k1.mono (by simp))
  have X1 : Hid (Bf w1 w.heap.size W H (Value.slice (some y) gs.length c) (Value.slice b1 os.length d)) := (Bf.mk' (w := w) W H (Value.slice (some y) gs.length c) (Value.slice b1 os.length d) rfl).below k1 (by simp)
  have F1 : Hid (Fl w1 (.agg #[Value.int IntKind.i64 W, Value.int IntKind.i64 H, Value.slice (some y) gs.length c, Value.slice b1 os.length d]) W H gs os) := F0.out.below B1.out
  clear k1 F0
  obtain ⟨x0, x1, x2, x3⟩ := X1.out
  by_cases hrs : r ≤ s
  · have Hrs : Hid (r ≤ s) := hrs
    go_wp2_with fail
    refine (ref_line _ W H gs os a b _ F1.out W1 W2 H2 HA.out HB.out).mono ?_
    rintro e w2 ⟨u, rfl, hr2, k2⟩
    have B2 : Hid (Below w.heap.size w w2) := B1.out.trans (k2.mono B1.out.size)
    have X2 : Hid (Bf w2 w.heap.size W H (Value.slice (some y) gs.length c) (Value.slice b1 os.length d)) := X1.out.below k2 X1.out.lt
    clear k2 B1 X1 F1 x0 x1 x2 x3
    obtain ⟨xa, cu, rfl, cu1, cu2, hc⟩ := hr2
    have hl := Fd.line_len W a b
    obtain ⟨x, rfl, -, hx⟩ := hc (by intro e; rw [e] at hl; simp at hl)
    have hs := Fd.span_le W1 W2 H2 HA.out HB.out
    have Lx : Hid (∀ k, 0 < k → k < Fd.span W a b → ∃ t : Nat, Fd.spot W a b k = t ∧ t < gs.length ∧ w2.cell? (x.add k) = some (.int .i64 (t : Nat))) := by
      intro k h0 h1
      obtain ⟨r', c', -, -, -, -, es, el, -⟩ := Fd.spot_in W1 HA.out HB.out (show 0 < Fd.span W a b by omega) (show k ≤ Fd.span W a b by omega)
      refine ⟨_, es, by rw [GL.out]; exact el, hx k _ ?_⟩
      rw [Fd.line_get (by omega), if_neg (by omega), es]
    rw [hl]
    generalize Fd.span W a b = n at *
    clear hc hx hl cu2
    go_wp2_with fail
    go_loopw [11] (fun i W' => ∃ (j q : Nat), 1 ≤ j ∧ j ≤ n + 1 ∧ (j ≤ n ∨ n = 0) ∧ i = .int .i64 (j : Nat) ∧ W' = w2.drewN q ∧ ∀ k, 0 < k → k < j → ∀ t : Nat, Fd.spot W a b k = t → ∀ g, gs[t]? = some g → ¬ Fd.dark g) (fun i _ => n + 1 - (intOf i).toNat)
    case atStart => exact ⟨1, 0, Nat.le_refl _, by omega, by omega, rfl, rfl, fun k h0 h1 => by omega⟩
    case round =>
      obtain ⟨j, q, j1, j2, j3, rfl, rfl, hj⟩ := hrel
      have Hj : Hid (∀ k, 0 < k → k < j → ∀ t : Nat, Fd.spot W a b k = t → ∀ g, gs[t]? = some g → ¬ Fd.dark g) := hj
      have X3 : Bf (w2.drewN q) w.heap.size W H (Value.slice (some y) gs.length c) (Value.slice b1 os.length d) := X2.out.drewN q
      have B3 : Hid (Below w.heap.size w (w2.drewN q)) := _root_.Go.below_drewN B2.out q
      have Q : Hid (∀ n, (w2.drewN q).drewN n = w2.drewN (q + n)) := fun n => by rw [World.drewN_drewN]
      have Lq : Hid (∀ k, 0 < k → k < n → ∃ t : Nat, Fd.spot W a b k = t ∧ t < gs.length ∧ (w2.drewN q).cell? (x.add k) = some (.int .i64 (t : Nat))) := Lx.out
      obtain ⟨x0, x1, x2, x3⟩ := X3
      clear hj
      generalize w2.drewN q = w3 at *
      by_cases h0 : j < n
      · obtain ⟨t, et, tl, ct⟩ := Lq.out j (by omega) h0
        have cg : w3.cell? (y.add t) = some (.int .i64 gs[t]) := by
          rw [B3.out.cell (p := y.add t) (by rw [add_block]; exact Cy.out.1)]
          exact Cy.out.2 t _ (List.getElem?_eq_getElem tl)
        have Hg : Hid (gs[t]? = some gs[t]) := List.getElem?_eq_getElem tl
        have Et : Hid (Fd.spot W a b j = (t : Nat)) := et
        clear et
        generalize gs[t] = g at *
        have t0 : (0 : Int) ≤ (t : Int) := by omega
        have t1 : (t : Int) < (gs.length : Int) := by omega
        by_cases q1 : g = 1
        · subst q1
          have e := No.out j (by omega) h0 ⟨(t, 0), (0, 1), Et.out, Hg.out, .inl rfl⟩
          have E : Hid (_ = true) := e
          clear e
          go_wp2
          go_quiet (fail)
          go_wp2
          go_ret
          exact ⟨by rw [E.out, Bool.not_true, Bool.and_false]; rfl, _root_.Go.below_drewN B3.out _⟩
        · by_cases q3 : g = 3
          · subst q3
            have e := No.out j (by omega) h0 ⟨(t, 0), (0, 3), Et.out, Hg.out, .inr rfl⟩
            have E : Hid (_ = true) := e
            clear e
            go_wp2
            go_quiet (fail)
            go_wp2
            go_ret
            exact ⟨by rw [E.out, Bool.not_true, Bool.and_false]; rfl, _root_.Go.below_drewN B3.out _⟩
          · have q1b : (g == 1) = false := by rw [beq_eq_false_iff_ne]; exact q1
            have q3b : (g == 3) = false := by rw [beq_eq_false_iff_ne]; exact q3
            go_wp2
            go_quiet (fail)
            go_wp2
            go_round
            case rel =>
              refine ⟨j + 1, _, by omega, by omega, by omega, by go_num, Q.out _, fun k h1 h2 t' e' g' hg' => ?_⟩
              by_cases hkj : k = j
              · subst hkj
                have : t = t' := by have := Et.out; omega
                subst this
                rw [Hg.out] at hg'
                injection hg' with hg'
                subst hg'
                unfold Fd.dark
                omega
              · exact Hj.out k h1 (by omega) t' e' g' hg'
            case measure => simp [intOf]; omega
      · have e := Yes.out (fun k h1 h2 => Hj.out k h1 (by omega))
        have E : Hid (_ = false) := e
        clear e
        have hjn : ¬ ((j : Int) < (n : Int) + 1 - 1) := by omega
        go_wp2
        go_ret
        exact ⟨by first | (rw [E.out, decide_eq_true Hrs.out]; rfl) | (rw [E.out]; rfl), B3⟩
  · have hrs' : s < r := by omega
    go_wp2
    go_ret
    exact ⟨by rw [decide_eq_false (by omega), Bool.false_and]; rfl, B1⟩
end Go.Proofs.YtagnjmellcibhaaGreatDoor

