/- Whole numbers of any size: what div does, where it needs no long division. -/
import Derived.Test.YthdpafcodmlenaaDoorBig8
namespace Go.Proofs.YthdpafcodmlenaaDoor
open Go.RowKit

/-- a quotient and a rest of numbers below 2^64. -/
theorem quo64 (x y : Int) (hx : 0 ≤ x) (hx1 : x < 18446744073709551616) (hy : 0 < y) : ∃ q r, x.tdiv y = q ∧ x.tmod y = r ∧ IntKind.u64.wrap q = q ∧ q = x / y ∧ r = x % y ∧ 0 ≤ q ∧ q < 18446744073709551616 ∧ 0 ≤ r ∧ r < 18446744073709551616 := by
  have a : 0 ≤ x / y := Int.ediv_nonneg hx (by omega)
  have b : x / y ≤ x := Int.ediv_le_self y hx
  have c : 0 ≤ x % y := Int.emod_nonneg x (by omega)
  have d : x % y ≤ x := by
    have := Int.mul_ediv_add_emod x y
    have e : 0 ≤ y * (x / y) := Int.mul_nonneg (by omega) a
    omega
  refine ⟨x / y, x % y, Int.tdiv_eq_ediv_of_nonneg hx, Int.tmod_eq_emod_of_nonneg hx, ?_, rfl, rfl, a, by omega, c, by omega⟩
  rw [IntKind.wrap_u64]
  generalize x / y = q at *
  omega

set_option maxHeartbeats 1000000 in
set_option maxRecDepth 100000 in
theorem div_two (u v : Value) (ds es : List Int) (w : World) (hu : Sl w u ds) (hv : Sl w v es) (hd : Bg.Nrm ds) (he : Bg.Nrm es) (ld : ds.length ≤ 2) (le : es.length ≤ 2) (e0 : es ≠ []) (h : Bg.val es ≤ Bg.val ds) :
    Calls Tryd.prog 44 #[u, v] w fun e w' => ∃ vq vr qs rs, e = .returned (.tuple #[vq, vr]) ∧ Sl w' vq qs ∧ Sl w' vr rs ∧ Bg.Nrm qs ∧ Bg.Nrm rs ∧ Bg.val qs = Bg.val ds / Bg.val es ∧ Bg.val rs = Bg.val ds % Bg.val es ∧ Below w.heap.size w w' := by
  have d0 : ds ≠ [] := by
    intro h0
    subst h0
    have := Bg.val_pos es he e0
    simp [Bg.val] at h
    omega
  obtain ⟨p, cp, hpe, -, -⟩ := hu.at d0
  obtain ⟨q, cq, hqe, -, -⟩ := hv.at e0
  have l1 : (ds.length : Int) ≤ 2 := by omega
  have l2 : ((es.length : Int) == 0) = false := beq_eq_false_iff_ne.2 (by have := List.length_pos_iff.2 e0; omega)
  have Hu : Hid (Sl w u ds) := hu
  have Hv : Hid (Sl w v es) := hv
  have Hd : Hid (Bg.Nrm ds) := hd
  have He : Hid (Bg.Nrm es) := he
  have ho : 0 ≤ ord (Bg.val ds) (Bg.val es) := by unfold ord; rw [if_neg (by omega)]; split <;> omega
  have x0 := Bg.val_nonneg ds hd.1
  have x1 := Bg.val_lt_len ds hd.1
  have x2 := Bg.pow_mono ds.length 2 ld
  have x3 : Bg.val ds < 18446744073709551616 := by
    have e : (4294967296 : Int) ^ 2 = 18446744073709551616 := by decide
    rw [e] at x2
    omega
  have y0 := Bg.val_pos es he e0
  obtain ⟨Q, R, k1, k2, k3, k4, k5, k6, k7, k8, k9⟩ := quo64 (Bg.val ds) (Bg.val es) x0 x3 y0
  have K4 : Hid (Q = Bg.val ds / Bg.val es) := k4
  have K5 : Hid (R = Bg.val ds % Bg.val es) := k5
  have D0 : Hid (ds ≠ []) := d0
  have E0 : Hid (es ≠ []) := e0
  have Cm : Hid (Calls Tryd.prog 37 #[u, v] w fun e w' => e = .returned (.int .i64 (ord (Bg.val ds) (Bg.val es))) ∧ Below w.heap.size w w') := cmp_any u v ds es w hu hv hd he (by omega) (by omega)
  have p1 : Hid (∀ W, Below w.heap.size w W → Calls Tryd.prog 49 #[u] W fun e w' => e = .returned (.int .u64 (Bg.val ds)) ∧ w' = W) := fun W hb => plain_sl u ds W (hu.below hb) hd.1 ld d0
  have p2 : Hid (∀ W, Below w.heap.size w W → Calls Tryd.prog 49 #[v] W fun e w' => e = .returned (.int .u64 (Bg.val es)) ∧ w' = W) := fun W hb => plain_sl v es W (hv.below hb) he.1 le e0
  clear hu hv hd he x1 x2 k4 k5 d0 e0 h
  generalize hX : Bg.val ds = X at *
  generalize hY : Bg.val es = Y at *
  have HX : Hid (Bg.val ds = X) := hX
  have HY : Hid (Bg.val es = Y) := hY
  clear hX hY
  subst hpe hqe
  generalize ord X Y = o at *
  go_enter Tryd.func44, Tryd.ntmps44
  go_wp2_with fail
  refine Calls.mono Cm.out ?_
  rintro e w1 ⟨rfl, hb1⟩
  have Hb1 : Hid (Below w.heap.size w w1) := hb1
  clear hb1
  go_wp2_with fail
  refine Calls.mono (p1.out w1 Hb1) ?_
  rintro e w2 ⟨rfl, rfl⟩
  go_wp2_with fail
  refine Calls.mono (p2.out w2 Hb1) ?_
  rintro e w3 ⟨rfl, rfl⟩
  go_wp2_with fail
  go_region_with (first
    | (go_at_call_of 43 Q; refine (words_any Q _ k6 k7).mono ?_; rintro e w4 ⟨vq, qs, hs4, hn4, hv4, rfl, hb4⟩)
    | (go_at_call_of 43 R; refine (words_any R _ k8 k9).mono ?_; rintro e w5 ⟨vr, rs, hs5, hn5, hv5, rfl, hb5⟩))
  all_goals
    go_wp2
    go_ret2
    have B4 : Below w.heap.size w w4 := Hb1.out.drew.trans (hb4.mono Hb1.out.size)
    exact ⟨vq, vr, qs, rs, rfl, hs4.below hb5, hs5, hn4, hn5, by rw [hv4, K4.out], by rw [hv5, K5.out], B4.trans (hb5.mono B4.size)⟩
end Go.Proofs.YthdpafcodmlenaaDoor
