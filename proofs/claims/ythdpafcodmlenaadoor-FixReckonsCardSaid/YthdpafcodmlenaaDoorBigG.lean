/- Whole numbers of any size: what QuoRem does, where it needs no long division. -/
import Derived.Test.YthdpafcodmlenaaDoorBigE
namespace Go.Proofs.YthdpafcodmlenaaDoor
open Go.RowKit

/-- rounded to 0. -/
theorem sgn_quo (x y : Int) : sgn (decide (x < 0) != decide (y < 0)) ((x.natAbs : Int) / (y.natAbs : Int)) = x.tdiv y := by
  have e : ((x.natAbs : Int) / (y.natAbs : Int)) = (x.natAbs : Int).tdiv (y.natAbs : Int) := (Int.tdiv_eq_ediv_of_nonneg (by omega)).symm
  rw [e]
  by_cases hx : x < 0 <;> by_cases hy : y < 0
  · have e1 : (x.natAbs : Int) = -x := by omega
    have e2 : (y.natAbs : Int) = -y := by omega
    rw [e1, e2, Int.neg_tdiv, Int.tdiv_neg]
    simp [sgn, hx, hy]
  · have e1 : (x.natAbs : Int) = -x := by omega
    have e2 : (y.natAbs : Int) = y := by omega
    rw [e1, e2, Int.neg_tdiv]
    simp [sgn, hx, hy]
  · have e1 : (x.natAbs : Int) = x := by omega
    have e2 : (y.natAbs : Int) = -y := by omega
    rw [e1, e2, Int.tdiv_neg]
    simp [sgn, hx, hy]
  · have e1 : (x.natAbs : Int) = x := by omega
    have e2 : (y.natAbs : Int) = y := by omega
    rw [e1, e2]
    simp [sgn, hx, hy]
theorem sgn_rem (x y : Int) : sgn (decide (x < 0)) ((x.natAbs : Int) % (y.natAbs : Int)) = x.tmod y := by
  have e : ((x.natAbs : Int) % (y.natAbs : Int)) = (x.natAbs : Int).tmod (y.natAbs : Int) := (Int.tmod_eq_emod_of_nonneg (by omega)).symm
  rw [e]
  have f : ∀ t : Int, t.tmod (y.natAbs : Int) = t.tmod y := fun t => by
    by_cases hy : y < 0
    · have e2 : (y.natAbs : Int) = -y := by omega
      rw [e2, Int.tmod_neg]
    · have e2 : (y.natAbs : Int) = y := by omega
      rw [e2]
  rw [f]
  by_cases hx : x < 0
  · have e1 : (x.natAbs : Int) = -x := by omega
    rw [e1, Int.neg_tmod]
    simp [sgn, hx]
  · have e1 : (x.natAbs : Int) = x := by omega
    rw [e1]
    simp [sgn, hx]

/-- two blocks may turn. -/
structure Kq (z r : Nat) (w w' : World) : Prop where
  os : w'.os = w.os
  tape : w'.tape = w.tape
  output : w'.output = w.output
  size : w.heap.size ≤ w'.heap.size
  block : ∀ k, k < w.heap.size → k ≠ z → k ≠ r → w'.heap[k]? = w.heap[k]?
theorem Kq.of {z r : Nat} {a b c : World} (h : Kp z a b) (k : Kp r b c) : Kq z r a c :=
  ⟨k.os.trans h.os, k.tape.trans h.tape, k.output.trans h.output, Nat.le_trans h.size k.size, fun i hi hz hr => (k.block i (Nat.lt_of_lt_of_le hi h.size) hr).trans (h.block i hi hz)⟩

set_option maxHeartbeats 4000000 in
theorem int_quo (z xb yb r : Nat) (x y : Int) (w : World) (hz : Zb w z) (hr : Zb w r) (hzr : z ≠ r) (hx : IntAt w xb x) (hy : IntAt w yb y) (y0 : y ≠ 0) (yl : -18446744073709551616 < y ∧ y < 18446744073709551616)
    (hl : (-18446744073709551616 < x ∧ x < 18446744073709551616) ∨ (-79228162514264337593543950336 < x ∧ x < 79228162514264337593543950336 ∧ -4294967296 < y ∧ y < 4294967296)) :
    Calls Tryd.prog 34 #[.pointer (some ⟨z, 0, none⟩), .pointer (some ⟨xb, 0, none⟩), .pointer (some ⟨yb, 0, none⟩), .pointer (some ⟨r, 0, none⟩)] w fun e w' => e = .returned (.tuple #[.pointer (some ⟨z, 0, none⟩), .pointer (some ⟨r, 0, none⟩)]) ∧ IntAt w' z (x.tdiv y) ∧ IntAt w' r (x.tmod y) ∧ Kq z r w w' := by
  obtain ⟨u, ds, cx0, cx1, hu, hd, vd, lx⟩ := hx.open
  obtain ⟨v, es, cy0, cy1, hv, he, ve, ly⟩ := hy.open
  have e0 : es ≠ [] := fun h => y0 ((nil_iff es y he ve).1 h)
  have le : es.length ≤ 2 := len_of es y he ve yl.1 yl.2
  have hL : ds.length ≤ 2 ∧ es.length ≤ 2 ∨ ds.length ≤ 3 ∧ es.length = 1 := by
    rcases hl with hl | hl
    · exact .inl ⟨len_of ds x hd vd hl.1 hl.2, le⟩
    · refine .inr ⟨Bg.len_le ds hd 3 ?_, ?_⟩
      · have e : (4294967296 : Int) ^ 3 = 79228162514264337593543950336 := by decide
        rw [e, vd]
        omega
      · have : es.length ≤ 1 := by
          refine Bg.len_le es he 1 ?_
          have e : (4294967296 : Int) ^ 1 = 4294967296 := by decide
          rw [e, ve]
          omega
        have := List.length_pos_iff.2 e0
        omega
  have Dv : Hid (∀ W, Below w.heap.size w W → Calls Tryd.prog 44 #[u, v] W fun e w' => ∃ vq vr qs rs, e = .returned (.tuple #[vq, vr]) ∧ Sl w' vq qs ∧ Sl w' vr rs ∧ Bg.Nrm qs ∧ Bg.Nrm rs ∧ Bg.val qs = (x.natAbs : Int) / (y.natAbs : Int) ∧ Bg.val rs = (x.natAbs : Int) % (y.natAbs : Int) ∧ Below W.heap.size W w') := fun W hb => by
    rw [← vd, ← ve]
    exact div_sl u v ds es W (hu.below hb) (hv.below hb) hd he e0 hL
  have Hz : Hid (Zb w z) := hz
  have Hr : Hid (Zb w r) := hr
  have Hzr : Hid (z ≠ r) := hzr
  have S1 : Hid (sgn (decide (x < 0) != decide (y < 0)) ((x.natAbs : Int) / (y.natAbs : Int)) = x.tdiv y) := sgn_quo x y
  have S2 : Hid (sgn (decide (x < 0)) ((x.natAbs : Int) % (y.natAbs : Int)) = x.tmod y) := sgn_rem x y
  clear hz hr hzr hx hy hl yl y0 hu hd vd lx hv he ve ly e0 le hL
  generalize decide (x < 0) = nx at *
  generalize decide (y < 0) = ny at *
  go_enter Tryd.func34, Tryd.ntmps34
  go_wp2
  go_quiet (fail)
  go_wp2
  go_region_with (go_at_call 44; refine Calls.mono (Dv.out _ (below_drewN (Below.refl _ _) _)) ?_; rintro e w1 ⟨vq, vr, qs, rs, rfl, hs1, hs2, hn1, hn2, hv1, hv2, hb1⟩)
  all_goals
    have Hs1 : Hid (Sl w1 vq qs) := hs1
    have Hs2 : Hid (Sl w1 vr rs) := hs2
    have Hn1 : Hid (Bg.Nrm qs) := hn1
    have Hn2 : Hid (Bg.Nrm rs) := hn2
    have Hv1 : Hid (Bg.val qs = (x.natAbs : Int) / (y.natAbs : Int)) := hv1
    have Hv2 : Hid (Bg.val rs = (x.natAbs : Int) % (y.natAbs : Int)) := hv2
    have Hb1 : Hid (Below w.heap.size w w1) := (below_drewN (Below.refl _ _) _).trans hb1
    clear hs1 hs2 hn1 hn2 hv1 hv2 hb1
    go_wp2_with fail
    refine Calls.mono (give_int z (nx != ny) vq qs _ (Zb.below Hz Hb1) Hs1 Hn1) ?_
    rintro e w2 ⟨rfl, hi2, hk2⟩
    rw [Hv1.out, S1.out] at hi2
    have Hi2 : Hid (IntAt w2 z (x.tdiv y)) := hi2
    have Hk2 : Hid (Kp z w1 w2) := hk2
    have Hr2 : Hid (Zb w2 r) := Zb.kp (Zb.below Hr Hb1) hk2 (Ne.symm Hzr)
    have Hs3 : Hid (Sl w2 vr rs) := Sl.kp Hs2 hk2 (Zb.below Hz Hb1)
    clear hi2 hk2 Hs2
    go_wp2_with fail
    refine Calls.mono (give_int r nx vr rs _ Hr2 Hs3 Hn2) ?_
    rintro e w3 ⟨rfl, hi3, hk3⟩
    rw [Hv2.out, S2.out] at hi3
    have Hi3 : Hid (IntAt w3 r (x.tmod y)) := hi3
    have Hk3 : Hid (Kp r w2 w3) := hk3
    clear hi3 hk3
    go_wp2
    go_ret2
    exact ⟨rfl, IntAt.kp Hi2 Hk3.out Hr2 Hzr, Hi3, Kq.of ((Kp.of Hb1.out).trans Hk2.out) Hk3.out⟩
end Go.Proofs.YthdpafcodmlenaaDoor
