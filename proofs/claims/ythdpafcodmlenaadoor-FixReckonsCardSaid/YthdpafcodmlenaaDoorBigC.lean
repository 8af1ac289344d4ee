/- Whole numbers of any size: what Mul does. -/
import Derived.Test.YthdpafcodmlenaaDoorBigB
namespace Go.Proofs.YthdpafcodmlenaaDoor
open Go.RowKit

set_option maxHeartbeats 4000000 in
theorem int_mul (z xb yb : Nat) (x y : Int) (w : World) (hz : Zb w z) (hx : IntAt w xb x) (hy : IntAt w yb y) (x0 : -18446744073709551616 < x) (x1 : x < 18446744073709551616) (y0 : -18446744073709551616 < y) (y1 : y < 18446744073709551616) :
    Calls Tryd.prog 13 #[.pointer (some ⟨z, 0, none⟩), .pointer (some ⟨xb, 0, none⟩), .pointer (some ⟨yb, 0, none⟩)] w fun e w' => e = .returned (.pointer (some ⟨z, 0, none⟩)) ∧ IntAt w' z (x * y) ∧ Kp z w w' := by
  obtain ⟨u, ds, cx0, cx1, hu, hd, vd, lx⟩ := hx.open
  obtain ⟨v, es, cy0, cy1, hv, he, ve, ly⟩ := hy.open
  have Ml : Hid (∀ W, Below w.heap.size w W → Calls Tryd.prog 23 #[u, v] W fun e w' => ∃ t fs, e = .returned t ∧ Sl w' t fs ∧ Bg.Nrm fs ∧ Bg.val fs = x.natAbs * y.natAbs ∧ Below W.heap.size W w') := fun W hb => by
    rw [← vd, ← ve]
    exact mul_sl u v ds es W (hu.below hb) (hv.below hb) hd he (len_of ds x hd vd x0 x1) (len_of es y he ve y0 y1)
  have Hz : Hid (Zb w z) := hz
  have Lx : Hid (xb < w.heap.size) := lx
  have Ly : Hid (yb < w.heap.size) := ly
  have Cx0 : Hid (w.cell? ⟨xb, 0, none⟩ = some (.bool (decide (x < 0)))) := cx0
  have Cy0 : Hid (w.cell? ⟨yb, 0, none⟩ = some (.bool (decide (y < 0)))) := cy0
  clear hz hx hy x0 x1 y0 y1 hu hd vd hv he ve lx ly
  have Sg : Hid (sgn (decide (x < 0) != decide (y < 0)) (x.natAbs * y.natAbs : Int) = x * y) := sgn_mul x y
  generalize decide (x < 0) = nx at *
  generalize decide (y < 0) = ny at *
  go_enter Tryd.func13, Tryd.ntmps13
  go_wp2
  go_region_with (first
    | (go_at_call 23; refine Calls.mono (Ml.out _ ((Below.refl _ _).drew)) ?_; rintro e w1 ⟨t, fs, rfl, hs1, hn1, hv1, hb1⟩; have b1 : Below w.heap.size w w1 := (Below.refl _ _).drew.trans hb1; have dx0 : w1.cell? ⟨xb, 0, none⟩ = some (.bool nx) := (by rw [b1.cell (p := ⟨xb, 0, none⟩) Lx]; exact Cx0); have dy0 : w1.cell? ⟨yb, 0, none⟩ = some (.bool ny) := (by rw [b1.cell (p := ⟨yb, 0, none⟩) Ly]; exact Cy0); have Hs1 : Hid (Sl w1 t fs) := hs1; have Hn1 : Hid (Bg.Nrm fs) := hn1; have Hv1 : Hid (Bg.val fs = x.natAbs * y.natAbs) := hv1; have Hb1 : Hid (Below w.heap.size w w1) := b1; clear hs1 hn1 hv1 hb1 b1)
    | (go_at_call 22; refine Calls.mono (give_int z (nx != ny) t fs _ (Zb.below Hz Hb1) Hs1 Hn1) ?_; rintro e w2 ⟨rfl, hi2, hk2⟩))
  all_goals
    rw [Hv1.out, Sg.out] at hi2
    go_wp2
    go_ret
    exact ⟨rfl, hi2, (Kp.of Hb1.out).trans hk2⟩
end Go.Proofs.YthdpafcodmlenaaDoor
