/- Whole numbers of any size: what Add does, whatever sum tells. -/
import Derived.Test.YthdpafcodmlenaaDoorBigH
namespace Go.Proofs.YthdpafcodmlenaaDoor
open Go.RowKit

set_option maxHeartbeats 16000000 in
theorem int_add_by (z xb yb : Nat) (nx ny nr : Bool) (u v : Value) (N : Int) (w : World) (hz : Zb w z)
    (cx0 : w.cell? ⟨xb, 0, none⟩ = some (.bool nx)) (cx1 : w.cell? ⟨xb, 1, none⟩ = some u) (cy0 : w.cell? ⟨yb, 0, none⟩ = some (.bool ny)) (cy1 : w.cell? ⟨yb, 1, none⟩ = some v)
    (hsm : ∀ W, Below w.heap.size w W → Calls Tryd.prog 45 #[.bool nx, u, .bool (ny), v] W fun e w' => ∃ t fs, e = .returned (.tuple #[.bool nr, t]) ∧ Sl w' t fs ∧ Bg.Nrm fs ∧ Bg.val fs = N ∧ Below W.heap.size W w') :
    Calls Tryd.prog 35 #[.pointer (some ⟨z, 0, none⟩), .pointer (some ⟨xb, 0, none⟩), .pointer (some ⟨yb, 0, none⟩)] w fun e w' => e = .returned (.pointer (some ⟨z, 0, none⟩)) ∧ IntAt w' z (sgn nr N) ∧ Kp z w w' := by
  have Sm : Hid (∀ W, Below w.heap.size w W → Calls Tryd.prog 45 #[.bool nx, u, .bool (ny), v] W fun e w' => ∃ t fs, e = .returned (.tuple #[.bool nr, t]) ∧ Sl w' t fs ∧ Bg.Nrm fs ∧ Bg.val fs = N ∧ Below W.heap.size W w') := hsm
  have Hz : Hid (Zb w z) := hz
  clear hsm hz
  go_enter Tryd.func35, Tryd.ntmps35
  go_wp2
  go_region_with (first
    | (go_at_call 45; refine Calls.mono (Sm.out _ ((Below.refl _ _).drew)) ?_; rintro e w1 ⟨t, fs, rfl, hs1, hn1, hv1, hb1⟩; have Hs1 : Hid (Sl w1 t fs) := hs1; have Hn1 : Hid (Bg.Nrm fs) := hn1; have Hv1 : Hid (Bg.val fs = N) := hv1; have Hb1 : Hid (Below w.heap.size w w1) := (Below.refl _ _).drew.trans hb1; clear hs1 hn1 hv1 hb1)
    | (go_at_call 22; refine Calls.mono (give_int z nr t fs _ (Zb.below Hz Hb1) Hs1 Hn1) ?_; rintro e w2 ⟨rfl, hi2, hk2⟩))
  all_goals
    rw [Hv1.out] at hi2
    go_wp2
    go_ret
    exact ⟨rfl, hi2, (Kp.of Hb1.out).trans hk2⟩
end Go.Proofs.YthdpafcodmlenaaDoor
