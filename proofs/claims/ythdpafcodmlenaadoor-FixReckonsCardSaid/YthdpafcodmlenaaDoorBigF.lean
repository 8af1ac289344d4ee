/- Whole numbers of any size: what Set does. -/
import Derived.Test.YthdpafcodmlenaaDoorBigE
namespace Go.Proofs.YthdpafcodmlenaaDoor
open Go.RowKit

set_option maxHeartbeats 4000000 in
theorem int_set (z xb : Nat) (x : Int) (w : World) (hz : Zb w z) (hx : IntAt w xb x) (hl : -79228162514264337593543950336 < x ∧ x < 79228162514264337593543950336) :
    Calls Tryd.prog 33 #[.pointer (some ⟨z, 0, none⟩), .pointer (some ⟨xb, 0, none⟩)] w fun e w' => e = .returned (.pointer (some ⟨z, 0, none⟩)) ∧ IntAt w' z x ∧ Kp z w w' := by
  obtain ⟨u, ds, cx0, cx1, hu, hd, vd, lx⟩ := hx.open
  have ld : ds.length ≤ 1000 := by
    have : ds.length ≤ 3 := by
      refine Bg.len_le ds hd 3 ?_
      have e : (4294967296 : Int) ^ 3 = 79228162514264337593543950336 := by decide
      rw [e, vd]
      omega
    omega
  have Tw : Hid (∀ W, Below w.heap.size w W → Calls Tryd.prog 32 #[u] W fun e w' => ∃ v', e = .returned v' ∧ Sl w' v' ds ∧ Below W.heap.size W w') := fun W hb => twin_any u ds W (hu.below hb) ld
  have Hz : Hid (Zb w z) := hz
  have Lx : Hid (xb < w.heap.size) := lx
  have Cx0 : Hid (w.cell? ⟨xb, 0, none⟩ = some (.bool (decide (x < 0)))) := cx0
  have Hd : Hid (Bg.Nrm ds) := hd
  have Vd : Hid (Bg.val ds = x.natAbs) := vd
  have Sg : Hid (sgn (decide (x < 0)) (x.natAbs : Int) = x) := sgn_self x
  clear hz hx hl hu hd vd lx ld
  generalize decide (x < 0) = nx at *
  go_enter Tryd.func33, Tryd.ntmps33
  go_wp2
  go_region_with (first
    | (go_at_call 32; refine Calls.mono (Tw.out _ ((Below.refl _ _).drew)) ?_; rintro e w1 ⟨t, rfl, hs1, hb1⟩; have b1 : Below w.heap.size w w1 := (Below.refl _ _).drew.trans hb1; have dx0 : w1.cell? ⟨xb, 0, none⟩ = some (.bool nx) := (by rw [b1.cell (p := ⟨xb, 0, none⟩) Lx]; exact Cx0); have Hs1 : Hid (Sl w1 t ds) := hs1; have Hb1 : Hid (Below w.heap.size w w1) := b1; clear hs1 hb1 b1)
    | (go_at_call 22; refine Calls.mono (give_int z nx t ds _ (Zb.below Hz Hb1) Hs1 Hd) ?_; rintro e w2 ⟨rfl, hi2, hk2⟩))
  all_goals
    rw [Vd.out, Sg.out] at hi2
    go_wp2
    go_ret
    exact ⟨rfl, hi2, (Kp.of Hb1.out).trans hk2⟩
end Go.Proofs.YthdpafcodmlenaaDoor
