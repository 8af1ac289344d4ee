/- The walk of DiceForks. -/
import Derived.Test.YtkjbbeieiodpdaaDiceB
import Derived.ProofKit
import Derived.OpenShut
import Derived.IntWalk
namespace Go.Proofs.Ytkjbbeieiodpdaa.diceForks
open Go.RowKit

theorem seed_back (n : Int) (h : -9223372036854775808 ≤ n ∧ n ≤ 9223372036854775807) : wrap64 ((Dm.bitsOf n : Nat) : Int) = n := by
  unfold wrap64 Dm.bitsOf
  omega
theorem state_back (s : Nat) (h : s < 18446744073709551616) : Dm.bitsOf (wrap64 (s : Int)) = s := by
  unfold wrap64 Dm.bitsOf
  omega

set_option maxHeartbeats 1000000 in
theorem walk (a0 a1 a2 : Int) (w0 : (Lit.int .i64 a0).wf = true) (_ : (Lit.int .i64 a1).wf = true) (_ : (Lit.int .i64 a2).wf = true) (w : World) :
    Calls Try.prog 4 #[.int .i64 a0, .int .i64 a1, .int .i64 a2] w fun e w' => e = .returned (.bool true) ∧ Below w.heap.size w w' := by
  have hb := bounds_i64 w0
  have hsb := seed_back a0 (by omega)
  clear hb
  go_enter Try.func4, Try.ntmps4
  go_wp2_with fail
  refine (new_di a0 _).mono ?_
  rintro e w1 ⟨sa, hs, rfl, d, b, z⟩
  have D1 : Hid (Di w1 _ sa) := d
  have B1 : Hid (Below w.heap.size w w1) := b
  have Z1 : Hid (w1.heap.size = w.heap.size + 1) := z
  have S1 : Hid (sa = Dm.bitsOf a0) := hs
  clear d b z hs
  go_wp2_with fail
  refine (new_di a0 _).mono ?_
  rintro e w2 ⟨sb, hs, rfl, d, b, z⟩
  have D2 : Hid (Di w2 _ sb) := d
  have B2 : Hid (Below w1.heap.size w1 w2) := b
  have Z2 : Hid (w2.heap.size = w1.heap.size + 1) := z
  have S2 : Hid (sb = Dm.bitsOf a0) := hs
  clear d b z hs
  have es : sb = sa := S2.out.trans S1.out.symm
  subst es
  have hsb : wrap64 ((sb : Nat) : Int) = a0 := by rw [S1.out]; exact hsb
  have D1 : Hid (Di w2 w.heap.size sb) := D1.out.below B2
  go_wp2_with fail
  refine (state_any _ _ _ D1).mono ?_
  rintro e w3 ⟨rfl, rfl⟩
  go_wp2_with fail
  refine (fork_di _ _ a1 _ D1).mono ?_
  rintro e w4 ⟨sf, hs, rfl, d, b, z⟩
  have D4 : Hid (Di w4 _ sf) := d
  have B4 : Hid (Below w3.heap.size w3 w4) := b
  have Z4 : Hid (w4.heap.size = w3.heap.size + 1) := z
  have S4 : Hid (sf = Dm.fork sb a1) := hs
  clear d b z hs
  have D1 : Hid (Di w4 w.heap.size sb) := D1.out.below B4
  have D2 : Hid (Di w4 w1.heap.size sb) := D2.out.below B4
  go_wp2_with fail
  refine (fork_di _ _ a1 _ D2).mono ?_
  rintro e w5 ⟨sg, hs, rfl, d, b, z⟩
  have D5 : Hid (Di w5 _ sg) := d
  have B5 : Hid (Below w4.heap.size w4 w5) := b
  have Z5 : Hid (w5.heap.size = w4.heap.size + 1) := z
  have S5 : Hid (sg = Dm.fork sb a1) := hs
  clear d b z hs
  have es : sg = sf := S5.out.trans S4.out.symm
  subst es
  have D1 : Hid (Di w5 w.heap.size sb) := D1.out.below B5
  have D2 : Hid (Di w5 w1.heap.size sb) := D2.out.below B5
  have D4 : Hid (Di w5 w3.heap.size sg) := D4.out.below B5
  have hz : w1.heap.size = w.heap.size + 1 ∧ w3.heap.size = w.heap.size + 2 ∧ w4.heap.size = w.heap.size + 3 ∧ w5.heap.size = w.heap.size + 4 := by
    have z1 := Z1.out
    have z2 := Z2.out
    have z4 := Z4.out
    have z5 := Z5.out
    omega
  have B : Hid (Below w.heap.size w w5) := by
    have q1 := B1.out.trans (B2.out.mono (by omega))
    have q2 := q1.trans (B4.out.mono (by omega))
    exact q2.trans (B5.out.mono (by omega))
  have E : Hid (w1.heap.size = w.heap.size + 1 ∧ w3.heap.size = w.heap.size + 2 ∧ w4.heap.size = w.heap.size + 3 ∧ w5.heap.size = w.heap.size + 4) := hz
  have Ez : Hid (w5.heap.size = w.heap.size + 4) := hz.2.2.2
  clear Z1 Z2 Z4 Z5 B1 B2 B4 B5 hz S1 S2 S4 S5
  go_wp2_with fail
  refine (next_di _ _ _ D4).mono ?_
  rintro e w6 ⟨tf, x, hn, rfl, d, k, z⟩
  have N4 : Hid (Dm.Nx _ tf x) := hn
  have l6 := hn.lt
  have B : Hid (Below w.heap.size w w6) := Kp.below B.out k (by have := E.out; have := Ez.out; omega) (by have := E.out; omega)
  have D1 : Hid (Di w6 _ _) := D1.out.kp k (by have := E.out; omega)
  have D2 : Hid (Di w6 _ _) := D2.out.kp k (by have := E.out; omega)
  have D5 : Hid (Di w6 _ _) := D5.out.kp k (by have := E.out; omega)
  have D4 : Hid (Di w6 _ tf) := d
  have Ez : Hid (w6.heap.size = w.heap.size + 4) := z.trans Ez.out
  clear d k z hn
  go_wp2_with fail
  refine (next_di _ _ _ D5).mono ?_
  rintro e w7 ⟨tg, y, hn, rfl, d, k, z⟩
  have N5 : Hid (Dm.Nx _ tg y) := hn
  have l7 := hn.lt
  have B : Hid (Below w.heap.size w w7) := Kp.below B.out k (by have := E.out; have := Ez.out; omega) (by have := E.out; omega)
  have D1 : Hid (Di w7 _ _) := D1.out.kp k (by have := E.out; omega)
  have D2 : Hid (Di w7 _ _) := D2.out.kp k (by have := E.out; omega)
  have D5 : Hid (Di w7 _ tg) := d
  have Ez : Hid (w7.heap.size = w.heap.size + 4) := z.trans Ez.out
  clear d k z hn
  obtain ⟨_, es⟩ := N5.out.uniq N4.out
  subst es
  go_wp2_with fail
  refine (next_di _ _ _ D1).mono ?_
  rintro e w8 ⟨ta, p, hn, rfl, d, k, z⟩
  have N1 : Hid (Dm.Nx _ ta p) := hn
  have l8 := hn.lt
  have B : Hid (Below w.heap.size w w8) := Kp.below B.out k (by have := E.out; have := Ez.out; omega) (by have := E.out; omega)
  have D2 : Hid (Di w8 _ _) := D2.out.kp k (by have := E.out; omega)
  have D1 : Hid (Di w8 _ ta) := d
  have Ez : Hid (w8.heap.size = w.heap.size + 4) := z.trans Ez.out
  clear d k z hn
  go_wp2_with fail
  refine (next_di _ _ _ D2).mono ?_
  rintro e w9 ⟨tb, q, hn, rfl, d, k, z⟩
  have N2 : Hid (Dm.Nx _ tb q) := hn
  have l9 := hn.lt
  have B : Hid (Below w.heap.size w w9) := Kp.below B.out k (by have := E.out; have := Ez.out; omega) (by have := E.out; omega)
  have D1 : Hid (Di w9 _ _) := D1.out.kp k (by have := E.out; omega)
  have D2 : Hid (Di w9 _ tb) := d
  have Ez : Hid (w9.heap.size = w.heap.size + 4) := z.trans Ez.out
  clear d k z hn
  obtain ⟨_, es⟩ := N2.out.uniq N1.out
  subst es
  clear N1 N2 N4 N5 D4 D5 D2
  go_wp2_with fail
  refine (state_any _ _ _ D1).mono ?_
  rintro e w10 ⟨rfl, rfl⟩
  go_wp2_with fail
  refine (new_di _ _).mono ?_
  rintro e w11 ⟨sc, hs, rfl, d, b, z⟩
  rw [state_back ta D1.out.2] at hs
  subst hs
  have D3 : Hid (Di w11 w10.heap.size sc) := d
  have D1 : Hid (Di w11 w.heap.size sc) := D1.out.below b
  have B : Hid (Below w.heap.size w w11) := B.out.trans (b.mono (by have := Ez.out; omega))
  have Ez : Hid (w10.heap.size = w.heap.size + 4) := Ez
  have Es : Hid (w11.heap.size = w.heap.size + 5) := by have := Ez.out; unfold Hid; omega
  clear d b z
  by_cases hn : 1 ≤ a2 ∧ a2 ≤ 1000000
  · obtain ⟨n, rfl⟩ : ∃ n : Nat, a2 = n := ⟨a2.toNat, by omega⟩
    have n0 : 0 < n := by omega
    have n1 : n ≤ 1000000 := by omega
    clear hn
    go_wp2_with fail
    refine (Below_ok _ _ n _ n0 n1 D1).mono ?_
    rintro e w12 ⟨ta, u, hb, rfl, d, k, z⟩
    have U : Hid (Dm.Bl n sc ta u) := hb
    have B : Hid (Below w.heap.size w w12) := Kp.below B.out k (by have := Es.out; omega) (by omega)
    have D3 : Hid (Di w12 w10.heap.size sc) := D3.out.kp k (by have := Ez.out; omega)
    have D1 : Hid (Di w12 w.heap.size ta) := d
    have Es : Hid (w12.heap.size = w.heap.size + 5) := z.trans Es
    have lu := hb.lt n0
    clear hb d k z
    go_wp2_with fail
    refine (Below_ok _ _ n _ n0 n1 D3).mono ?_
    rintro e w13 ⟨tc, v, hb, rfl, d, k, z⟩
    obtain ⟨e1, e2⟩ := hb.uniq U.out
    subst e1
    subst e2
    have B : Hid (Below w.heap.size w w13) := Kp.below B.out k (by have := Es.out; omega) (by have := Ez.out; omega)
    have D1 : Hid (Di w13 w.heap.size tc) := D1.out.kp k (by have := Ez.out; omega)
    have D3 : Hid (Di w13 w10.heap.size tc) := d
    clear hb d k z
    go_wp2_with fail
    go_quiet (first
      | (exact Calls.quiet_of_same (state_any _ _ _ (D1.out.drewN _)))
      | (exact Calls.quiet_of_same (state_any _ _ _ (D3.out.drewN _))))
    go_wp2
    go_ret
    exact ⟨rfl, below_drewN B.out _⟩
  · have Hn : Hid (¬ (1 ≤ a2 ∧ a2 ≤ 1000000)) := hn
    clear hn
    go_wp2_with fail
    refine (Below_bad _ a2 _ Hn).mono ?_
    rintro e w12 ⟨rfl, rfl⟩
    go_wp2_with fail
    refine (Below_bad _ a2 _ Hn).mono ?_
    rintro e w12 ⟨rfl, rfl⟩
    go_wp2_with fail
    go_quiet (first
      | (exact Calls.quiet_of_same (state_any _ _ _ (D1.out.drewN _)))
      | (exact Calls.quiet_of_same (state_any _ _ _ (D3.out.drewN _))))
    go_wp2
    go_ret
    exact ⟨rfl, below_drewN B.out _⟩
end Go.Proofs.Ytkjbbeieiodpdaa.diceForks
