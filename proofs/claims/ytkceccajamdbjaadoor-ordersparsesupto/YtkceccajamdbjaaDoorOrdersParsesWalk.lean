/- The walk of OrdersParses. -/
import Derived.Test.YtkceccajamdbjaaDoorRoP
import Derived.Test.YtkceccajamdbjaaDoorOdP
import Derived.Test.YtkceccajamdbjaaDoorSmO
import Derived.Test.YtkceccajamdbjaaDoorSaE
import Derived.Test.YtkceccajamdbjaaDoorOdLaid
import Derived.ProofKit
import Derived.OpenShut
import Derived.IntWalk
namespace Go.Proofs.YtkceccajamdbjaaDoor.ordersParses
open Go.RowKit
set_option linter.unusedVariables false

set_option maxRecDepth 100000 in
set_option maxHeartbeats 4000000 in
theorem walk (s0 : ByteArray) (w : World) (hs : s0.size ≤ 1048576) (he : Et w) (hp : Pw w) (hy : Sy w) (hn : Nm w) :
    Calls Tryd.prog 5 #[.string s0] w fun e w' => e = .returned (.bool true) ∧ Below w.heap.size w w' := by
  have G0 : Hid (Et w ∧ Pw w ∧ Sy w ∧ Nm w) := ⟨he, hp, hy, hn⟩
  have HS : Hid (s0.size ≤ 1048576) := hs
  clear he hp hy hn hs
  go_enter Tryd.func5, Tryd.ntmps5
  go_wp2_with fail
  refine (ref_oparse s0 _ HS.out).mono ?_
  rintro e w1 ⟨v1, k1, f1, ks1, rfl, l1, p1, b1⟩
  have B1 : Hid (Below w.heap.size w w1) := b1
  have L1 : Hid (Orl w1 v1 ks1) := l1
  have P1 : Hid (ParSays s0.data.toList ks1 k1 f1) := p1
  clear b1 l1 p1
  go_wp2_with fail
  refine (oparse_any s0 _ (by have := HS.out; omega) (G0.out.2.2.2.below B1.out (Nat.le_refl _)) (G0.out.2.1.below B1.out) (G0.out.2.2.1.below B1.out)).mono ?_
  rintro e w2 ⟨v2, k2, u2, f2, ks2, rfl, l2, e2, p2, b2⟩
  obtain ⟨h1, h2, h3⟩ := p2.same P1.out
  subst h1 h2 h3
  have B2 : Hid (Below w.heap.size w w2) := B1.out.trans (b2.mono B1.out.size)
  have L2 : Hid (Orl w2 v2 ks2) := l2
  have L1' : Hid (Orl w2 v1 ks2) := L1.out.below b2
  have E2 : Hid (Er u2 f2) := e2
  clear b2 l2 e2 p2 P1 L1 B1
  go_wp2_with fail
  refine (er_same u2 f2 _ E2.out (G0.out.1.below B2.out)).mono ?_
  rintro e w3 ⟨rfl, b3⟩
  have B3 : Hid (Below w.heap.size w w3) := B2.out.trans (b3.mono B2.out.size)
  have L3 : Hid (Orl w3 v2 ks2) := L2.out.below b3
  have L4 : Hid (Orl w3 v1 ks2) := L1'.out.below b3
  clear b3 L2 L1' B2 E2
  go_wp2_with fail
  refine (orders_like v2 v1 ks2 _ L3.out L4.out).mono ?_
  rintro e w4 ⟨rfl, b4⟩
  have B4 : Hid (Below w.heap.size w w4) := B3.out.trans (b4.mono B3.out.size)
  clear b4 L3 L4 B3
  go_wp2
  go_ret
  exact ⟨by simp, B4⟩
end Go.Proofs.YtkceccajamdbjaaDoor.ordersParses
