/- Are two lists of orders the same? -/
import Derived.Test.YtkceccajamdbjaaDoorOrA
import Derived.Test.YtkceccajamdbjaaDoorKeep
import Derived.Laws.Closers25
import Derived.IntWalk
import Derived.BigRegion
namespace Go.Proofs.YtkceccajamdbjaaDoor
open Go.RowKit
set_option linter.unusedVariables false

set_option maxRecDepth 100000 in
set_option maxHeartbeats 4000000 in
theorem orders_like (u v : Value) (ks : List OrV) (w : World) (hu : Orl w u ks) (hv : Orl w v ks) :
    Calls Tryd.prog 17 #[u, v] w fun e w' => e = .returned (.bool true) ∧ Below w.heap.size w w' := by
  obtain ⟨a, c, rfl, hc1, hc2, ha⟩ := hu
  obtain ⟨b, d, rfl, hd1, hd2, hb⟩ := hv
  have Ha : Hid (ks ≠ [] → ∃ x, a = some x ∧ x.block < w.heap.size ∧ ∀ (i : Nat) k, ks[i]? = some k → Orc w (x.add (i * 4)) k) := ha
  have Hb : Hid (ks ≠ [] → ∃ x, b = some x ∧ x.block < w.heap.size ∧ ∀ (i : Nat) k, ks[i]? = some k → Orc w (x.add (i * 4)) k) := hb
  clear ha hb
  go_enter Tryd.func17, Tryd.ntmps17
  go_wp2
  go_loopw [5] (fun i W' => ∃ k : Nat, k ≤ ks.length ∧ i = .int .i64 (k : Nat) ∧ ∃ n, W' = w.drewN n) (fun i _ => ks.length - (intOf i).toNat)
  case atStart => exact ⟨0, Nat.zero_le _, rfl, 0, rfl⟩
  case round =>
    obtain ⟨k, hk, rfl, n, rfl⟩ := hrel
    by_cases h0 : k = ks.length
    · subst h0
      have B : Hid (Below w.heap.size w (w.drewN n)) := ⟨rfl, rfl, rfl, Nat.le_refl _, fun _ _ => rfl⟩
      go_wp2
      go_ret
      exact ⟨rfl, B⟩
    · have hlt : k < ks.length := by omega
      have hlti : ((k : Nat) : Int) < (ks.length : Nat) := by omega
      obtain ⟨o, ho⟩ : ∃ o, ks[k]? = some o := ⟨_, List.getElem?_eq_getElem hlt⟩
      have hne : ks ≠ [] := by rintro rfl; simp at hlt
      obtain ⟨x, rfl, hx, hxc⟩ := Ha.out hne
      obtain ⟨y, rfl, hy, hyc⟩ := Hb.out hne
      have cx := hxc k o ho
      have cy := hyc k o ho
      obtain ⟨q0, q1, q2, q3⟩ := cx
      obtain ⟨r0, r1, r2, r3⟩ := cy
      clear hxc hyc hne ho
      go_wp2
      go_quiet (fail)
      go_wp2
      go_round
      case rel => exact ⟨k + 1, by omega, by go_num, n + nq, rfl⟩
      case measure => simp [intOf]; omega
end Go.Proofs.YtkceccajamdbjaaDoor
