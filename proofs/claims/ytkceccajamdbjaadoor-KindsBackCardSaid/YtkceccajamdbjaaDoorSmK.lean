/- Are two lists of kinds the same? -/
import Derived.Test.YtkceccajamdbjaaDoorKdA
import Derived.Test.YtkceccajamdbjaaDoorKeep
import Derived.Laws.Closers25
import Derived.IntWalk
import Derived.BigRegion
namespace Go.Proofs.YtkceccajamdbjaaDoor
open Go.RowKit
set_option linter.unusedVariables false

set_option maxRecDepth 100000 in
set_option maxHeartbeats 8000000 in
theorem kinds_like (u v : Value) (ks : List KV) (w : World) (hu : Kl w u ks) (hv : Kl w v ks) :
    Calls Tryd.prog 9 #[u, v] w fun e w' => e = .returned (.bool true) ∧ Below w.heap.size w w' := by
  obtain ⟨a, c, rfl, hc1, hc2, ha⟩ := hu
  obtain ⟨b, d, rfl, hd1, hd2, hb⟩ := hv
  have Ha : Hid (ks ≠ [] → ∃ x, a = some x ∧ x.block < w.heap.size ∧ ∀ (i : Nat) k, ks[i]? = some k → Kc w (x.add (i * 11)) k) := ha
  have Hb : Hid (ks ≠ [] → ∃ x, b = some x ∧ x.block < w.heap.size ∧ ∀ (i : Nat) k, ks[i]? = some k → Kc w (x.add (i * 11)) k) := hb
  clear ha hb
  go_enter Tryd.func9, Tryd.ntmps9
  go_wp2
  go_loopw [5] (fun i W' => ∃ k : Nat, k ≤ ks.length ∧ i = .int .i64 (k : Nat) ∧ ∃ n, W' = w.drewN n) (fun i _ => ks.length - (intOf i).toNat)
  case atStart => exact ⟨0, Nat.zero_le _, rfl, 0, rfl⟩
  case round =>
    obtain ⟨k, hk, rfl, n, rfl⟩ := hrel
    by_cases h0 : k = ks.length
    · subst h0
      have B : Hid (Below w.heap.size w (w.drewN n)) := ⟨rfl, rfl, rfl, Nat.le_refl _, fun _ _ => rfl⟩
      go_wp2
      go_ret
      exact ⟨rfl, B⟩
    · have hlt : k < ks.length := by omega
      have hlti : ((k : Nat) : Int) < (ks.length : Nat) := by omega
      obtain ⟨o, ho⟩ : ∃ o, ks[k]? = some o := ⟨_, List.getElem?_eq_getElem hlt⟩
      have hne : ks ≠ [] := by rintro rfl; simp at hlt
      obtain ⟨x, rfl, hx, hxc⟩ := Ha.out hne
      obtain ⟨y, rfl, hy, hyc⟩ := Hb.out hne
      have cx := hxc k o ho
      have cy := hyc k o ho
      obtain ⟨q0, q1, q2, q3, q4, q5, q6, q7, q8, q9, q10⟩ := cx
      obtain ⟨r0, r1, r2, r3, r4, r5, r6, r7, r8, r9, r10⟩ := cy
      clear hxc hyc hne ho
      go_wp2
      go_quiet (fail)
      go_wp2
      go_round
      case rel => exact ⟨k + 1, by omega, by go_num, n + nq, rfl⟩
      case measure => simp [intOf]; omega
end Go.Proofs.YtkceccajamdbjaaDoor
