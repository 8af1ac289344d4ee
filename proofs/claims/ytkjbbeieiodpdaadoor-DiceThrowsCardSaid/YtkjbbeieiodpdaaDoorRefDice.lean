/- What the reference draws. -/
import Derived.Test.YtkjbbeieiodpdaaDoorDiceB
namespace Go.Proofs.YtkjbbeieiodpdaaDoor
open Go.RowKit

theorem div30 (x : Nat) (h : x < 18446744073709551616) : IntKind.u64.wrap ((x : Int).tdiv 1073741824) = (x : Int) / 1073741824 := by
  rw [IntKind.wrap_u64, Int.tdiv_eq_ediv_of_nonneg (by omega)]; omega
theorem div27 (x : Nat) (h : x < 18446744073709551616) : IntKind.u64.wrap ((x : Int).tdiv 134217728) = (x : Int) / 134217728 := by
  rw [IntKind.wrap_u64, Int.tdiv_eq_ediv_of_nonneg (by omega)]; omega
theorem div31 (x : Nat) (h : x < 18446744073709551616) : IntKind.u64.wrap ((x : Int).tdiv 2147483648) = (x : Int) / 2147483648 := by
  rw [IntKind.wrap_u64, Int.tdiv_eq_ediv_of_nonneg (by omega)]; omega
theorem div2 (x : Nat) (h : x < 18446744073709551616) : IntKind.u64.wrap ((x : Int).tdiv 4) = (x : Int) / 4 := by
  rw [IntKind.wrap_u64, Int.tdiv_eq_ediv_of_nonneg (by omega)]; omega

set_option maxHeartbeats 400000 in
theorem ref_next_any (s : Nat) (w : World) :
    Calls Tryd.prog 5 #[.int .u64 (s : Nat)] w fun e w' => e = .returned (.tuple #[.int .u64 (Dm.stp s : Nat), .int .i64 (Dm.draw (Dm.stp s) : Nat)]) ∧ w' = w := by
  go_enter Tryd.func5, Tryd.ntmps5
  go_wp2
  go_ret2
  rw [stp_eq, div30 _ (Dm.stp_lt _), mixA_eq _ (Dm.stp_lt _), div27 _ (Dm.mixA_lt _), mixB_eq _ (Dm.mixA_lt _), div31 _ (Dm.mixB_lt _), mixC_eq _ (Dm.mixB_lt _), div2 _ (Dm.mixC_lt _ (Dm.mixB_lt _)), draw_eq]
  exact ⟨rfl, rfl⟩

theorem ref_next (s : Nat) (w : World) :
    Calls Tryd.prog 5 #[.int .u64 (s : Nat)] w fun e w' => ∃ t x : Nat, Dm.Nx s t x ∧ e = .returned (.tuple #[.int .u64 t, .int .i64 x]) ∧ w' = w := by
  refine (ref_next_any s w).mono ?_
  rintro e w1 ⟨rfl, rfl⟩
  exact ⟨_, _, ⟨rfl, rfl⟩, rfl, rfl⟩

set_option maxHeartbeats 400000 in
theorem ref_below (s n : Nat) (w : World) (h0 : 0 < n) (h1 : n ≤ 1000000) :
    Calls Tryd.prog 7 #[.int .u64 (s : Nat), .int .i64 n] w fun e w' => ∃ t x : Nat, Dm.Bl n s t x ∧ e = .returned (.tuple #[.int .u64 t, .int .i64 x]) ∧ ∃ q, w' = w.drewN q := by
  have hfe := Dm.fin_eq n h0 h1
  go_enter Tryd.func7, Tryd.ntmps7
  go_wp2_with fail
  go_loop [0] (fun v => ∃ t : Nat, v = .int .u64 (t : Nat) ∧ ∀ u, Dm.Bel n t u → Dm.Bel n s u) (fun v => Dm.left n (Dm.stp (intOf v).toNat))
  case atStart => exact ⟨s, rfl, fun _ h => h⟩
  case round =>
    obtain ⟨t, rfl, ht⟩ := hrel
    have Ht : Hid (∀ u, Dm.Bel n t u → Dm.Bel n s u) := ht
    clear ht
    go_wp2_with fail
    refine (ref_next t _).mono ?_
    rintro e w1 ⟨t1, y, hn, rfl, rfl⟩
    have b1 := hn.lt
    have Hn : Hid (Dm.Nx t t1 y) := hn
    clear hn
    by_cases hc : y < Dm.fin n
    · go_wp2
      go_quiet (fail)
      go_wp2
      go_ret2
      refine ⟨t1, y % n, ⟨Ht.out _ ?_, by rw [Hn.out.2]⟩, by rw [Int.natCast_emod]; rfl, _, rfl⟩
      have h2 := Dm.Bel.acc (n := n) t (by rw [← Hn.out.1, ← Hn.out.2]; exact hc)
      rw [← Hn.out.1] at h2
      exact h2
    · go_wp2
      go_round
      case rel => exact ⟨t1, rfl, fun u hu => Ht.out u (.rej t u (by rw [← Hn.out.1, ← Hn.out.2]; exact hc) (by rw [← Hn.out.1]; exact hu))⟩
      case measure =>
        simp only [intOf, Int.toNat_natCast]
        have := Dm.left_step n t1 h0 h1 (by rw [← Hn.out.2]; exact hc)
        rw [← Hn.out.1]
        exact this
end Go.Proofs.YtkjbbeieiodpdaaDoor
