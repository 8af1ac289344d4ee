/- Lists of integers: what marchsame.Ints answers. -/
import Derived.Test.YtefepjiajgoomaaDoorIntsR
namespace Go.Proofs.YtefepjiajgoomaaDoor
open Go.RowKit

set_option maxHeartbeats 400000 in
theorem ints_any (u v : Value) (xs ys : List Int) (w : World) (hu : Ro w u xs) (hv : Ro w v ys) :
    Calls Tryd.prog 57 #[u, v] w fun e w' => e = .returned (.bool (decide (xs = ys))) ∧ ∃ n, w' = w.drewN n := by
  obtain ⟨a, c, rfl, hc1, hc2, ha⟩ := hu
  obtain ⟨b, d, rfl, hd1, hd2, hb⟩ := hv
  have Ha : Hid (Cells w a xs) := ha
  have Hb : Hid (Cells w b ys) := hb
  clear ha hb
  by_cases hl : xs.length = ys.length
  · have Hl : Hid (xs.length = ys.length) := hl
    rw [← hl] at hd1 ⊢
    clear hl
    go_enter Tryd.func57, Tryd.ntmps57
    go_wp2_with fail
    go_loopw [5] (fun i W => ∃ (k q : Nat), k ≤ xs.length ∧ i = .int .i64 (k : Nat) ∧ xs.take k = ys.take k ∧ W = w.drewN q) (fun i _ => xs.length - (intOf i).toNat)
    case atStart => exact ⟨0, 0, Nat.zero_le _, rfl, by simp, rfl⟩
    case round =>
      obtain ⟨k, q, hk, rfl, ht, rfl⟩ := hrel
      have Ht : Hid (xs.take k = ys.take k) := ht
      clear ht
      by_cases h0 : k = xs.length
      · subst h0
        go_wp2
        go_ret
        refine ⟨?_, q, rfl⟩
        have e := Ht.out
        rw [List.take_of_length_le (Nat.le_refl _), Hl.out, List.take_of_length_le (Nat.le_refl _)] at e
        simp [e]
      · have hkx : k < xs.length := by omega
        have hky : k < ys.length := by rw [← Hl.out]; exact hkx
        obtain ⟨x, rfl, -, hx⟩ := Ha.out (by intro h; rw [h] at hkx; simp at hkx)
        obtain ⟨y, rfl, -, hy⟩ := Hb.out (by intro h; rw [h] at hky; simp at hky)
        have cx := hx k xs[k] (List.getElem?_eq_getElem hkx)
        have cy := hy k ys[k] (List.getElem?_eq_getElem hky)
        have Te : Hid (xs.take (k + 1) = ys.take (k + 1) ↔ xs[k] = ys[k]) := by
          unfold Hid
          rw [List.take_succ_eq_append_getElem hkx, List.take_succ_eq_append_getElem hky, Ht.out]
          exact ⟨fun h => (List.cons.inj (List.append_cancel_left h)).1, fun h => by rw [h]⟩
        generalize xs[k] = p at *
        generalize ys[k] = r at *
        clear hx hy
        by_cases hpr : p = r
        · subst hpr
          go_wp2
          go_quiet (fail)
          go_wp2
          go_round
          case rel => exact ⟨k + 1, q + nq, by omega, by go_num, by first | exact Te.out.2 rfl | exact Te.out.2 trivial, rfl⟩
          case measure => simp [intOf]; omega
        · go_wp2
          go_quiet (fail)
          go_wp2
          go_ret
          refine ⟨?_, q + nq, by rw [World.drewN_drewN]⟩
          have : xs ≠ ys := fun h => hpr (Te.out.1 (by rw [h]))
          simp [this]
  · go_enter Tryd.func57, Tryd.ntmps57
    go_wp2
    go_ret
    refine ⟨?_, 0, rfl⟩
    have : xs ≠ ys := fun h => hl (by rw [h])
    simp [this]
end Go.Proofs.YtefepjiajgoomaaDoor
