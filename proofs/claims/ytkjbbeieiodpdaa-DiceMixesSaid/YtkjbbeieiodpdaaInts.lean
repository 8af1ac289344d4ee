/- Lists of integers: what a slice holds; what marchsame.Ints answers. -/
import Derived.Test.YtkjbbeieiodpdaaRows
import Derived.Test.YtkjbbeieiodpdaaKeep
import Derived.Test.YtkjbbeieiodpdaaArgs
import Derived.WalkKit
import Derived.WalkSpells
import Derived.WalkLawsBesides
import Derived.Deep.QuietTactic
import Derived.BigQuiet
namespace Go.Proofs.Ytkjbbeieiodpdaa
open Go.RowKit

/-- the cells of a list, from an address on. -/
def Cells (w : World) (a : Option Addr) (xs : List Int) : Prop := xs ≠ [] → ∃ x, a = some x ∧ x.block < w.heap.size ∧ ∀ i d, xs[i]? = some d → w.cell? (x.add i) = some (.int .i64 d)
/-- v is a slice of the integers xs. -/
def Ro (w : World) (v : Value) (xs : List Int) : Prop := ∃ (a : Option Addr) (c : Nat), v = .slice a xs.length c ∧ xs.length ≤ c ∧ c ≤ 9223372036854775807 ∧ Cells w a xs

theorem cell_lt {w : World} {x : Addr} {v : Value} (h : w.cell? x = some v) : x.block < w.heap.size := by
  rcases Nat.lt_or_ge x.block w.heap.size with h1 | h1
  · exact h1
  · simp [World.cell?, Array.getElem?_eq_none h1] at h

theorem add_block (x : Addr) (i : Nat) : (x.add i).block = x.block := by unfold Addr.add; split <;> rfl

theorem Cells.below {w w' : World} {a : Option Addr} {xs : List Int} (h : Cells w a xs) (hb : Below w.heap.size w w') : Cells w' a xs := fun hx => by
  obtain ⟨x, ha, hl, hc⟩ := h hx
  refine ⟨x, ha, Nat.lt_of_lt_of_le hl hb.size, fun i d hd => ?_⟩
  rw [hb.cell (p := x.add i) (by rw [add_block]; exact hl)]
  exact hc i d hd
theorem Ro.below {w w' : World} {v : Value} {xs : List Int} (h : Ro w v xs) (hb : Below w.heap.size w w') : Ro w' v xs := by
  obtain ⟨a, c, h1, h2, h3, h4⟩ := h
  exact ⟨a, c, h1, h2, h3, h4.below hb⟩
theorem Ro.drewN {w : World} {v : Value} {xs : List Int} (h : Ro w v xs) (n : Nat) : Ro (w.drewN n) v xs := h.below (below_drewN (Below.refl _ _) n)

/-- what came in. -/
theorem IsRow.ro {w : World} {a : Option Addr} {len cap : Nat} {zs : List Int} (h : IsRow .i64 w a len cap zs) : Ro w (.slice a len cap) (zs.take len) := by
  rcases h with ⟨rfl, rfl, rfl, rfl⟩ | ⟨x, rfl, h1, h2, h3, h4, h5⟩
  · exact ⟨none, 0, rfl, Nat.le_refl _, by omega, fun h => absurd rfl h⟩
  · have hl : (zs.take len).length = len := by rw [List.length_take]; omega
    refine ⟨some x, cap, by rw [hl], by omega, by unfold maxLen at h2; omega, fun hx => ⟨x, rfl, ?_, fun i d hd => ?_⟩⟩
    · have h0 : 0 < zs.length := by
        rcases Nat.eq_zero_or_pos zs.length with h | h
        · exact absurd (by rw [List.length_eq_zero_iff.1 h]; simp) hx
        · exact h
      have := cell_lt (x := x.add 0) (h4 0 h0)
      rwa [add_block] at this
    · rw [List.getElem?_take] at hd
      split at hd
      · obtain ⟨hi, he⟩ := List.getElem?_eq_some_iff.1 hd
        rw [h4 i hi, List.getD_eq_getElem?_getD, hd]
        rfl
      · cases hd

set_option maxHeartbeats 400000 in
theorem ints_any (u v : Value) (xs ys : List Int) (w : World) (hu : Ro w u xs) (hv : Ro w v ys) :
    Calls Try.prog 7 #[u, v] w fun e w' => e = .returned (.bool (decide (xs = ys))) ∧ ∃ n, w' = w.drewN n := by
  obtain ⟨a, c, rfl, hc1, hc2, ha⟩ := hu
  obtain ⟨b, d, rfl, hd1, hd2, hb⟩ := hv
  have Ha : Hid (Cells w a xs) := ha
  have Hb : Hid (Cells w b ys) := hb
  clear ha hb
  by_cases hl : xs.length = ys.length
  · have Hl : Hid (xs.length = ys.length) := hl
    rw [← hl] at hd1 ⊢
    clear hl
    go_enter Try.func7, Try.ntmps7
    go_wp2_with fail
    go_loopw [5] (fun i W => ∃ (k q : Nat), k ≤ xs.length ∧ i = .int .i64 (k : Nat) ∧ xs.take k = ys.take k ∧ W = w.drewN q) (fun i _ => xs.length - (intOf i).toNat)
    case atStart => exact ⟨0, 0, Nat.zero_le _, rfl, by simp, rfl⟩
    case round =>
      obtain ⟨k, q, hk, rfl, ht, rfl⟩ := hrel
      have Ht : Hid (xs.take k = ys.take k) := ht
      clear ht
      by_cases h0 : k = xs.length
      · subst h0
        go_wp2
        go_ret
        refine ⟨?_, q, rfl⟩
        have e := Ht.out
        rw [List.take_of_length_le (Nat.le_refl _), Hl.out, List.take_of_length_le (Nat.le_refl _)] at e
        simp [e]
      · have hkx : k < xs.length := by omega
        have hky : k < ys.length := by rw [← Hl.out]; exact hkx
        obtain ⟨x, rfl, -, hx⟩ := Ha.out (by intro h; rw [h] at hkx; simp at hkx)
        obtain ⟨y, rfl, -, hy⟩ := Hb.out (by intro h; rw [h] at hky; simp at hky)
        have cx := hx k xs[k] (List.getElem?_eq_getElem hkx)
        have cy := hy k ys[k] (List.getElem?_eq_getElem hky)
        have Te : Hid (xs.take (k + 1) = ys.take (k + 1) ↔ xs[k] = ys[k]) := by
          unfold Hid
          rw [List.take_succ_eq_append_getElem hkx, List.take_succ_eq_append_getElem hky, Ht.out]
          exact ⟨fun h => (List.cons.inj (List.append_cancel_left h)).1, fun h => by rw [h]⟩
        generalize xs[k] = p at *
        generalize ys[k] = r at *
        clear hx hy
        by_cases hpr : p = r
        · subst hpr
          go_wp2
          go_quiet (fail)
          go_wp2
          go_round
          case rel => exact ⟨k + 1, q + nq, by omega, by go_num, by first | exact Te.out.2 rfl | exact Te.out.2 trivial, rfl⟩
          case measure => simp [intOf]; omega
        · go_wp2
          go_quiet (fail)
          go_wp2
          go_ret
          refine ⟨?_, q + nq, by rw [World.drewN_drewN]⟩
          have : xs ≠ ys := fun h => hpr (Te.out.1 (by rw [h]))
          simp [this]
  · go_enter Try.func7, Try.ntmps7
    go_wp2
    go_ret
    refine ⟨?_, 0, rfl⟩
    have : xs ≠ ys := fun h => hl (by rw [h])
    simp [this]
end Go.Proofs.Ytkjbbeieiodpdaa
