/- Fields: Sees. -/
import Derived.Test.YthnfaflhecfnfaaDoorFdS
namespace Go.Proofs.YthnfaflhecfnfaaDoor
open Go.RowKit
set_option linter.unusedVariables false

set_option maxHeartbeats 1000000 in
theorem idx3_any (u q q2 q3 : Value) (xs : List Int) (p : Int → Bool) (w : World) (hu : Ro w u xs)
    (hp : ∀ x ∈ xs, Calls Tryd.prog 35 #[.int .i64 x, q, q2, q3] w fun e w' => e = .returned (.bool (p x)) ∧ w' = w) :
    Calls Tryd.prog 45 #[u, .func (Fn.func 35) #[] #[q, q2, q3]] w fun e w' => ∃ r : Int, e = .returned (.int .i64 r) ∧ decide (0 ≤ r) = xs.any p ∧ w' = w := by
  obtain ⟨a, c, rfl, c1, c2, ca⟩ := hu
  have Ca : Hid (Cells w a xs) := ca
  have Hp : Hid (∀ x ∈ xs, Calls Tryd.prog 35 #[.int .i64 x, q, q2, q3] w fun e w' => e = .returned (.bool (p x)) ∧ w' = w) := hp
  clear ca hp
  go_enter Tryd.func45, Tryd.ntmps45
  go_wp2
  go_loop [8] (fun i => ∃ k : Nat, k ≤ xs.length ∧ i = .int .i64 (k : Nat) ∧ (xs.take k).any p = false) (fun i => xs.length - (intOf i).toNat)
  case atStart => exact ⟨0, Nat.zero_le _, rfl, by simp⟩
  case round =>
    obtain ⟨k, hk, rfl, ht⟩ := hrel
    have Ht : Hid ((xs.take k).any p = false) := ht
    clear ht
    by_cases h0 : k = xs.length
    · subst h0
      go_wp2
      go_ret
      refine ⟨_, rfl, ?_, rfl⟩
      have := Ht.out
      rw [List.take_of_length_le (Nat.le_refl _)] at this
      rw [this]
      decide
    · have hkx : k < xs.length := by omega
      obtain ⟨x, rfl, -, hx⟩ := Ca.out (by intro h; rw [h] at hkx; simp at hkx)
      have cx := hx k xs[k] (List.getElem?_eq_getElem hkx)
      have hc := Hp.out xs[k] (List.getElem_mem hkx)
      have Hs : Hid _ := any_snoc (p := p) hkx
      have Hm : Hid (p xs[k] = true → xs.any p = true) := fun h => List.any_eq_true.2 ⟨_, List.getElem_mem hkx, h⟩
      generalize xs[k] = y at *
      clear hx
      cases hy : p y with
      | true =>
        rw [hy] at hc
        have Hc : Hid (Calls Tryd.prog 35 #[.int .i64 y, q, q2, q3] w fun e w' => e = .returned (.bool true) ∧ w' = w) := hc
        have Hy : Hid (p y = true) := hy
        clear hc hy
        go_wp2_with fail
        refine Calls.mono Hc.out ?_
        rintro e w1 ⟨rfl, rfl⟩
        go_wp2
        go_ret
        exact ⟨_, rfl, by rw [Hm.out Hy.out, decide_eq_true (by omega)], rfl⟩
      | false =>
        rw [hy] at hc
        have Hc : Hid (Calls Tryd.prog 35 #[.int .i64 y, q, q2, q3] w fun e w' => e = .returned (.bool false) ∧ w' = w) := hc
        have Hy : Hid (p y = false) := hy
        clear hc hy
        go_wp2_with fail
        refine Calls.mono Hc.out ?_
        rintro e w1 ⟨rfl, rfl⟩
        go_wp2
        go_round
        case rel => exact ⟨k + 1, by omega, by go_num, by have := Hs.out; rw [Ht.out, Hy.out] at this; exact this⟩
        case measure => simp [intOf]; omega

set_option maxHeartbeats 1000000 in
theorem has3_any (u q q2 q3 : Value) (xs : List Int) (p : Int → Bool) (w : World) (hu : Ro w u xs)
    (hp : ∀ x ∈ xs, Calls Tryd.prog 35 #[.int .i64 x, q, q2, q3] w fun e w' => e = .returned (.bool (p x)) ∧ w' = w) :
    Calls Tryd.prog 36 #[u, .func (Fn.func 35) #[] #[q, q2, q3]] w fun e w' => e = .returned (.bool (xs.any p)) ∧ w' = w := by
  have H := idx3_any u q q2 q3 xs p w hu hp
  have H' : Hid (Calls Tryd.prog 45 #[u, .func (Fn.func 35) #[] #[q, q2, q3]] w fun e w' => ∃ r : Int, e = .returned (.int .i64 r) ∧ decide (0 ≤ r) = xs.any p ∧ w' = w) := H
  clear H hp
  go_enter Tryd.func36, Tryd.ntmps36
  go_wp2_with fail
  refine Calls.mono H'.out ?_
  rintro e w1 ⟨r, rfl, hr, rfl⟩
  have Hr : Hid (decide (0 ≤ r) = xs.any p) := hr
  clear hr
  go_wp2
  go_ret
  exact ⟨by show Ending.returned (.bool (decide (0 ≤ r))) = _; rw [Hr.out], rfl⟩

namespace Fd
/-- does a cell of a line hide what is behind? -/
def hide (gs : List Int) (a b x : Int) : Bool := decide (x ≠ a) && (decide (x ≠ b) && (decide (gs.getD x.toNat 0 = 1) || decide (gs.getD x.toNat 0 = 3)))
end Fd

set_option maxHeartbeats 1000000 in
theorem hides_any (x a b : Int) (ba bb bf : Nat) (y : Addr) (n c : Nat) (gs : List Int) (w : World) (x0 : 0 ≤ x) (x1 : x < n) (hn : gs.length = n) (n2 : n ≤ 144)
    (ha : w.cell? ⟨ba, 0, none⟩ = some (.int .i64 a)) (hb : w.cell? ⟨bb, 0, none⟩ = some (.int .i64 b)) (hf : w.cell? ⟨bf, 2, none⟩ = some (.slice (some y) n c))
    (hg : ∀ i d, gs[i]? = some d → w.cell? (y.add i) = some (.int .i64 d)) :
    Calls Tryd.prog 35 #[.int .i64 x, .pointer (some ⟨ba, 0, none⟩), .pointer (some ⟨bb, 0, none⟩), .pointer (some ⟨bf, 0, none⟩)] w fun e w' => e = .returned (.bool (Fd.hide gs a b x)) ∧ w' = w := by
  obtain ⟨k, rfl⟩ : ∃ k : Nat, x = k := ⟨x.toNat, by omega⟩
  have hk : k < gs.length := by omega
  have hc := hg k gs[k] (List.getElem?_eq_getElem hk)
  have He : Hid (Fd.hide gs a b k = (decide ((k : Int) ≠ a) && (decide ((k : Int) ≠ b) && (decide (gs[k] = 1) || decide (gs[k] = 3))))) := by
    unfold Hid Fd.hide
    rw [Int.toNat_natCast, List.getD_eq_getElem?_getD, List.getElem?_eq_getElem hk]
    rfl
  generalize gs[k] = g at *
  clear hg
  by_cases h1 : (k : Int) = a
  · go_enter Tryd.func35, Tryd.ntmps35
    go_wp2
    go_ret
    exact ⟨by rw [He.out]; simp [h1], rfl⟩
  · by_cases h2 : (k : Int) = b
    · go_enter Tryd.func35, Tryd.ntmps35
      go_wp2
      go_ret
      exact ⟨by rw [He.out]; simp [h2], rfl⟩
    · by_cases h3 : g = 1
      · subst h3
        go_enter Tryd.func35, Tryd.ntmps35
        go_wp2
        go_ret
        exact ⟨by rw [He.out]; simp [h1, h2], rfl⟩
      · by_cases h4 : g = 3
        · subst h4
          go_enter Tryd.func35, Tryd.ntmps35
          go_wp2
          go_ret
          exact ⟨by rw [He.out]; simp [h1, h2], rfl⟩
        · go_enter Tryd.func35, Tryd.ntmps35
          go_wp2
          go_ret
          exact ⟨by rw [He.out]; simp [h1, h2, h3, h4], rfl⟩
end Go.Proofs.YthnfaflhecfnfaaDoor
