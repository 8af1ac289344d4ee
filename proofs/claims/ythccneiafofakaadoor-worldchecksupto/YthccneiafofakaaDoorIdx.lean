/- slices.IndexFunc and ContainsFunc, of any function that tells yes or no and turns nothing. -/
import Derived.Test.YthccneiafofakaaDoorIntsR
namespace Go.Proofs.YthccneiafofakaaDoor
open Go.RowKit
set_option linter.unusedVariables false

theorem any_next {p : Int → Bool} {xs : List Int} {k : Nat} (h : k < xs.length) : (xs.take (k + 1)).any p = ((xs.take k).any p || p xs[k]) := by
  rw [List.take_succ_eq_append_getElem h, List.any_append]
  simp

/-- r is where the first is; -1: there is none. -/
def Fst (p : Int → Bool) (xs : List Int) (r : Int) : Prop := (r = -1 ∧ xs.any p = false) ∨ ∃ (k : Nat) (x : Int), r = k ∧ xs[k]? = some x ∧ p x = true ∧ (xs.take k).any p = false

set_option maxHeartbeats 1000000 in
theorem idxf_any (K : Nat) (eK : ∀ args w, (callFunc K args).run Tryd.prog w = .ok (.enter K args) w) (u : Value) (cs : Array Value) (xs : List Int) (p : Int → Bool) (w : World) (hu : Ro w u xs)
    (hp : ∀ m, ∀ x ∈ xs, Calls Tryd.prog K (#[.int .i64 x] ++ cs) (w.drewN m) fun e w' => e = .returned (.bool (p x)) ∧ ∃ q, w' = w.drewN q) :
    Calls Tryd.prog 117 #[u, .func (Fn.func K) #[] cs] w fun e w' => ∃ r : Int, e = .returned (.int .i64 r) ∧ Fst p xs r ∧ ∃ q, w' = w.drewN q := by
  obtain ⟨a, c, rfl, c1, c2, ca⟩ := hu
  have Ca : Hid (Cells w a xs) := ca
  have Hp : Hid (∀ m, ∀ x ∈ xs, Calls Tryd.prog K (#[.int .i64 x] ++ cs) (w.drewN m) fun e w' => e = .returned (.bool (p x)) ∧ ∃ q, w' = w.drewN q) := hp
  clear ca hp
  go_enter Tryd.func117, Tryd.ntmps117
  go_wp2
  go_loopw [8] (fun i W' => ∃ k q : Nat, k ≤ xs.length ∧ i = .int .i64 (k : Nat) ∧ (xs.take k).any p = false ∧ W' = w.drewN q) (fun i _ => xs.length - (intOf i).toNat)
  case atStart => exact ⟨0, 0, Nat.zero_le _, rfl, by simp, rfl⟩
  case round =>
    obtain ⟨k, q, hk, rfl, ht, rfl⟩ := hrel
    have Ht : Hid ((xs.take k).any p = false) := ht
    clear ht
    by_cases h0 : k = xs.length
    · subst h0
      go_wp2
      go_ret
      refine ⟨_, rfl, .inl ⟨rfl, ?_⟩, _, rfl⟩
      have := Ht.out
      rw [List.take_of_length_le (Nat.le_refl _)] at this
      exact this
    · have hkx : k < xs.length := by omega
      obtain ⟨x, rfl, -, hx⟩ := Ca.out (by intro h; rw [h] at hkx; simp at hkx)
      have cx : (w.drewN q).cell? (x.add k) = some (.int .i64 xs[k]) := hx k xs[k] (List.getElem?_eq_getElem hkx)
      have hc := Hp.out q xs[k] (List.getElem_mem hkx)
      have Hs : Hid _ := any_next (p := p) hkx
      have Hm : Hid (xs[k]? = some xs[k]) := List.getElem?_eq_getElem hkx
      generalize xs[k] = y at *
      generalize w.drewN q = w1 at *
      clear hx
      cases hy : p y with
      | true =>
        rw [hy] at hc
        have Hc : Hid (Calls Tryd.prog K (#[.int .i64 y] ++ cs) w1 fun e w' => e = .returned (.bool true) ∧ ∃ q, w' = w.drewN q) := hc
        have Hy : Hid (p y = true) := hy
        clear hc hy
        go_wp2_with fail
        refine Calls.mono Hc.out ?_
        rintro e w1 ⟨rfl, q1, rfl⟩
        go_wp2
        go_ret
        exact ⟨_, rfl, .inr ⟨k, y, rfl, Hm, Hy, Ht⟩, q1, rfl⟩
      | false =>
        rw [hy] at hc
        have Hc : Hid (Calls Tryd.prog K (#[.int .i64 y] ++ cs) w1 fun e w' => e = .returned (.bool false) ∧ ∃ q, w' = w.drewN q) := hc
        have Hy : Hid (p y = false) := hy
        clear hc hy
        go_wp2_with fail
        refine Calls.mono Hc.out ?_
        rintro e w1 ⟨rfl, q1, rfl⟩
        go_wp2
        go_round
        case rel => exact ⟨k + 1, q1, by omega, by go_num, by have := Hs.out; rw [Ht.out, Hy.out] at this; exact this, rfl⟩
        case measure => simp [intOf]; omega

theorem Fst.has {p : Int → Bool} {xs : List Int} {r : Int} (h : Fst p xs r) : decide (0 ≤ r) = xs.any p := by
  rcases h with ⟨rfl, h⟩ | ⟨k, x, rfl, h1, h2, _⟩
  · rw [h]; decide
  · rw [decide_eq_true (by omega)]
    exact (List.any_eq_true.2 ⟨x, List.mem_of_getElem? h1, h2⟩).symm

set_option maxHeartbeats 1000000 in
theorem hasf_any (K : Nat) (eK : ∀ args w, (callFunc K args).run Tryd.prog w = .ok (.enter K args) w) (u : Value) (cs : Array Value) (xs : List Int) (p : Int → Bool) (w : World) (hu : Ro w u xs)
    (hp : ∀ m, ∀ x ∈ xs, Calls Tryd.prog K (#[.int .i64 x] ++ cs) (w.drewN m) fun e w' => e = .returned (.bool (p x)) ∧ ∃ q, w' = w.drewN q) :
    Calls Tryd.prog 91 #[u, .func (Fn.func K) #[] cs] w fun e w' => e = .returned (.bool (xs.any p)) ∧ ∃ q, w' = w.drewN q := by
  have H := idxf_any K eK u cs xs p w hu hp
  have H' : Hid (Calls Tryd.prog 117 #[u, .func (Fn.func K) #[] cs] w fun e w' => ∃ r : Int, e = .returned (.int .i64 r) ∧ Fst p xs r ∧ ∃ q, w' = w.drewN q) := H
  clear H hp
  go_enter Tryd.func91, Tryd.ntmps91
  go_wp2_with fail
  refine Calls.mono H'.out ?_
  rintro e w1 ⟨r, rfl, hr, q, rfl⟩
  have Hr : Hid (decide (0 ≤ r) = xs.any p) := hr.has
  clear hr
  go_wp2
  go_ret
  exact ⟨by show Ending.returned (.bool (decide (0 ≤ r))) = _; rw [Hr.out], q, rfl⟩
end Go.Proofs.YthccneiafofakaaDoor
