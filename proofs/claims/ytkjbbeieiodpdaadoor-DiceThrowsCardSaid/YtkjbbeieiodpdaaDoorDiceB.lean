/- Dice: what Below draws. -/
import Derived.Test.YtkjbbeieiodpdaaDoorDiceN
namespace Go.Proofs.YtkjbbeieiodpdaaDoor
open Go.RowKit

namespace Dm
/-- how many of the draws count. -/
def fin (n : Nat) : Nat := 4611686018427387904 - 4611686018427387904 % n
/-- the first state behind s whose draw counts is t. -/
inductive Bel (n : Nat) : Nat → Nat → Prop
  | acc (s : Nat) : draw (stp s) < fin n → Bel n s (stp s)
  | rej (s t : Nat) : ¬ draw (stp s) < fin n → Bel n (stp s) t → Bel n s t
theorem Bel.uniq {n s t u : Nat} (h : Bel n s t) (k : Bel n s u) : t = u := by
  induction h generalizing u with
  | acc s h1 =>
    cases k with
    | acc => rfl
    | rej _ _ h2 => exact absurd h1 h2
  | rej s t h1 _ ih =>
    cases k with
    | acc _ h2 => exact absurd h2 h1
    | rej _ _ _ h3 => exact ih h3
theorem fin_pos (n : Nat) (h0 : 0 < n) (h1 : n ≤ 1000000) : 0 < fin n := by
  have := Nat.mod_lt 4611686018427387904 h0
  unfold fin
  omega
theorem stp_cast (t : Nat) : ((stp t : Nat) : Int) = ((t : Int) + 11400714819323198485) % 18446744073709551616 := by
  unfold stp; omega
theorem fin_eq (n : Nat) (h0 : 0 < n) (h1 : n ≤ 1000000) : wrap64 (4611686018427387904 - 4611686018427387904 % (n : Int)) = (fin n : Nat) := by
  have := Nat.mod_lt 4611686018427387904 h0
  have e : (4611686018427387904 : Int) % (n : Int) = ((4611686018427387904 % n : Nat) : Int) := by rw [Int.natCast_emod]; rfl
  rw [e]
  unfold fin wrap64
  generalize 4611686018427387904 % n = r at *
  omega
/-- how many draws are left till one counts, at most. -/
def left (n t : Nat) : Nat := if draw t < fin n then 0 else gap (t : Int) + 1
theorem left_step (n t : Nat) (h0 : 0 < n) (h1 : n ≤ 1000000) (h : ¬ draw t < fin n) : left n (stp t) < left n t := by
  unfold left
  rw [if_neg h]
  by_cases hz : stp t = 0
  · rw [hz, draw_zero, if_pos (fin_pos n h0 h1)]
    omega
  · have := gap_step (t : Int) (stp t : Nat) (stp_cast t) (fun e => hz (Int.ofNat.inj e))
    split <;> omega
/-- where a state leads to: to itself, if its draw counts. -/
def Goes (n t u : Nat) : Prop := (draw t < fin n ∧ u = t) ∨ (¬ draw t < fin n ∧ Bel n t u)
theorem goes_first (n s u : Nat) (h : Goes n (stp s) u) : Bel n s u := by
  rcases h with ⟨h1, h2⟩ | ⟨h1, h2⟩
  · rw [h2]; exact .acc s h1
  · exact .rej s u h1 h2
end Dm

/-- Below n draws x, and leaves the state t. -/
def Dm.Bl (n s t x : Nat) : Prop := Dm.Bel n s t ∧ x = Dm.draw t % n
theorem Dm.Bl.uniq {n s t x u y : Nat} (h : Dm.Bl n s t x) (k : Dm.Bl n s u y) : t = u ∧ x = y := by
  obtain ⟨h1, h2⟩ := h
  obtain ⟨k1, k2⟩ := k
  have e : t = u := h1.uniq k1
  refine ⟨e, ?_⟩
  rw [h2, k2, e]
theorem Dm.Bl.lt {n s t x : Nat} (h : Dm.Bl n s t x) (h0 : 0 < n) : x < n := by rw [h.2]; exact Nat.mod_lt _ h0

/-- the state of the dice in a block. -/
def stOf (w : World) (z : Nat) : Nat := match w.cell? ⟨z, 0, none⟩ with | some (.int _ v) => v.toNat | _ => 0
theorem Di.stOf {w : World} {z s : Nat} (h : Di w z s) : stOf w z = s := by unfold Go.Proofs.YtkjbbeieiodpdaaDoor.stOf; rw [h.cell]; simp

set_option maxHeartbeats 400000 in
theorem below_di (z s n : Nat) (w : World) (h0 : 0 < n) (h1 : n ≤ 1000000) (h : Di w z s) :
    Calls Tryd.prog 12 #[.pointer (some ⟨z, 0, none⟩), .int .i64 n] w fun e w' => ∃ t x, Dm.Bl n s t x ∧ e = .returned (.int .i64 (x : Nat)) ∧ Di w' z t ∧ Kp z w w' ∧ w'.heap.size = w.heap.size := by
  have H : Hid (Di w z s) := h
  clear h
  go_enter Tryd.func12, Tryd.ntmps12
  have hfe := Dm.fin_eq n h0 h1
  go_wp2_with fail
  refine (next_di z s _ H).mono ?_
  rintro e w1 ⟨s1, x1, hn, rfl, hd, hk, hz⟩
  have Hn : Hid (Dm.Nx s s1 x1) := hn
  have Hd : Hid (Di w1 z s1) := hd
  have Hk : Hid (Kp z w w1) := hk
  have Hz : Hid (w1.heap.size = w.heap.size) := hz
  clear hn hd hk hz
  go_wp2_with fail
  go_loopw [6] (fun x W => ∃ t y : Nat, x = .int .i64 (y : Nat) ∧ y = Dm.draw t ∧ Di W z t ∧ Kp z w W ∧ W.heap.size = w.heap.size ∧ ∀ u, Dm.Goes n t u → Dm.Bel n s u) (fun _ W => Dm.left n (stOf W z))
  case atStart => exact ⟨_, _, rfl, Hn.out.2, Hd, Hk, Hz, fun u hu => Dm.goes_first n s u (by rw [← Hn.out.1]; exact hu)⟩
  case round =>
    obtain ⟨t, y, rfl, hy, hd, hk, hz, hg⟩ := hrel
    have Hd' : Hid (Di wr z t) := hd
    have Hk' : Hid (Kp z w wr) := hk
    have Hz' : Hid (wr.heap.size = w.heap.size) := hz
    have Hg : Hid (∀ u, Dm.Goes n t u → Dm.Bel n s u) := hg
    have Hy : Hid (y = Dm.draw t) := hy
    have b1 : y < 4611686018427387904 := by rw [hy]; exact Dm.draw_lt t
    clear hd hk hz hg hy
    by_cases hc : y < Dm.fin n
    · go_wp2
      go_ret
      exact ⟨t, y % n, ⟨Hg.out t (.inl ⟨by rw [← Hy.out]; exact hc, rfl⟩), by rw [Hy.out]⟩, by rw [Int.natCast_emod]; rfl, Hd', Hk', Hz'⟩
    · go_wp2_with fail
      refine (next_di z t _ Hd').mono ?_
      rintro e w2 ⟨t1, y1, hn, rfl, hd, hk, hz⟩
      have Hn2 : Hid (Dm.Nx t t1 y1) := hn
      have Hd2 : Hid (Di w2 z t1) := hd
      have Hk2 : Hid (Kp z wr w2) := hk
      have Hz2 : Hid (w2.heap.size = wr.heap.size) := hz
      clear hn hd hk hz
      go_wp2
      go_round
      case rel => exact ⟨t1, y1, rfl, Hn2.out.2, Hd2, Hk'.out.trans Hk2, Hz2.out.trans Hz', fun u hu => Hg.out u (.inr ⟨by rw [← Hy.out]; exact hc, Dm.goes_first n t u (by rw [← Hn2.out.1]; exact hu)⟩)⟩
      case measure => rw [Hd2.out.stOf, Hd'.out.stOf, Hn2.out.1]; exact Dm.left_step n t h0 h1 (by rw [← Hy.out]; exact hc)

set_option maxHeartbeats 400000 in
theorem Below_ok (z s n : Nat) (w : World) (h0 : 0 < n) (h1 : n ≤ 1000000) (h : Di w z s) :
    Calls Tryd.prog 8 #[.pointer (some ⟨z, 0, none⟩), .int .i64 n] w fun e w' => ∃ t x, Dm.Bl n s t x ∧ e = .returned (.tuple #[.int .i64 (x : Nat), .nilIface]) ∧ Di w' z t ∧ Kp z w w' ∧ w'.heap.size = w.heap.size := by
  have H : Hid (Di w z s) := h
  clear h
  go_enter Tryd.func8, Tryd.ntmps8
  go_wp2_with fail
  refine (below_di z s n _ h0 h1 H).mono ?_
  rintro e w1 ⟨t, x, hb, rfl, hd, hk, hz⟩
  have Hb : Hid (Dm.Bl n s t x) := hb
  have Hd : Hid (Di w1 z t) := hd
  have Hk : Hid (Kp z w w1) := hk
  have Hz : Hid (w1.heap.size = w.heap.size) := hz
  clear hb hd hk hz
  go_wp2
  go_ret2
  exact ⟨t, x, Hb, rfl, Hd, Hk, Hz⟩

set_option maxHeartbeats 400000 in
theorem Below_bad (z : Nat) (n : Int) (w : World) (h : ¬ (1 ≤ n ∧ n ≤ 1000000)) :
    Calls Tryd.prog 8 #[.pointer (some ⟨z, 0, none⟩), .int .i64 n] w fun e w' => e = .returned (.tuple #[.int .i64 0, .iface 39 (.int .i64 1)]) ∧ w' = w := by
  have ho : n < 1 ∨ (¬ n < 1 ∧ 1000000 < n) := by omega
  clear h
  rcases ho with h1 | ⟨h1, h2⟩
  · go_enter Tryd.func8, Tryd.ntmps8
    go_wp2
    go_ret2
    exact ⟨rfl, rfl⟩
  · go_enter Tryd.func8, Tryd.ntmps8
    go_wp2
    go_ret2
    exact ⟨rfl, rfl⟩
end Go.Proofs.YtkjbbeieiodpdaaDoor
