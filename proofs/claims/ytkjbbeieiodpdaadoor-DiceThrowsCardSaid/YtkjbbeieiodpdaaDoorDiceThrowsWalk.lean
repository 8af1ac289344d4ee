/- The walk of DiceThrows. -/
import Derived.Test.YtkjbbeieiodpdaaDoorRefDice
import Derived.Test.YtkjbbeieiodpdaaDoorIntsR
import Derived.Test.YtkjbbeieiodpdaaDoorTold
import Derived.ProofKit
import Derived.OpenShut
import Derived.IntWalk
namespace Go.Proofs.YtkjbbeieiodpdaaDoor.diceThrows
open Go.RowKit

set_option maxRecDepth 100000 in
set_option maxHeartbeats 2000000 in
theorem walk_any (a0 : Int) (v : Value) (xs : List Int) (a2 : Int) (w : World) (hv : Ro w v xs) (hg : Et w) :
    Calls Tryd.prog 3 #[.int .i64 a0, v, .int .i64 a2] w fun e w' => e = .returned (.bool true) ∧ Below w.heap.size w w' := by
  have V : Hid (Ro w v xs) := hv
  have G : Hid (Et w) := hg
  obtain ⟨a1, cap1, rfl, hc1, hc2, -⟩ := hv
  clear hg
  go_enter Tryd.func3, Tryd.ntmps3
  go_wp2_with fail
  refine (new_di a0 _).mono ?_
  rintro e w1 ⟨s0, es, rfl, d1, b1, z1⟩
  have D1 : Hid (Di w1 w.heap.size s0) := d1
  have B1 : Hid (Below w.heap.size w w1) := b1
  have Z1 : Hid (w1.heap.size = w.heap.size + 1) := z1
  have hs0 : IntKind.u64.wrap a0 = (s0 : Nat) := by rw [es]; exact bitsOf_eq a0
  clear d1 b1 z1 es
  go_wp2_with fail
  go_loopw [8, 9] (fun s i W => ∃ (k t : Nat), k ≤ xs.length ∧ k ≤ 60 ∧ i = .int .i64 (k : Nat) ∧ s = .int .u64 (t : Nat) ∧ Di W w.heap.size t ∧ Below w.heap.size w W) (fun _ i _ => 60 - (intOf i).toNat)
  case atStart => exact ⟨0, s0, Nat.zero_le _, Nat.zero_le _, rfl, rfl, D1, B1⟩
  case round =>
    obtain ⟨k, t, hk, hk2, rfl, rfl, hd, hb⟩ := hrel
    clear D1 B1 Z1
    have D : Hid (Di wr w.heap.size t) := hd
    have B : Hid (Below w.heap.size w wr) := hb
    have L : Hid (w.heap.size < wr.heap.size) := hd.lt
    clear hd hb
    by_cases h0 : k = xs.length ∨ k = 60
    · have hend : ¬ (k < xs.length ∧ k < 60) := by omega
      have ht : t < 18446744073709551616 := D.out.2
      rcases Nat.lt_or_ge k xs.length with h1 | h1
      · have h2 : k = 60 := by omega
        subst h2
        clear hend h0
        go_wp2_with fail
        refine (fork_di _ _ a2 _ D).mono ?_
        rintro e w2 ⟨f, hf, rfl, d2, b2, z2⟩
        have D2 : Hid (Di w2 w.heap.size t) := D.out.below b2
        have F2 : Hid (Di w2 wr.heap.size f) := d2
        have B2 : Hid (Below w.heap.size w w2) := B.out.trans (b2.mono B.out.size)
        have ef : bits .xor .u64 (t : Int) (IntKind.u64.wrap (IntKind.u64.wrap a2 * 15074714826142052245)) = (f : Nat) := by rw [hf]; exact fork_eq t a2 ht
        have Z2 : Hid (wr.heap.size < w2.heap.size) := by unfold Hid; omega
        clear d2 b2 z2 hf
        go_wp2_with fail
        refine (ref_next f _).mono ?_
        rintro e w3 ⟨t1, y, hn, rfl, rfl⟩
        have N1 : Hid (Dm.Nx f t1 y) := hn
        clear hn
        go_wp2_with fail
        refine (state_any _ _ _ D2).mono ?_
        rintro e w4 ⟨rfl, rfl⟩
        go_wp2_with fail
        refine (next_di _ _ _ F2).mono ?_
        rintro e w5 ⟨t2, y2, hn, rfl, d5, k5, z5⟩
        obtain ⟨e1, e2⟩ := hn.uniq N1.out
        subst e2
        have B5 : Hid (Below w.heap.size w w5) := Kp.below B2.out k5 B2.out.size (by have := L.out; omega)
        clear d5 k5 z5 hn N1 e1
        go_wp2
        go_ret
        exact ⟨rfl, B5⟩
      · have h2 : k = xs.length := by omega
        subst h2
        clear hend h0
        go_wp2_with fail
        refine (fork_di _ _ a2 _ D).mono ?_
        rintro e w2 ⟨f, hf, rfl, d2, b2, z2⟩
        have D2 : Hid (Di w2 w.heap.size t) := D.out.below b2
        have F2 : Hid (Di w2 wr.heap.size f) := d2
        have B2 : Hid (Below w.heap.size w w2) := B.out.trans (b2.mono B.out.size)
        have ef : bits .xor .u64 (t : Int) (IntKind.u64.wrap (IntKind.u64.wrap a2 * 15074714826142052245)) = (f : Nat) := by rw [hf]; exact fork_eq t a2 ht
        have Z2 : Hid (wr.heap.size < w2.heap.size) := by unfold Hid; omega
        clear d2 b2 z2 hf
        go_wp2_with fail
        refine (ref_next f _).mono ?_
        rintro e w3 ⟨t1, y, hn, rfl, rfl⟩
        have N1 : Hid (Dm.Nx f t1 y) := hn
        clear hn
        go_wp2_with fail
        refine (state_any _ _ _ D2).mono ?_
        rintro e w4 ⟨rfl, rfl⟩
        go_wp2_with fail
        refine (next_di _ _ _ F2).mono ?_
        rintro e w5 ⟨t2, y2, hn, rfl, d5, k5, z5⟩
        obtain ⟨e1, e2⟩ := hn.uniq N1.out
        subst e2
        have B5 : Hid (Below w.heap.size w w5) := Kp.below B2.out k5 B2.out.size (by have := L.out; omega)
        clear d5 k5 z5 hn N1 e1
        go_wp2
        go_ret
        exact ⟨rfl, B5⟩
    · have hkx : k < xs.length := by omega
      have hk6 : k < 60 := by omega
      clear h0
      have cell : ∀ W, Below w.heap.size w W → ∃ x, a1 = some x ∧ W.cell? (x.add k) = some (.int .i64 xs[k]) := by
        intro W hW
        obtain ⟨a, c, h1, -, -, h4⟩ := V.out
        obtain ⟨x, rfl, hl, h5⟩ := h4 (by intro h; rw [h] at hkx; simp at hkx)
        injection h1 with h6
        refine ⟨x, h6, ?_⟩
        rw [hW.cell (p := x.add k) (by rw [add_block]; exact hl)]
        exact h5 k _ (List.getElem?_eq_getElem hkx)
      obtain ⟨x0, rfl, c0⟩ := cell wr B
      have C : Hid (∀ W, Below w.heap.size w W → W.cell? (x0.add k) = some (.int .i64 xs[k])) := by
        intro W hW
        obtain ⟨x, h1, h2⟩ := cell W hW
        injection h1 with h3
        rw [h3]
        exact h2
      clear cell
      generalize xs[k] = d at *
      by_cases hd0 : d = 0
      · subst hd0
        go_wp2_with fail
        refine (ref_next t _).mono ?_
        rintro e w2 ⟨t1, y, hn, rfl, rfl⟩
        have N1 : Hid (Dm.Nx t t1 y) := hn
        clear hn
        go_wp2_with fail
        refine (next_di _ _ _ D).mono ?_
        rintro e w3 ⟨t2, y2, hn, rfl, d3, k3, z3⟩
        obtain ⟨e1, e2⟩ := hn.uniq N1.out
        subst e1
        subst e2
        have D3 : Hid (Di w3 w.heap.size t2) := d3
        have B3 : Hid (Below w.heap.size w w3) := Kp.below B.out k3 B.out.size (Nat.le_refl _)
        clear d3 k3 z3 hn N1 c0
        go_wp2
        go_round
        case rel => exact ⟨k + 1, t2, by omega, by omega, by go_num, rfl, D3, B3⟩
        case measure => simp [intOf]; omega
      · by_cases hr : 1 ≤ d ∧ d ≤ 1000000
        · obtain ⟨hr1, hr2⟩ := hr
          obtain ⟨n, rfl⟩ : ∃ n : Nat, d = n := ⟨d.toNat, by omega⟩
          have n0 : 0 < n := by omega
          have n1 : n ≤ 1000000 := by omega
          go_wp2_with fail
          refine (ref_below t n _ n0 n1).mono ?_
          rintro e w2 ⟨t1, y, hn, rfl, q2, rfl⟩
          have N1 : Hid (Dm.Bl n t t1 y) := hn
          have D2 : Hid (Di (wr.drewN q2) w.heap.size t) := D.out.drewN _
          have B2 : Hid (Below w.heap.size w (wr.drewN q2)) := below_drewN B.out _
          clear hn
          go_wp2_with fail
          refine (Below_ok _ _ n _ n0 n1 D2).mono ?_
          rintro e w3 ⟨t2, y2, hn, rfl, d3, k3, z3⟩
          obtain ⟨e1, e2⟩ := hn.uniq N1.out
          subst e1
          subst e2
          have D3 : Hid (Di w3 w.heap.size t2) := d3
          have B3 : Hid (Below w.heap.size w w3) := Kp.below B2.out k3 B2.out.size (Nat.le_refl _)
          clear d3 k3 z3 hn N1 c0
          go_wp2_with fail
          refine (same_nil 0 _).mono ?_
          rintro e w4 ⟨rfl, rfl⟩
          go_wp2
          go_round
          case rel => exact ⟨k + 1, t2, by omega, by omega, by go_num, rfl, D3, B3⟩
          case measure => simp [intOf]; omega
        · have Hr : Hid (¬ (1 ≤ d ∧ d ≤ 1000000)) := hr
          have ho : d < 1 ∨ (¬ d < 1 ∧ 1000000 < d) := by omega
          clear hr
          rcases ho with h1 | ⟨h1, h2⟩
          · go_wp2_with fail
            refine (Below_bad _ d _ Hr).mono ?_
            rintro e w3 ⟨rfl, rfl⟩
            go_wp2_with fail
            refine (same_hit 1 1 _ (G.out.below B)).mono ?_
            rintro e w4 ⟨rfl, b4⟩
            have D4 : Hid (Di w4 w.heap.size t) := D.out.below b4
            have B4 : Hid (Below w.heap.size w w4) := B.out.trans (b4.mono B.out.size)
            clear b4
            go_wp2
            go_round
            case rel => exact ⟨k + 1, t, by omega, by omega, by go_num, rfl, D4, B4⟩
            case measure => simp [intOf]; omega
          · go_wp2_with fail
            refine (Below_bad _ d _ Hr).mono ?_
            rintro e w3 ⟨rfl, rfl⟩
            go_wp2_with fail
            refine (same_hit 1 1 _ (G.out.below B)).mono ?_
            rintro e w4 ⟨rfl, b4⟩
            have D4 : Hid (Di w4 w.heap.size t) := D.out.below b4
            have B4 : Hid (Below w.heap.size w w4) := B.out.trans (b4.mono B.out.size)
            clear b4
            go_wp2
            go_round
            case rel => exact ⟨k + 1, t, by omega, by omega, by go_num, rfl, D4, B4⟩
            case measure => simp [intOf]; omega

theorem walk (a0 : Int) (a1 : Option Addr) (len1 cap1 : Nat) (z1 : List Int) (a2 : Int) (w : World) (_ : (Lit.int .i64 a0).wf = true) (w1 : IsRow .i64 w a1 len1 cap1 z1) (_ : (Lit.int .i64 a2).wf = true) (hg : Et w) :
    Calls Tryd.prog 3 #[.int .i64 a0, .slice a1 len1 cap1, .int .i64 a2] w fun e w' => e = .returned (.bool true) ∧ Below w.heap.size w w' :=
  walk_any a0 _ (z1.take len1) a2 w w1.ro hg
end Go.Proofs.YtkjbbeieiodpdaaDoor.diceThrows
