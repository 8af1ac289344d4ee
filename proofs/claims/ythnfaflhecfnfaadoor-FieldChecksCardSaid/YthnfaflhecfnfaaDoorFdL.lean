/- Fields: places and lines. -/
import Derived.Test.YthnfaflhecfnfaaDoorFdLine
import Derived.Test.YthnfaflhecfnfaaDoorFdB
import Derived.Test.YthnfaflhecfnfaaDoorFdOwn
namespace Go.Proofs.YthnfaflhecfnfaaDoor
open Go.RowKit
set_option linter.unusedVariables false

set_option maxHeartbeats 400000 in
theorem place_any (W a c r : Nat) (w : World) (h1 : 0 < W) (h2 : W ≤ 12) (h3 : a ≤ 144) (hc : a % W = c) (hr : a / W = r) :
    Calls Tryd.prog 30 #[.int .i64 (W : Nat), .int .i64 (a : Nat)] w fun e w' => e = .returned (.tuple #[.int .i64 (c : Nat), .int .i64 (r : Nat)]) ∧ ∃ n, w' = w.drewN n := by
  have hw : ¬ (W : Int) = 0 := by omega
  have e1 : (a : Int) % (W : Int) = (c : Nat) := by rw [← hc]; rfl
  have e2 : (a : Int) / (W : Int) = (r : Nat) := by rw [← hr]; rfl
  have l1 : r ≤ 144 := by rw [← hr]; exact Nat.le_trans (Nat.div_le_self _ _) h3
  clear hc hr
  go_enter Tryd.func30, Tryd.ntmps30
  go_wp2
  go_quiet (fail)
  go_wp2
  go_ret2
  exact ⟨by show Ending.returned (.tuple #[.int .i64 ((a : Int) % W), .int .i64 r]) = _; rw [e1], _, rfl⟩

set_option maxHeartbeats 400000 in
theorem along_any (n f t k : Int) (b : Nat) (w : World) (n1 : 0 < n) (n2 : n ≤ 11) (f1 : 0 ≤ f) (f2 : f ≤ 11) (t1 : 0 ≤ t) (t2 : t ≤ 11) (k1 : 0 ≤ k) (k2 : k ≤ n) (hb : w.cell? ⟨b, 0, none⟩ = some (.int .i64 n)) :
    Calls Tryd.prog 41 #[.int .i64 f, .int .i64 t, .int .i64 k, .pointer (some ⟨b, 0, none⟩)] w fun e w' => e = .returned (.int .i64 (Fd.along n f t k)) ∧ w' = w := by
  have b1 : 0 ≤ 2 * f * n := Int.mul_nonneg (by omega) (by omega)
  have b2 : 2 * f * n ≤ 22 * 11 := Int.mul_le_mul (by omega) n2 (by omega) (by omega)
  have b3 : 0 ≤ 2 * f * n + 2 * k * (t - f) + n := by
    rw [Fd.along_num]
    have h1 : 0 ≤ f * (n - k) := Int.mul_nonneg f1 (by omega)
    have h2 : 0 ≤ t * k := Int.mul_nonneg t1 k1
    omega
  have b4 : 2 * f * n + 2 * k * (t - f) + n ≤ 1000 := by
    rw [Fd.along_num]
    have h1 : f * (n - k) ≤ 11 * 11 := Int.mul_le_mul f2 (by omega) (by omega) (by omega)
    have h2 : t * k ≤ 11 * 11 := Int.mul_le_mul t2 (by omega) (by omega) (by omega)
    omega
  go_enter Tryd.func41, Tryd.ntmps41
  go_wp2
  go_ret
  exact ⟨rfl, rfl⟩

theorem max4 (a b c d n : Int) (h : n = max (max a b) (max c d)) (w : World) : (Builtin.max_ #[3, 3, 3, 3] 3 #[.int .i64 a, .int .i64 b, .int .i64 c, .int .i64 d]).run Tryd.prog w = .ok (.int .i64 n) w := by
  simp [Builtin.max_, Builtin.max2]
  congr 1
  omega

set_option maxHeartbeats 1000000 in
theorem line_any (W H a b : Nat) (w : World) (h1 : 0 < W) (h2 : W ≤ 12) (h3 : H ≤ 12) (ha : a < W * H) (hb : b < W * H) :
    Calls Tryd.prog 32 #[.int .i64 (W : Nat), .int .i64 (a : Nat), .int .i64 (b : Nat)] w fun e w' => ∃ v, e = .returned v ∧ Ow w' w.heap.size v (Fd.line W a b) ∧ Below w.heap.size w w' := by
  have hm : W * H ≤ 144 := Nat.mul_le_mul h2 h3
  have hs := Fd.span_le h1 h2 h3 ha hb
  have a1 : a / W < H := Nat.div_lt_of_lt_mul ha
  have a2 : b / W < H := Nat.div_lt_of_lt_mul hb
  have a3 := Nat.mod_lt a h1
  have a4 := Nat.mod_lt b h1
  have hn : Hid (max (max (a % W - b % W) (b % W - a % W)) (max (a / W - b / W) (b / W - a / W)) = Fd.span W a b) := rfl
  have HL : Hid (Fd.line W a b = if Fd.span W a b = 0 then [(a : Int)] else (List.range (Fd.span W a b + 1)).map fun k : Nat => Fd.along (Fd.span W a b) (a / W : Nat) (b / W : Nat) k * W + Fd.along (Fd.span W a b) (a % W : Nat) (b % W : Nat) k) := rfl
  obtain ⟨c, hc⟩ : ∃ c, a % W = c := ⟨_, rfl⟩
  obtain ⟨r, hr⟩ : ∃ r, a / W = r := ⟨_, rfl⟩
  obtain ⟨d, hd⟩ : ∃ c, b % W = c := ⟨_, rfl⟩
  obtain ⟨s, hs'⟩ : ∃ r, b / W = r := ⟨_, rfl⟩
  rw [hc, hr, hd, hs'] at hn HL
  rw [hr] at a1
  rw [hs'] at a2
  rw [hc] at a3
  rw [hd] at a4
  generalize Fd.span W a b = n at *
  have hmax := max4 ((c : Int) - d) (d - c) (r - s) (s - r) n (by have := hn.out; omega)
  have Pa : Hid (a % W = c ∧ a / W = r) := ⟨hc, hr⟩
  have Pb : Hid (b % W = d ∧ b / W = s) := ⟨hd, hs'⟩
  have A1 : a ≤ 144 := by omega
  have B1 : b ≤ 144 := by omega
  have c1 : c ≤ 11 := by omega
  have d1 : d ≤ 11 := by omega
  have r1 : r ≤ 11 := by omega
  have s1 : s ≤ 11 := by omega
  have N1 : Hid (n = max (max (c - d) (d - c)) (max (r - s) (s - r))) := hn.out.symm
  clear hc hr hd hs' hn ha hb a1 a2 a3 a4
  go_enter Tryd.func32, Tryd.ntmps32
  go_wp2_with fail
  refine (place_any W a c r _ h1 h2 A1 Pa.out.1 Pa.out.2).mono ?_
  rintro e w1 ⟨rfl, q1, hq1⟩
  have B1' : Hid (Below w.heap.size w w1) := by rw [hq1]; exact below_drewN (Below.refl _ _) _
  clear hq1
  go_wp2_with fail
  refine (place_any W b d s _ h1 h2 B1 Pb.out.1 Pb.out.2).mono ?_
  rintro e w2 ⟨rfl, q2, hq2⟩
  have B2 : Hid (Below w.heap.size w w2) := by rw [hq2]; exact below_drewN B1'.out _
  clear hq2 B1' Pa Pb
  by_cases h0 : n = 0
  · subst h0
    go_wp2
    go_ret
    refine ⟨_, rfl, ?_, ?_⟩
    · have e := HL.out
      simp only [if_true] at e
      rw [e]
      have hz := B2.out.size
      exact Ow.one (w := w2.alloc _) _ (by simp; omega) (by simp)
    · have hz := B2.out.size
      exact (B2.out.alloc hz _).alloc (by simp; omega) _
  · have n0 : 0 < n := by omega
    have HL' : Hid (Fd.line W a b = (List.range (n + 1)).map fun k : Nat => Fd.along n r s k * W + Fd.along n c d k) := by
      have := HL.out
      rw [if_neg h0] at this
      exact this
    clear HL
    have hb0 : ((n : Int) == 0) = false := by rw [beq_eq_false_iff_ne]; omega
    go_wp2_with fail
    clear hmax h0 hb0
    have Z2 : Hid (w.heap.size ≤ w2.heap.size) := B2.out.size
    have B3 : Hid (Below w.heap.size w (w2.alloc (Obj.cells #[Value.int IntKind.i64 n] 3))) := B2.out.alloc B2.out.size _
    have c3 : Hid ((w2.alloc (Obj.cells #[Value.int IntKind.i64 n] 3)).cell? ⟨w2.heap.size, 0, none⟩ = some (.int .i64 n)) := by unfold Hid; simp
    have z3 : Hid ((w2.alloc (Obj.cells #[Value.int IntKind.i64 n] 3)).heap.size = w2.heap.size + 1) := by unfold Hid; simp
    generalize w2.alloc (Obj.cells #[Value.int IntKind.i64 n] 3) = w3 at *
    go_loopw [13, 47] (fun v i W' => ∃ k : Nat, k ≤ n + 1 ∧ i = .int .i64 (k : Nat) ∧ Ow W' (w2.heap.size + 1) v ((List.range k).map fun k : Nat => Fd.along n r s k * W + Fd.along n c d k) ∧ W'.cell? ⟨w2.heap.size, 0, none⟩ = some (.int .i64 n) ∧ Below w.heap.size w W' ∧ w2.heap.size + 1 ≤ W'.heap.size) (fun _ i _ => n + 1 - (intOf i).toNat)
    case atStart => exact ⟨0, Nat.zero_le _, rfl, Ow.nil _ _, c3, B3, by rw [z3.out]; exact Nat.le_refl _⟩
    case round =>
      obtain ⟨k, hk, rfl, ho, hc, hbl, hz⟩ := hrel
      clear B3 c3 z3
      have O : Hid (Ow wr (w2.heap.size + 1) u13 ((List.range k).map fun k : Nat => Fd.along n r s k * W + Fd.along n c d k)) := ho
      have B : Hid (Below w.heap.size w wr) := hbl
      have Z : Hid (w2.heap.size + 1 ≤ wr.heap.size) := hz
      have C : Hid (wr.cell? ⟨w2.heap.size, 0, none⟩ = some (.int .i64 n)) := hc
      clear ho hbl hz hc
      by_cases h0 : k = n + 1
      · subst h0
        have e1 : ¬ ((n : Int) + 1 < n + 1) := by omega
        go_wp2
        go_ret
        exact ⟨_, rfl, by rw [HL'.out]; exact O.out.mono (by have := Z2.out; omega), B⟩
      · have hkn : k ≤ n := by omega
        have p1 := Fd.along_ge 0 n r s k (by omega) (by omega) (by omega) (by omega) (by omega)
        have p2 := Fd.along_le 11 n r s k (by omega) (by omega) (by omega) (by omega) (by omega)
        have q1 := Fd.along_ge 0 n c d k (by omega) (by omega) (by omega) (by omega) (by omega)
        have q2 := Fd.along_le 11 n c d k (by omega) (by omega) (by omega) (by omega) (by omega)
        have K1 := along_any n r s k w2.heap.size wr (by omega) (by omega) (by omega) (by omega) (by omega) (by omega) (by omega) (by omega) C.out
        have K2 := along_any n c d k w2.heap.size wr (by omega) (by omega) (by omega) (by omega) (by omega) (by omega) (by omega) (by omega) C.out
        have S : Hid (((List.range (k + 1)).map fun k : Nat => Fd.along n r s k * W + Fd.along n c d k) = ((List.range k).map fun k : Nat => Fd.along n r s k * W + Fd.along n c d k) ++ [Fd.along n r s k * W + Fd.along n c d k]) := by
          unfold Hid
          rw [List.range_succ, List.map_append]
          rfl
        generalize Fd.along n r s k = p at *
        generalize Fd.along n c d k = q at *
        have L : Hid (((List.range k).map fun k : Nat => Fd.along n r s k * W + Fd.along n c d k).length = k) := by unfold Hid; simp
        generalize ((List.range k).map fun k : Nat => Fd.along n r s k * W + Fd.along n c d k) = xs at *
        have K1' : Hid (Calls Tryd.prog 41 #[.int .i64 r, .int .i64 s, .int .i64 k, .pointer (some ⟨w2.heap.size, 0, none⟩)] wr fun e w' => e = .returned (.int .i64 p) ∧ w' = wr) := K1
        have K2' : Hid (Calls Tryd.prog 41 #[.int .i64 c, .int .i64 d, .int .i64 k, .pointer (some ⟨w2.heap.size, 0, none⟩)] wr fun e w' => e = .returned (.int .i64 q) ∧ w' = wr) := K2
        clear K1 K2
        have m1 : 0 ≤ p * (W : Int) := Int.mul_nonneg p1 (by omega)
        have m2 : p * (W : Int) ≤ 11 * 12 := Int.mul_le_mul p2 (by omega) (by omega) (by omega)
        go_wp2_with fail
        refine Calls.mono K1'.out ?_
        rintro e w4 ⟨rfl, rfl⟩
        go_wp2_with fail
        refine Calls.mono K2'.out ?_
        rintro e w4 ⟨rfl, rfl⟩
        clear K1' K2'
        go_wp2_with (at_builtin; refine app_int _ rfl _ _ rfl (w2.heap.size + 1) _ xs rfl (O.out.alloc _) ⟨w4.heap.size, 0, none⟩ (p * W + q) rfl (by simp) (by rw [L.out]; omega) (by have := Z.out; simp; omega) ?_)
        intro g cap w5 o5 g5 a5 l5
        have O5 : Hid (Ow w5 (w2.heap.size + 1) (.slice (some ⟨g, 0, none⟩) (xs.length + 1) cap) (xs ++ [p * W + q])) := o5
        have hob : ∀ k, u13.ownBlock = some k → w2.heap.size + 1 ≤ k := fun k hk => (O.out.block k hk).1
        have hne : some w2.heap.size ≠ u13.ownBlock := fun e => by have := hob _ e.symm; omega
        have C5 : Hid (w5.cell? ⟨w2.heap.size, 0, none⟩ = some (.int .i64 n)) := by
          unfold Hid
          have z := Z.out
          rw [g5.cell_far ⟨w2.heap.size, 0, none⟩ (by simp; omega) hne, World.cell?_alloc_past _ _ _ (by show w2.heap.size < w4.heap.size; omega)]
          exact C.out
        have B5 : Hid (Below w.heap.size w w5) := (B.out.alloc B.out.size _).grown g5 (by have := B.out.size; simp; omega) (fun k hk => by have := hob k hk; have := Z2.out; omega)
        have Z5 : Hid (w2.heap.size + 1 ≤ w5.heap.size) := by have := Z.out; have := g5.size; simp at this; unfold Hid; omega
        clear o5 g5 a5 l5 hob hne
        go_wp2
        go_round
        case rel => exact ⟨k + 1, by omega, by go_num, by rw [S.out]; exact O5, C5, B5, Z5⟩
        case measure => simp [intOf]; omega
end Go.Proofs.YthnfaflhecfnfaaDoor
