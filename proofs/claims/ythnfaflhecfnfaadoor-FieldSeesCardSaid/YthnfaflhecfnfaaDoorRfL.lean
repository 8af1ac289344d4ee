/- What the reference says of lines. -/
import Derived.Test.YthnfaflhecfnfaaDoorFdL
import Derived.Deep.DeepCutAuto
namespace Go.Proofs.YthnfaflhecfnfaaDoor
open Go.RowKit
set_option linter.unusedVariables false

set_option maxRecDepth 100000 in
set_option maxHeartbeats 2000000 in
theorem ref_line (v : Value) (W H : Nat) (gs os : List Int) (a b : Nat) (w : World) (h : Fl w v W H gs os) (h1 : 0 < W) (h2 : W ≤ 12) (h3 : H ≤ 12) (ha : a < W * H) (hb : b < W * H) :
    Calls Tryd.prog 21 #[v, .int .i64 (a : Nat), .int .i64 (b : Nat)] w fun e w' => ∃ u, e = .returned u ∧ Ro w' u (Fd.line W a b) ∧ Below w.heap.size w w' := by
  obtain ⟨u1, u2, rfl, -, -⟩ := h
  have hm : W * H ≤ 144 := Nat.mul_le_mul h2 h3
  have hs := Fd.span_le h1 h2 h3 ha hb
  have a1 : a / W < H := Nat.div_lt_of_lt_mul ha
  have a2 : b / W < H := Nat.div_lt_of_lt_mul hb
  have a3 := Nat.mod_lt a h1
  have a4 := Nat.mod_lt b h1
  have hn : Hid (max (max (a % W - b % W) (b % W - a % W)) (max (a / W - b / W) (b / W - a / W)) = Fd.span W a b) := rfl
  have HL : Hid (Fd.line W a b = if Fd.span W a b = 0 then [(a : Int)] else (List.range (Fd.span W a b + 1)).map fun k : Nat => Fd.along (Fd.span W a b) (a / W : Nat) (b / W : Nat) k * W + Fd.along (Fd.span W a b) (a % W : Nat) (b % W : Nat) k) := rfl
  have e1 : (a : Int) % (W : Int) = (a % W : Nat) := rfl
  have e2 : (a : Int) / (W : Int) = (a / W : Nat) := rfl
  have e3 : (b : Int) % (W : Int) = (b % W : Nat) := rfl
  have e4 : (b : Int) / (W : Int) = (b / W : Nat) := rfl
  generalize a % W = c at *
  generalize a / W = r at *
  generalize b % W = d at *
  generalize b / W = s at *
  generalize Fd.span W a b = n at *
  have A1 : a ≤ 144 := by omega
  have B1 : b ≤ 144 := by omega
  have c1 : c ≤ 11 := by omega
  have d1 : d ≤ 11 := by omega
  have r1 : r ≤ 11 := by omega
  have s1 : s ≤ 11 := by omega
  have hw : ¬ (W : Int) = 0 := by omega
  clear ha hb a1 a2 a3 a4
  generalize hw0 : w.alloc (Obj.cells #[.int .i64 (W : Nat), .int .i64 (H : Nat), u1, u2] 24) = w0
  have B0 : Hid (Below w.heap.size w w0) := by rw [← hw0]; exact (Below.refl _ _).alloc (Nat.le_refl _) _
  have f0 : w0.cell? ⟨w.heap.size, 0, none⟩ = some (.int .i64 (W : Nat)) := by rw [← hw0]; simp
  have Z0 : Hid (w0.heap.size = w.heap.size + 1) := by rw [← hw0]; unfold Hid; simp
  have Hw : Hid (w.alloc (Obj.cells #[.int .i64 (W : Nat), .int .i64 (H : Nat), u1, u2] 24) = w0) := hw0
  clear hw0
  go_enter Tryd.func21, Tryd.ntmps21
  go_upto_if 37 with fail
  rw [Hw.out]
  go_cut [7, 9, 11] (fun v7 v9 v11 W' => v7 = .int .i64 (c : Nat) ∧ v9 = .int .i64 (d : Nat) ∧ v11 = .int .i64 (max (c - d) (d - c) : Nat) ∧ W' = w0)
  case first =>
    by_cases q : (d : Int) - c < 0
    · go_wp2_with fail
      go_meet
      case rel => exact ⟨by first | rfl | rw [e1], by first | rfl | rw [e3], by congr 1; omega, rfl⟩
    · go_wp2_with fail
      go_meet
      case rel => exact ⟨by first | rfl | rw [e1], by first | rfl | rw [e3], by congr 1; omega, rfl⟩
  case rest =>
    obtain ⟨rfl, rfl, rfl, rfl⟩ := hcut
    clear e1 e2 e3 e4
    obtain ⟨n1, hn1⟩ : ∃ n1, max (c - d) (d - c) = n1 := ⟨_, rfl⟩
    rw [hn1]
    have N1 : Hid (max (c - d) (d - c) = n1) := hn1
    have n1l : n1 ≤ 11 := by omega
    clear hn1
    go_upto_if 44 with fail
    go_cut [12] (fun v12 W' => v12 = .int .i64 (max (r - s) (s - r) : Nat) ∧ W' = wc)
    case first =>
      by_cases q : (s : Int) - r < 0
      · go_wp2_with fail
        go_meet
        case rel => exact ⟨by congr 1; omega, rfl⟩
      · go_wp2_with fail
        go_meet
        case rel => exact ⟨by congr 1; omega, rfl⟩
    case rest =>
      obtain ⟨rfl, rfl⟩ := hcut
      obtain ⟨n2, hn2⟩ : ∃ n2, max (r - s) (s - r) = n2 := ⟨_, rfl⟩
      rw [hn2]
      have hN : max n1 n2 = n := by have := hn.out; have := N1.out; omega
      have n2l : n2 ≤ 11 := by omega
      clear hn2
      go_upto_if 49 with fail
      go_cut [11] (fun v11 W' => v11 = .int .i64 (n : Nat) ∧ W' = wc)
      case first =>
        have hN' : Hid (max n1 n2 = n) := hN
        clear hN
        by_cases q : (n1 : Int) < n2
        · go_wp2_with fail
          go_meet
          case rel => exact ⟨by congr 1; have := hN'.out; omega, rfl⟩
        · go_wp2_with fail
          go_meet
          case rel => exact ⟨by congr 1; have := hN'.out; omega, rfl⟩
      case rest =>
        obtain ⟨rfl, rfl⟩ := hcut
        clear hN n2l n1l N1 hn
        by_cases h0 : n = 0
        · subst h0
          go_wp2
          go_ret
          refine ⟨_, rfl, ?_, ?_⟩
          · have e := HL.out
            simp only [if_true] at e
            rw [e]
            have hz := B0.out.size
            exact (Ow.one (w := wc) (base := 0) _ (Nat.zero_le _) rfl).ro
          · exact B0.out.alloc B0.out.size _
        · have n0 : 0 < n := by omega
          have HL' : Hid (Fd.line W a b = (List.range (n + 1)).map fun k : Nat => Fd.along n r s k * W + Fd.along n c d k) := by
            have := HL.out
            rw [if_neg h0] at this
            exact this
          clear HL
          have hb0 : ((n : Int) == 0) = false := by rw [beq_eq_false_iff_ne]; omega
          go_wp2_with fail
          clear h0 hb0
          go_loopw [13, 14] (fun v i W' => ∃ k : Nat, k ≤ n + 1 ∧ i = .int .i64 (k : Nat) ∧ Ow W' (w.heap.size + 1) v ((List.range k).map fun k : Nat => Fd.along n r s k * W + Fd.along n c d k) ∧ W'.cell? ⟨w.heap.size, 0, none⟩ = some (.int .i64 (W : Nat)) ∧ Below w.heap.size w W' ∧ w.heap.size + 1 ≤ W'.heap.size) (fun _ i _ => n + 1 - (intOf i).toNat)
          case atStart => exact ⟨0, Nat.zero_le _, rfl, Ow.nil _ _, f0, B0, by rw [Z0.out]; exact Nat.le_refl _⟩
          case round =>
            obtain ⟨k, hk, rfl, ho, hc, hbl, hz⟩ := hrel
            clear f0
            have O : Hid (Ow wr (w.heap.size + 1) u13 ((List.range k).map fun k : Nat => Fd.along n r s k * W + Fd.along n c d k)) := ho
            have B : Hid (Below w.heap.size w wr) := hbl
            have Z : Hid (w.heap.size + 1 ≤ wr.heap.size) := hz
            have C : Hid (wr.cell? ⟨w.heap.size, 0, none⟩ = some (.int .i64 (W : Nat))) := hc
            clear ho hbl hz
            by_cases h0 : k = n + 1
            · subst h0
              have e1 : ¬ ((n : Int) + 1 ≤ n) := by omega
              go_wp2
              go_ret
              exact ⟨_, rfl, by rw [HL'.out]; exact O.out.ro, B⟩
            · have hkn : k ≤ n := by omega
              have b1 : 0 ≤ 2 * (r : Int) * n := Int.mul_nonneg (by omega) (by omega)
              have b2 : 2 * (r : Int) * n ≤ 22 * 11 := Int.mul_le_mul (by omega) (by omega) (by omega) (by omega)
              have b3 : 0 ≤ 2 * (c : Int) * n := Int.mul_nonneg (by omega) (by omega)
              have b4 : 2 * (c : Int) * n ≤ 22 * 11 := Int.mul_le_mul (by omega) (by omega) (by omega) (by omega)
              have t1 : 0 ≤ 2 * (r : Int) * n + 2 * (k : Int) * ((s : Int) - r) + n ∧ 2 * (r : Int) * n + 2 * (k : Int) * ((s : Int) - r) + n ≤ 1000 := by
                rw [Fd.along_num]
                have g1 : 0 ≤ (r : Int) * (n - k) := Int.mul_nonneg (by omega) (by omega)
                have g2 : 0 ≤ (s : Int) * k := Int.mul_nonneg (by omega) (by omega)
                have g3 : (r : Int) * (n - k) ≤ 11 * 11 := Int.mul_le_mul (by omega) (by omega) (by omega) (by omega)
                have g4 : (s : Int) * k ≤ 11 * 11 := Int.mul_le_mul (by omega) (by omega) (by omega) (by omega)
                omega
              have t2 : 0 ≤ 2 * (c : Int) * n + 2 * (k : Int) * ((d : Int) - c) + n ∧ 2 * (c : Int) * n + 2 * (k : Int) * ((d : Int) - c) + n ≤ 1000 := by
                rw [Fd.along_num]
                have g1 : 0 ≤ (c : Int) * (n - k) := Int.mul_nonneg (by omega) (by omega)
                have g2 : 0 ≤ (d : Int) * k := Int.mul_nonneg (by omega) (by omega)
                have g3 : (c : Int) * (n - k) ≤ 11 * 11 := Int.mul_le_mul (by omega) (by omega) (by omega) (by omega)
                have g4 : (d : Int) * k ≤ 11 * 11 := Int.mul_le_mul (by omega) (by omega) (by omega) (by omega)
                omega
              obtain ⟨t11, t12⟩ := t1
              obtain ⟨t21, t22⟩ := t2
              have p1 := Fd.along_ge 0 n r s k (by omega) (by omega) (by omega) (by omega) (by omega)
              have p2 := Fd.along_le 11 n r s k (by omega) (by omega) (by omega) (by omega) (by omega)
              have q1 := Fd.along_ge 0 n c d k (by omega) (by omega) (by omega) (by omega) (by omega)
              have q2 := Fd.along_le 11 n c d k (by omega) (by omega) (by omega) (by omega) (by omega)
              have ep : (2 * (r : Int) * n + 2 * (k : Int) * ((s : Int) - r) + n) / (2 * n) = Fd.along n r s k := rfl
              have eq : (2 * (c : Int) * n + 2 * (k : Int) * ((d : Int) - c) + n) / (2 * n) = Fd.along n c d k := rfl
              have S : Hid (((List.range (k + 1)).map fun k : Nat => Fd.along n r s k * W + Fd.along n c d k) = ((List.range k).map fun k : Nat => Fd.along n r s k * W + Fd.along n c d k) ++ [Fd.along n r s k * W + Fd.along n c d k]) := by
                unfold Hid
                rw [List.range_succ, List.map_append]
                rfl
              generalize Fd.along n r s k = p at *
              generalize Fd.along n c d k = q at *
              have L : Hid (((List.range k).map fun k : Nat => Fd.along n r s k * W + Fd.along n c d k).length = k) := by unfold Hid; simp
              generalize ((List.range k).map fun k : Nat => Fd.along n r s k * W + Fd.along n c d k) = xs at *
              have m1 : 0 ≤ p * (W : Int) := Int.mul_nonneg p1 (by omega)
              have m2 : p * (W : Int) ≤ 11 * 12 := Int.mul_le_mul p2 (by omega) (by omega) (by omega)
              go_wp2_with (at_builtin; refine app_int _ rfl _ _ rfl (w.heap.size + 1) _ xs rfl (O.out.alloc _) ⟨wr.heap.size, 0, none⟩ (p * W + q) rfl (by simp) (by rw [L.out]; omega) (by have := Z.out; simp; omega) ?_)
              intro g cap w5 o5 g5 a5 l5
              have O5 : Hid (Ow w5 (w.heap.size + 1) (.slice (some ⟨g, 0, none⟩) (xs.length + 1) cap) (xs ++ [p * W + q])) := o5
              have hob : ∀ k, u13.ownBlock = some k → w.heap.size + 1 ≤ k := fun k hk => (O.out.block k hk).1
              have b5 : Below (w.heap.size + 1) wr w5 := ((Below.refl _ _).alloc Z.out _).grown g5 (by have := Z.out; simp; omega) hob
              have C5 : Hid (w5.cell? ⟨w.heap.size, 0, none⟩ = some (.int .i64 (W : Nat))) := by
                unfold Hid
                rw [b5.cell (p := ⟨w.heap.size, 0, none⟩) (Nat.lt_succ_self _)]
                exact C.out
              have B5 : Hid (Below w.heap.size w w5) := B.out.trans (b5.mono (Nat.le_succ _))
              have Z5 : Hid (w.heap.size + 1 ≤ w5.heap.size) := Nat.le_trans Z.out b5.size
              clear o5 g5 a5 l5 hob b5
              go_wp2
              go_round
              case rel => exact ⟨k + 1, by omega, by go_num, by rw [S.out]; exact O5, C5, B5, Z5⟩
              case measure => simp [intOf]; omega
end Go.Proofs.YthnfaflhecfnfaaDoor
