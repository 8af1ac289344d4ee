/- Numbers in bytes: fold, unfold, Read. -/
import Derived.Test.YtefepjiajgoomaaDoorWdM
import Derived.Test.YtefepjiajgoomaaDoorByA
namespace Go.Proofs.YtefepjiajgoomaaDoor
open Go.RowKit
set_option linter.unusedVariables false

set_option maxHeartbeats 1000000 in
theorem fold_any (n : Int) (w : World) (h : Wd.In64 n) : Calls Tryd.prog 102 #[.int .i64 n] w fun e w' => e = .returned (.int .u64 (Wd.zz n : Nat)) ∧ w' = w := by
  unfold Wd.In64 at h
  by_cases h0 : n < 0
  · obtain ⟨m, hm⟩ : ∃ m : Nat, n = -((m : Int) + 1) := ⟨(-(n + 1)).toNat, by omega⟩
    subst hm
    have E : Hid (Wd.zz (-((m : Int) + 1)) = m * 2 + 1) := by unfold Hid Wd.zz; rw [if_pos h0]; omega
    have e1 : -((m : Int) + 1) + 1 = -(m : Int) := by omega
    have e2 : - -(m : Int) = m := by omega
    have w1 : IntKind.i64.wrap (-(m : Int)) = -(m : Int) := by rw [IntKind.wrap_i64]; omega
    have w2 : IntKind.i64.wrap (m : Int) = (m : Int) := by rw [IntKind.wrap_i64]; omega
    have hm : (m : Int) < 9223372036854775808 := by omega
    clear h
    go_enter Tryd.func102, Tryd.ntmps102
    go_wp2
    go_ret
    refine ⟨?_, rfl⟩
    rw [E.out]
    show Ending.returned (.int .u64 _) = _
    congr 2
    try simp only [w2]
    omega
  · obtain ⟨m, rfl⟩ : ∃ m : Nat, n = m := ⟨n.toNat, by omega⟩
    have E : Hid (Wd.zz (m : Int) = m * 2) := by unfold Hid Wd.zz; rw [if_neg h0]; omega
    have hm : (m : Int) < 9223372036854775808 := by omega
    clear h
    go_enter Tryd.func102, Tryd.ntmps102
    go_wp2
    go_ret
    refine ⟨?_, rfl⟩
    rw [E.out]
    show Ending.returned (.int .u64 _) = _
    congr 2
    try simp only [w2]
    omega
set_option maxHeartbeats 1000000 in
theorem unfold_any (x : Nat) (w : World) (h : x < 18446744073709551616) : Calls Tryd.prog 103 #[.int .u64 (x : Nat)] w fun e w' => e = .returned (.int .i64 (Wd.unz x)) ∧ w' = w := by
  obtain ⟨m, hm⟩ : ∃ m : Nat, x / 2 = m := ⟨_, rfl⟩
  have hi : (x : Int) / 2 = m := by omega
  have hb : (m : Int) < 9223372036854775808 := by omega
  have w2 : IntKind.i64.wrap (m : Int) = (m : Int) := by rw [IntKind.wrap_i64]; omega
  by_cases h1 : x % 2 = 1
  · have E : Hid (Wd.unz x = -(m : Int) - 1) := by unfold Hid Wd.unz; rw [if_pos h1, hm]
    have hr : (x : Int) % 2 = 1 := by omega
    go_enter Tryd.func103, Tryd.ntmps103
    go_wp2
    go_ret
    refine ⟨?_, rfl⟩
    rw [E.out]
    rfl
  · have E : Hid (Wd.unz x = (m : Int)) := by unfold Hid Wd.unz; rw [if_neg h1, hm]
    have hr : (x : Int) % 2 = 0 := by omega
    go_enter Tryd.func103, Tryd.ntmps103
    go_wp2
    go_ret
    refine ⟨?_, rfl⟩
    rw [E.out]
    rfl

/-- what Read says. -/
def ReadSays (l : List UInt8) (u : Value) : Prop := match Wd.rd 0 0 l with
  | none => u = .tuple #[.int .i64 0, .int .i64 0]
  | some (x, n) => u = .tuple #[.int .i64 (Wd.unz x), .int .i64 (n : Nat)]
theorem rd_step {l : List UInt8} {k x : Nat} {c : UInt8} (h : l[k]? = some c) : Wd.rd k x (l.drop k) = if k = 9 ∧ 1 < c.toNat then none else if 128 ≤ c.toNat then Wd.rd (k + 1) (x + c.toNat % 128 * 128 ^ k) (l.drop (k + 1)) else if c.toNat = 0 ∧ 0 < k then none else some (x + c.toNat * 128 ^ k, k + 1) := by
  obtain ⟨hi, e⟩ := List.getElem?_eq_some_iff.1 h
  rw [List.drop_eq_getElem_cons hi, e]
  rfl
set_option maxRecDepth 100000 in
set_option maxHeartbeats 4000000 in
theorem read_any (v : Value) (l : List UInt8) (w : World) (h : By w v l) :
    Calls Tryd.prog 73 #[v] w fun e w' => (∃ u, e = .returned u ∧ ReadSays l u) ∧ w' = w := by
  obtain ⟨a, cap, rfl, h1, h2, h3⟩ := h
  have H : Hid (l ≠ [] → ∃ x, a = some x ∧ x.block < w.heap.size ∧ ∀ (i : Nat) d, l[i]? = some d → w.cell? (x.add i) = some (.int .u8 (d.toNat : Int))) := h3
  have HL : Hid (l.length ≤ 9223372036854775807) := by unfold Hid; unfold maxLen at h2; omega
  clear h1 h2 h3
  go_enter Tryd.func73, Tryd.ntmps73
  go_wp2
  go_loopw [4, 9] (fun xv iv W => ∃ (x k : Nat), xv = .int .u64 (x : Nat) ∧ iv = .int .i64 (k : Nat) ∧ k ≤ l.length ∧ k ≤ 9 ∧ x < 128 ^ k ∧ Wd.rd k x (l.drop k) = Wd.rd 0 0 l ∧ W = w) (fun _ iv _ => l.length - (intOf iv).toNat)
  case atStart => exact ⟨0, 0, rfl, rfl, Nat.zero_le _, by omega, by decide, rfl, rfl⟩
  case round =>
    obtain ⟨x, k, rfl, rfl, hk, hk9, hx, hrd, rfl⟩ := hrel
    have HR : Hid (Wd.rd k x (l.drop k) = Wd.rd 0 0 l) := hrd
    clear hrd
    by_cases hkl : k = l.length
    · have E : Hid (Wd.rd 0 0 l = none) := by
        unfold Hid
        rw [← HR.out, hkl, List.drop_length]
        rfl
      clear hx hk hk9
      subst hkl
      go_wp2
      go_ret2
      refine ⟨⟨_, rfl, ?_⟩, rfl⟩
      unfold ReadSays
      rw [E.out]
      rfl
    · have hlt : k < l.length := by omega
      obtain ⟨c, hc⟩ : ∃ c, l[k]? = some c := ⟨_, List.getElem?_eq_getElem hlt⟩
      obtain ⟨ad, rfl, had, hcell⟩ := H.out (by intro e; subst e; simp at hlt)
      have HS := rd_step (x := x) hc
      rw [HR.out] at HS
      have HC : Hid (Wd.rd 0 0 l = if k = 9 ∧ 1 < c.toNat then none else if 128 ≤ c.toNat then Wd.rd (k + 1) (x + c.toNat % 128 * 128 ^ k) (l.drop (k + 1)) else if c.toNat = 0 ∧ 0 < k then none else some (x + c.toNat * 128 ^ k, k + 1)) := HS
      have hcc : wr.cell? (ad.add k) = some (.int .u8 (c.toNat : Int)) := hcell k c hc
      have hcl : c.toNat < 256 := c.toNat_lt
      generalize c.toNat = n at *
      clear hcell had HS HR hc
      have hli : (k : Int) < (l.length : Int) := by omega
      by_cases h9 : k = 9 ∧ 1 < n
      · obtain ⟨hk0, hn1⟩ := h9
        have E : Hid (Wd.rd 0 0 l = none) := by unfold Hid; rw [HC.out, if_pos ⟨hk0, hn1⟩]
        have hkb : (((k : Nat) : Int) == 9) = true := by
          have : ((k : Nat) : Int) = 9 := by omega
          simpa using this
        have hni : (1 : Int) < (n : Int) := by omega
        clear HC hx hk0
        go_wp2
        go_ret2
        refine ⟨⟨_, rfl, ?_⟩, rfl⟩
        unfold ReadSays
        rw [E.out]
        rfl
      · have E9 : Hid (Wd.rd 0 0 l = if 128 ≤ n then Wd.rd (k + 1) (x + n % 128 * 128 ^ k) (l.drop (k + 1)) else if n = 0 ∧ 0 < k then none else some (x + n * 128 ^ k, k + 1)) := by unfold Hid; rw [HC.out, if_neg h9]
        obtain ⟨m, hm⟩ : ∃ m, n % 128 = m := ⟨_, rfl⟩
        have hmi : (n : Int) % 128 = m := by omega
        have hm2 : m < 128 := by omega
        have HX : Hid (x < 128 ^ k) := hx
        obtain ⟨y, hy⟩ : ∃ y, m * 128 ^ k = y := ⟨_, rfl⟩
        obtain ⟨z, hz⟩ : ∃ z, x + y = z := ⟨_, rfl⟩
        have e2 : (2 : Int) ^ (7 * k) = ((128 ^ k : Nat) : Int) := by
          have h := Nat.pow_mul 2 7 k
          rw [show (2 ^ 7 : Nat) = 128 from rfl] at h
          rw [← h]
          simp
        have ey : (m : Int) * 2 ^ (7 * k) = (y : Nat) := by rw [e2, ← hy]; simp
        have hb : y ≤ 9223372036854775808 ∧ z < 18446744073709551616 := by
          by_cases hk0 : k = 9
          · subst hk0
            have : m ≤ 1 := by omega
            have h2 : m * 128 ^ 9 ≤ 1 * 128 ^ 9 := Nat.mul_le_mul_right _ this
            rw [Wd.pow9] at h2 hx
            omega
          · have h8 : 128 ^ k ≤ 128 ^ 8 := Nat.pow_le_pow_right (by decide) (by omega)
            have h82 : (128 : Nat) ^ 8 = 72057594037927936 := by decide
            have : m * 128 ^ k ≤ 127 * 128 ^ k := Nat.mul_le_mul_right _ (by omega)
            omega
        have wy : IntKind.u64.wrap ((y : Nat) : Int) = (y : Nat) := by rw [IntKind.wrap_u64]; omega
        have ez : ((x : Nat) : Int) + (y : Nat) = (z : Nat) := by omega
        have wz : IntKind.u64.wrap ((z : Nat) : Int) = (z : Nat) := by rw [IntKind.wrap_u64]; omega
        have zb : z < 18446744073709551616 := hb.2
        have HZ : Hid (x + m * 128 ^ k = z) := by unfold Hid; rw [hy]; exact hz
        have HM : Hid (n % 128 = m) := hm
        have hk7 : (7 : Int) * (k : Int) < 64 := by omega
        clear HC hx e2 hb hy hz hm
        have KB : (∃ c : Bool, (((k : Nat) : Int) == 9) = c ∧ (c = true → n ≤ 1)) := ⟨_, rfl, fun h => by
          have : ((k : Nat) : Int) = 9 := by simpa using h
          omega⟩
        obtain ⟨c, hkb, hcn⟩ := KB
        have HK9 : Hid (k ≤ 9 ∧ ¬ (k = 9 ∧ 1 < n)) := ⟨hk9, h9⟩
        clear h9
        rcases Nat.lt_or_ge n 128 with hn | hn
        · have hmn : m = n := by have := HM.out; omega
          have hni : ¬ (128 : Int) ≤ (n : Int) := by omega
          by_cases h0 : n = 0 ∧ 0 < k
          · obtain ⟨rfl, hk0⟩ := h0
            have E : Hid (Wd.rd 0 0 l = none) := by unfold Hid; rw [E9.out, if_neg (by omega), if_pos ⟨rfl, hk0⟩]
            have hk0i : (0 : Int) < (k : Int) := by omega
            cases c
            all_goals
              go_wp2
              go_ret2
              refine ⟨⟨_, rfl, ?_⟩, rfl⟩
              unfold ReadSays
              rw [E.out]
              rfl
          · have E : Hid (Wd.rd 0 0 l = some (z, k + 1)) := by unfold Hid; rw [E9.out, if_neg (by omega), if_neg h0, ← HZ.out, hmn]
            have h0b : ∃ d : Bool, (((n : Nat) : Int) == 0) = d ∧ (d = true → ¬ (0 : Int) < (k : Int)) := ⟨_, rfl, fun h => by
              have : ((n : Nat) : Int) = 0 := by simpa using h
              omega⟩
            obtain ⟨d, hd, hdk⟩ := h0b
            have wk : IntKind.i64.wrap ((k : Int) + 1) = (k : Int) + 1 := by rw [IntKind.wrap_i64]; omega
            clear hmn h0
            have fin : ReadSays l (.tuple #[.int .i64 (Wd.unz z), .int .i64 ((k + 1 : Nat) : Int)]) := by
              unfold ReadSays
              rw [E.out]
            have FIN : Hid (ReadSays l (.tuple #[.int .i64 (Wd.unz z), .int .i64 ((k + 1 : Nat) : Int)])) := fin
            clear fin
            cases c
            all_goals
              have hc1 : Hid (_ = true → n ≤ 1) := hcn
              cases d
              all_goals
                have hd1 : Hid (_ = true → ¬ (0 : Int) < (k : Int)) := hdk
                try (have hcx : ¬ (1 : Int) < (n : Int) := by have := hc1.out rfl; omega)
                try (have hdx : ¬ (0 : Int) < (k : Int) := hd1.out rfl)
                clear hcn hdk hc1 hd1
                go_wp2_with fail
                refine (unfold_any z _ zb).mono ?_
                rintro e w1 ⟨rfl, rfl⟩
                go_wp2
                go_ret2
                exact ⟨⟨_, rfl, FIN.out⟩, rfl⟩
        · have hni : (128 : Int) ≤ (n : Int) := by omega
          cases c
          · have HK : Hid (k < 9) := by
              unfold Hid
              have : ¬ ((k : Nat) : Int) = 9 := by simpa using hkb
              omega
            have E : Hid (Wd.rd (k + 1) z (l.drop (k + 1)) = Wd.rd 0 0 l) := by unfold Hid; rw [E9.out, if_pos hn, HM.out, HZ.out]
            clear hcn
            go_wp2
            go_roundw
            case rel =>
              refine ⟨z, k + 1, rfl, rfl, by omega, by have := HK.out; omega, ?_, E.out, trivial⟩
              have hs : 128 ^ (k + 1) = 128 ^ k * 128 := Nat.pow_succ ..
              have : m * 128 ^ k ≤ 127 * 128 ^ k := Nat.mul_le_mul_right _ (by omega)
              have h1 := HZ.out
              have h2 := HX.out
              omega
            case measure => simp [intOf]; omega
          · have := hcn rfl
            omega
end Go.Proofs.YtefepjiajgoomaaDoor
