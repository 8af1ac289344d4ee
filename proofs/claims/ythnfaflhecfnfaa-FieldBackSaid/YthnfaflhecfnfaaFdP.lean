/- Fields: what a sign stands for. -/
import Derived.Test.YthnfaflhecfnfaaFdText
import Derived.Test.YthnfaflhecfnfaaFdA
import Derived.Lib.Strings
import Derived.Lib.Bytealg
namespace Go.Proofs.Ythnfaflhecfnfaa
open Go.RowKit
set_option linter.unusedVariables false

set_option maxRecDepth 100000 in
set_option maxHeartbeats 1000000 in
theorem lite_any (s : ByteArray) (c : Int) (w : World) :
    Calls Try.prog 30 #[.string s, .int .u8 c] w fun e w' => e = .returned (.int .i64 (Lib.indexByte s.data.toList c.toNat.toUInt8)) ∧ w' = w := by
  have hx := run_callFunc_extern (w := w) (args := #[.string s, .int .u8 c]) Try.func31 (by kernel_rfl) (by kernel_rfl) (by kernel_rfl) (e := Extern.BytealgIndexByte.indexByte) (by kernel_rfl)
  go_enter Try.func30, Try.ntmps30
  go_wp2
  rw [Lib.run_indexByteString]
  simp only [Result.andThen]
  rw [Oper.upon_value]
  go_wp2
  go_ret
  exact ⟨rfl, rfl⟩

set_option maxHeartbeats 1000000 in
theorem idx_byte (s : ByteArray) (c : Int) (w : World) :
    Calls Try.prog 28 #[.string s, .int .u8 c] w fun e w' => e = .returned (.int .i64 (Lib.indexByte s.data.toList c.toNat.toUInt8)) ∧ w' = w := by
  have K : Hid (Calls Try.prog 30 #[.string s, .int .u8 c] w fun e w' => e = .returned (.int .i64 (Lib.indexByte s.data.toList c.toNat.toUInt8)) ∧ w' = w) := lite_any s c w
  go_enter Try.func28, Try.ntmps28
  go_wp2_with fail
  refine Calls.mono K.out ?_
  rintro e w' ⟨rfl, rfl⟩
  go_wp2
  go_ret
  exact ⟨rfl, rfl⟩

namespace Fd
/-- the number of a sign's ground; -1: there is none. -/
def gnum (b : UInt8) : Int := if b = 46 then 0 else if b = 35 then 1 else if b = 126 then 2 else if b = 94 then 3 else -1
theorem gnum_meant (b : UInt8) (h : ¬ (49 ≤ b.toNat ∧ b.toNat ≤ 57)) : meant b = if 0 ≤ gnum b then some (gnum b, 0) else none := by
  unfold meant gnum
  rw [if_neg h]
  split
  · rfl
  · split
    · rfl
    · split
      · rfl
      · split
        · rfl
        · rfl
end Fd

theorem idx_sign (b : UInt8) : Lib.indexByte [46, 35, 126, 94] b = Fd.gnum b := by
  unfold Fd.gnum
  by_cases h1 : b = 46
  · subst h1; decide
  · by_cases h2 : b = 35
    · subst h2; decide
    · by_cases h3 : b = 126
      · subst h3; decide
      · by_cases h4 : b = 94
        · subst h4; decide
        · have g1 : ¬ 46 = b := fun h => h1 h.symm
          have g2 : ¬ 35 = b := fun h => h2 h.symm
          have g3 : ¬ 126 = b := fun h => h3 h.symm
          have g4 : ¬ 94 = b := fun h => h4 h.symm
          simp [Lib.indexByte, h1, h2, h3, h4, g1, g2, g3, g4]

set_option maxHeartbeats 1000000 in
theorem meant_any (b : UInt8) (w : World) :
    Calls Try.prog 21 #[.int .u8 (b.toNat : Nat)] w fun e w' => (∃ g o, Fd.meant b = some (g, o) ∧ e = .returned (.tuple #[.int .i64 g, .int .i64 o, .bool true]) ∧ w' = w) ∨ (Fd.meant b = none ∧ e = .returned (.tuple #[.int .i64 (-1), .int .i64 0, .bool false]) ∧ w' = w) := by
  have hb := b.toNat_lt
  by_cases h : 49 ≤ b.toNat ∧ b.toNat ≤ 57
  · have e : Fd.meant b = some (0, ((b.toNat : Int) - 48) * 10) := by unfold Fd.meant; rw [if_pos h]
    have E : Hid _ := e
    obtain ⟨h1, h2⟩ := h
    clear e
    generalize b.toNat = n at *
    have w1 : IntKind.u8.wrap ((n : Int) - 48) = (n : Int) - 48 := by rw [IntKind.wrap_u8]; omega
    go_enter Try.func21, Try.ntmps21
    go_wp2
    go_ret3
    exact .inl ⟨_, _, E.out, rfl, rfl⟩
  · have e := Fd.gnum_meant b h
    have I : Hid (Calls Try.prog 28 #[.string ⟨#[46, 35, 126, 94]⟩, .int .u8 (b.toNat : Nat)] w fun e w' => e = .returned (.int .i64 (Fd.gnum b)) ∧ w' = w) := by
      refine (idx_byte ⟨#[46, 35, 126, 94]⟩ (b.toNat : Nat) w).mono ?_
      rintro e w' ⟨rfl, rfl⟩
      refine ⟨?_, rfl⟩
      have e2 : ((b.toNat : Nat) : Int).toNat.toUInt8 = b := by rw [Int.toNat_natCast]; exact UInt8.ofNat_toNat
      rw [e2]
      rw [← idx_sign b]
    have gl : -1 ≤ Fd.gnum b := by unfold Fd.gnum; split <;> (try split) <;> (try split) <;> (try split) <;> omega
    generalize Fd.gnum b = g at *
    by_cases hg : 0 ≤ g
    · have E : Hid (Fd.meant b = some (g, 0)) := by unfold Hid; rw [e, if_pos hg]
      clear e
      by_cases h1 : 49 ≤ b.toNat
      · have h2 : ¬ b.toNat ≤ 57 := by omega
        clear h
        go_enter Try.func21, Try.ntmps21
        go_wp2_with fail
        refine Calls.mono I.out ?_
        rintro e w' ⟨rfl, rfl⟩
        go_wp2
        go_ret3
        exact .inl ⟨_, _, E.out, rfl, rfl⟩
      · clear h
        go_enter Try.func21, Try.ntmps21
        go_wp2_with fail
        refine Calls.mono I.out ?_
        rintro e w' ⟨rfl, rfl⟩
        go_wp2
        go_ret3
        exact .inl ⟨_, _, E.out, rfl, rfl⟩
    · obtain rfl : g = -1 := by omega
      have E : Hid (Fd.meant b = none) := by unfold Hid; rw [e, if_neg hg]
      clear e gl hg
      by_cases h1 : 49 ≤ b.toNat
      · have h2 : ¬ b.toNat ≤ 57 := by omega
        clear h
        go_enter Try.func21, Try.ntmps21
        go_wp2_with fail
        refine Calls.mono I.out ?_
        rintro e w' ⟨rfl, rfl⟩
        go_wp2
        go_ret3
        exact .inr ⟨E.out, rfl, rfl⟩
      · clear h
        go_enter Try.func21, Try.ntmps21
        go_wp2_with fail
        refine Calls.mono I.out ?_
        rintro e w' ⟨rfl, rfl⟩
        go_wp2
        go_ret3
        exact .inr ⟨E.out, rfl, rfl⟩
end Go.Proofs.Ythnfaflhecfnfaa
