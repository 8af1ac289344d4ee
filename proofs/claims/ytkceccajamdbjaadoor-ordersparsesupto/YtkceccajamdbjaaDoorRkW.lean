/- The reference: whole numbers. -/
import Derived.Test.YtkceccajamdbjaaDoorRows
import Derived.Test.YtkceccajamdbjaaDoorTxM
import Derived.WalkKit
import Derived.WalkSpells
import Derived.WalkLawsBesides
import Derived.IntWalk
import Derived.WideShapes
import Derived.Laws.Closers25
namespace Go.Proofs.YtkceccajamdbjaaDoor
open Go.RowKit Tx
set_option linter.unusedVariables false

/-- a whole number; -1: it is none. -/
def wholeInt (m : Nat) (l : List UInt8) : Int := match whole m l with
  | some n => n
  | none => -1
theorem wholeInt_none {m : Nat} {l : List UInt8} (h : whole m l = none) : wholeInt m l = -1 := by unfold wholeInt; rw [h]
theorem wholeInt_some {m n : Nat} {l : List UInt8} (h : whole m l = some n) : wholeInt m l = n := by unfold wholeInt; rw [h]

theorem empty_yes {s : ByteArray} (h : s.data.toList = []) : s.toList.isEmpty = true := by
  rw [← decide_eq_emptyBytes s]
  exact decide_eq_true (WideShapes.bytes_inj (by rw [h]; rfl))
theorem empty_no {s : ByteArray} (h : s.data.toList ≠ []) : s.toList.isEmpty = false := by
  rw [← decide_eq_emptyBytes s]
  exact decide_eq_false (fun e => h (by rw [e]; rfl))
theorem val_lt : ∀ (k : Nat) (l : List UInt8), l.length = k → l.all isDig = true → val l < 10 ^ k := by
  intro k
  induction k with
  | zero => intro l hl _; rw [List.length_eq_zero_iff.1 hl]; decide
  | succ k ih =>
    intro l hl hd
    have hne : l ≠ [] := by rintro rfl; simp at hl
    obtain ⟨r, b, rfl⟩ : ∃ r b, l = r ++ [b] := ⟨l.dropLast, l.getLast hne, (List.dropLast_concat_getLast hne).symm⟩
    rw [List.all_append, Bool.and_eq_true] at hd
    have h1 := ih r (by simpa using hl) hd.1
    have h2 : isDig b = true := by simpa using hd.2
    unfold isDig at h2
    simp at h2
    rw [val_snoc, Nat.pow_succ]
    omega

set_option maxHeartbeats 2000000 in
theorem ref_whole (s : ByteArray) (m : Nat) (w : World) (hm : m ≤ 18) (hs : s.size ≤ 9223372036854775807) :
    Calls Tryd.prog 38 #[.string s, .int .i64 (m : Nat)] w fun e w' => e = .returned (.int .i64 (wholeInt m s.data.toList)) ∧ w' = w := by
  obtain ⟨l, hl⟩ : ∃ l, s.data.toList = l := ⟨_, rfl⟩
  have Hl : Hid (s.data.toList = l) := hl
  have Ll : Hid (l.length = s.size) := by unfold Hid; rw [← hl]; rfl
  rw [hl]
  by_cases h0 : l = []
  · have he : s.toList.isEmpty = true := empty_yes (by rw [hl]; exact h0)
    have E : Hid (wholeInt m l = -1) := wholeInt_none (by unfold whole; rw [if_pos (.inl h0)])
    rw [E.out]
    clear hl h0
    go_enter Tryd.func38, Tryd.ntmps38
    go_wp2
    go_ret
    exact ⟨rfl, rfl⟩
  · have he : s.toList.isEmpty = false := empty_no (by rw [hl]; exact h0)
    have s0 : 0 < s.size := by rw [← Ll.out]; exact List.length_pos_iff.2 h0
    by_cases h1 : m < s.size
    · have E : Hid (wholeInt m l = -1) := wholeInt_none (by unfold whole; rw [if_pos (.inr (.inl (by rw [Ll.out]; exact h1)))])
      rw [E.out]
      clear hl h0
      go_enter Tryd.func38, Tryd.ntmps38
      go_wp2
      go_ret
      exact ⟨rfl, rfl⟩
    · have hh : l.head? = some s[0] := by
        have h2 : l[0]? = some s[0] := by
          subst hl
          exact List.getElem?_eq_getElem (by have := Ll.out; omega)
        rw [← h2]
        exact List.head?_eq_getElem? ..
      by_cases h2 : s[0] = 48 ∧ 1 < s.size
      · have E : Hid (wholeInt m l = -1) := wholeInt_none (by unfold whole; rw [if_pos (.inr (.inr ⟨by rw [hh, h2.1], by rw [Ll.out]; exact h2.2⟩))])
        rw [E.out]
        obtain ⟨h3, h4⟩ := h2
        have h5 : s[0].toNat = 48 := by rw [h3]; rfl
        have h6 : (1 : Int) < (s.size : Int) := by omega
        clear hl h0 hh h3
        go_enter Tryd.func38, Tryd.ntmps38
        go_wp2
        go_ret
        exact ⟨rfl, rfl⟩
      · have Wl : Hid (whole m l = if l.all isDig then some (val l) else none) := by
          unfold Hid whole
          rw [if_neg]
          rintro (h | h | ⟨h3, h4⟩)
          · exact h0 h
          · rw [Ll.out] at h; exact h1 h
          · rw [hh] at h3
            injection h3 with h3
            exact h2 ⟨h3, by rw [← Ll.out]; exact h4⟩
        have key : ∀ (b : Bool), ((s[0].toNat : Int) == 48) = b → (b = true → ¬ (1 : Int) < (s.size : Int)) := by
          intro b hb e hlt
          rw [e] at hb
          have h9 : (s[0].toNat : Int) = 48 := by simpa using hb
          have h10 : s[0].toNat = 48 := by omega
          exact h2 ⟨UInt8.toNat_inj.1 (by rw [h10]; rfl), by omega⟩
        clear hh hl h0
        cases hb : ((s[0].toNat : Int) == 48) with
        | true =>
          have h6 := key _ hb rfl
          clear key h2
          go_enter Tryd.func38, Tryd.ntmps38
          go_wp2_with fail
          go_loop [5, 6] (fun n i => ∃ k : Nat, k ≤ s.size ∧ i = .int .i64 (k : Nat) ∧ n = .int .i64 ((val (l.take k) : Nat) : Int) ∧ (l.take k).all isDig = true) (fun _ i => s.size - (intOf i).toNat)
          case atStart => exact ⟨0, Nat.zero_le _, rfl, rfl, by simp⟩
          case round =>
            obtain ⟨k, hk, rfl, rfl, hd⟩ := hrel
            have Hd : Hid ((l.take k).all isDig = true) := hd
            clear hd
            by_cases hks : k = s.size
            · have E : Hid (wholeInt m l = (val (l.take k) : Nat)) := by
                have h9 : l.take k = l := List.take_of_length_le (by rw [Ll.out, hks]; exact Nat.le_refl _)
                rw [h9]
                exact wholeInt_some (by rw [Wl.out, if_pos (by have := Hd.out; rw [h9] at this; exact this)])
              subst hks
              generalize val (l.take s.size) = n at *
              go_wp2
              go_ret
              exact ⟨by rw [E.out]; rfl, rfl⟩
            · have hks' : k < s.size := by omega
              have hkl : k < l.length := by rw [Ll.out]; exact hks'
              have eb : l[k] = s[k] := by
                have := Hl.out
                subst this
                rfl
              have TK : Hid (l.take (k + 1) = l.take k ++ [s[k]]) := by unfold Hid; rw [List.take_succ_eq_append_getElem hkl, eb]
              have MB : Hid (s[k] ∈ l) := by unfold Hid; rw [← eb]; exact List.getElem_mem hkl
              have NO : Hid (isDig s[k] = false → wholeInt m l = -1) := fun h => wholeInt_none (by
                rw [Wl.out, if_neg]
                intro ha
                have := List.all_eq_true.1 ha _ MB.out
                rw [h] at this
                cases this)
              have vb : val (l.take k) ≤ 1000000000000000000 := by
                have h9 := val_lt k (l.take k) (by rw [List.length_take]; omega) Hd.out
                have h10 : 10 ^ k ≤ 10 ^ 18 := Nat.pow_le_pow_right (by decide) (by omega)
                have h11 : (10 : Nat) ^ 18 = 1000000000000000000 := by decide
                omega
              have vb2 : val (l.take k) * 10 ≤ 1000000000000000000 := by
                have h9 := val_lt k (l.take k) (by rw [List.length_take]; omega) Hd.out
                have h10 : 10 ^ k ≤ 10 ^ 17 := Nat.pow_le_pow_right (by decide) (by omega)
                have h11 : (10 : Nat) ^ 17 = 100000000000000000 := by decide
                omega
              have VS : Hid (val (l.take (k + 1)) = val (l.take k) * 10 + (s[k].toNat - 48)) := by unfold Hid; rw [TK.out, val_snoc]
              have DS : Hid (isDig s[k] = true → (l.take (k + 1)).all isDig = true) := fun h => by rw [TK.out, List.all_append, Hd.out]; simpa using h
              have Db : Hid (isDig s[k] = (decide (48 ≤ s[k].toNat) && decide (s[k].toNat ≤ 57))) := rfl
              obtain ⟨b, hb9⟩ : ∃ b, s[k].toNat = b := ⟨_, rfl⟩
              rw [hb9] at VS Db
              have Hb : Hid (s[k].toNat = b) := hb9
              generalize val (l.take k) = n at *
              clear eb hkl MB TK
              by_cases q1 : b < 48
              · have E : Hid (wholeInt m l = -1) := NO.out (by rw [Db.out, decide_eq_false (by omega)]; rfl)
                have q1' : (b : Int) < 48 := by omega
                clear NO Db DS VS
                go_wp2
                go_ret
                exact ⟨by rw [E.out]; rfl, rfl⟩
              · have q1' : ¬ (b : Int) < 48 := by omega
                by_cases q2 : 57 < b
                · have E : Hid (wholeInt m l = -1) := NO.out (by rw [Db.out, decide_eq_false (show ¬ b ≤ 57 by omega), Bool.and_false])
                  have q2' : (57 : Int) < (b : Int) := by omega
                  clear NO Db DS VS
                  go_wp2
                  go_ret
                  exact ⟨by rw [E.out]; rfl, rfl⟩
                · have q2' : ¬ (57 : Int) < (b : Int) := by omega
                  have DD : Hid ((l.take (k + 1)).all isDig = true) := DS.out (by rw [Db.out, decide_eq_true (by omega), decide_eq_true (by omega)]; rfl)
                  clear NO Db DS
                  go_wp2
                  go_round
                  case rel => exact ⟨k + 1, by omega, by go_num, by rw [VS.out]; go_num, DD⟩
                  case measure => simp [intOf]; omega
        | false =>
          clear key h2
          go_enter Tryd.func38, Tryd.ntmps38
          go_wp2_with fail
          go_loop [5, 6] (fun n i => ∃ k : Nat, k ≤ s.size ∧ i = .int .i64 (k : Nat) ∧ n = .int .i64 ((val (l.take k) : Nat) : Int) ∧ (l.take k).all isDig = true) (fun _ i => s.size - (intOf i).toNat)
          case atStart => exact ⟨0, Nat.zero_le _, rfl, rfl, by simp⟩
          case round =>
            obtain ⟨k, hk, rfl, rfl, hd⟩ := hrel
            have Hd : Hid ((l.take k).all isDig = true) := hd
            clear hd
            by_cases hks : k = s.size
            · have E : Hid (wholeInt m l = (val (l.take k) : Nat)) := by
                have h9 : l.take k = l := List.take_of_length_le (by rw [Ll.out, hks]; exact Nat.le_refl _)
                rw [h9]
                exact wholeInt_some (by rw [Wl.out, if_pos (by have := Hd.out; rw [h9] at this; exact this)])
              subst hks
              generalize val (l.take s.size) = n at *
              go_wp2
              go_ret
              exact ⟨by rw [E.out]; rfl, rfl⟩
            · have hks' : k < s.size := by omega
              have hkl : k < l.length := by rw [Ll.out]; exact hks'
              have eb : l[k] = s[k] := by
                have := Hl.out
                subst this
                rfl
              have TK : Hid (l.take (k + 1) = l.take k ++ [s[k]]) := by unfold Hid; rw [List.take_succ_eq_append_getElem hkl, eb]
              have MB : Hid (s[k] ∈ l) := by unfold Hid; rw [← eb]; exact List.getElem_mem hkl
              have NO : Hid (isDig s[k] = false → wholeInt m l = -1) := fun h => wholeInt_none (by
                rw [Wl.out, if_neg]
                intro ha
                have := List.all_eq_true.1 ha _ MB.out
                rw [h] at this
                cases this)
              have vb : val (l.take k) ≤ 1000000000000000000 := by
                have h9 := val_lt k (l.take k) (by rw [List.length_take]; omega) Hd.out
                have h10 : 10 ^ k ≤ 10 ^ 18 := Nat.pow_le_pow_right (by decide) (by omega)
                have h11 : (10 : Nat) ^ 18 = 1000000000000000000 := by decide
                omega
              have vb2 : val (l.take k) * 10 ≤ 1000000000000000000 := by
                have h9 := val_lt k (l.take k) (by rw [List.length_take]; omega) Hd.out
                have h10 : 10 ^ k ≤ 10 ^ 17 := Nat.pow_le_pow_right (by decide) (by omega)
                have h11 : (10 : Nat) ^ 17 = 100000000000000000 := by decide
                omega
              have VS : Hid (val (l.take (k + 1)) = val (l.take k) * 10 + (s[k].toNat - 48)) := by unfold Hid; rw [TK.out, val_snoc]
              have DS : Hid (isDig s[k] = true → (l.take (k + 1)).all isDig = true) := fun h => by rw [TK.out, List.all_append, Hd.out]; simpa using h
              have Db : Hid (isDig s[k] = (decide (48 ≤ s[k].toNat) && decide (s[k].toNat ≤ 57))) := rfl
              obtain ⟨b, hb9⟩ : ∃ b, s[k].toNat = b := ⟨_, rfl⟩
              rw [hb9] at VS Db
              have Hb : Hid (s[k].toNat = b) := hb9
              generalize val (l.take k) = n at *
              clear eb hkl MB TK
              by_cases q1 : b < 48
              · have E : Hid (wholeInt m l = -1) := NO.out (by rw [Db.out, decide_eq_false (by omega)]; rfl)
                have q1' : (b : Int) < 48 := by omega
                clear NO Db DS VS
                go_wp2
                go_ret
                exact ⟨by rw [E.out]; rfl, rfl⟩
              · have q1' : ¬ (b : Int) < 48 := by omega
                by_cases q2 : 57 < b
                · have E : Hid (wholeInt m l = -1) := NO.out (by rw [Db.out, decide_eq_false (show ¬ b ≤ 57 by omega), Bool.and_false])
                  have q2' : (57 : Int) < (b : Int) := by omega
                  clear NO Db DS VS
                  go_wp2
                  go_ret
                  exact ⟨by rw [E.out]; rfl, rfl⟩
                · have q2' : ¬ (57 : Int) < (b : Int) := by omega
                  have DD : Hid ((l.take (k + 1)).all isDig = true) := DS.out (by rw [Db.out, decide_eq_true (by omega), decide_eq_true (by omega)]; rfl)
                  clear NO Db DS
                  go_wp2
                  go_round
                  case rel => exact ⟨k + 1, by omega, by go_num, by rw [VS.out]; go_num, DD⟩
                  case measure => simp [intOf]; omega
end Go.Proofs.YtkceccajamdbjaaDoor
