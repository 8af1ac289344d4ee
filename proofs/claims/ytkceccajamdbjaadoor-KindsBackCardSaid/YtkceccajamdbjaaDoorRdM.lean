/- A number of few digits, as Go's library reads it. Plain mathematics. -/
import Derived.Test.YtkceccajamdbjaaDoorTxM
import Derived.Lib.AtoiTie
import Derived.Lib.AtoiBound
import Derived.Lib.ItoaMem
namespace Go.Proofs.YtkceccajamdbjaaDoor.Tx
set_option linter.unusedVariables false

theorem val_small : ∀ (k : Nat) (l : List UInt8), l.length ≤ k → l.all isDig = true → val l < 10 ^ k := by
  intro k
  induction k with
  | zero =>
    intro l hl _
    have : l = [] := List.length_eq_zero_iff.1 (by omega)
    subst this
    decide
  | succ k ih =>
    intro l hl hd
    by_cases h0 : l = []
    · subst h0
      exact Nat.pow_pos (by decide)
    · obtain ⟨r, b, rfl⟩ : ∃ r b, l = r ++ [b] := ⟨l.dropLast, l.getLast h0, (List.dropLast_concat_getLast h0).symm⟩
      rw [List.all_append] at hd
      simp only [Bool.and_eq_true] at hd
      have h1 := ih r (by simp at hl; omega) hd.1
      have h2 : b.toNat - 48 ≤ 9 := by
        have := hd.2
        simp [isDig] at this
        omega
      rw [val_snoc, Nat.pow_succ]
      omega
theorem dig_lt {n M : Nat} (h : (dig n).length ≤ M) : n < 10 ^ M := by
  have := val_small M (dig n) h (dig_all n)
  rw [val_dig] at this
  exact this
theorem decFrom_digits : ∀ (l : List UInt8) (acc : Nat), l.all isDig = true → Lib.decFrom acc l = some (l.foldl (fun n b => n * 10 + (b.toNat - 48)) acc)
  | [], acc, _ => rfl
  | b :: r, acc, h => by
    simp only [List.all_cons, Bool.and_eq_true] at h
    have hb : 48 ≤ b.toNat ∧ b.toNat ≤ 57 := by
      have := h.1
      simp [isDig] at this
      exact this
    unfold Lib.decFrom Lib.digitVal
    rw [if_pos hb]
    simp only
    rw [decFrom_digits r _ h.2]
    rfl
theorem atoi_digits {l : List UInt8} (h0 : l ≠ []) (h : l.all isDig = true) : Lib.atoi l = some (val l : Int) := by
  cases l with
  | nil => exact absurd rfl h0
  | cons b r =>
    have hb : 48 ≤ b.toNat ∧ b.toNat ≤ 57 := by
      have := h
      simp only [List.all_cons, Bool.and_eq_true] at this
      have := this.1
      simp [isDig] at this
      exact this
    have h1 : (b == 45) = false := by
      cases hc : b == 45 with
      | false => rfl
      | true => have := beq_iff_eq.1 hc; subst this; revert hb; decide
    have h2 : (b == 43) = false := by
      cases hc : b == 43 with
      | false => rfl
      | true => have := beq_iff_eq.1 hc; subst this; revert hb; decide
    unfold Lib.atoi
    simp only [h1, h2, Bool.false_eq_true, if_false]
    unfold Lib.decNat
    simp only [List.isEmpty_cons, Bool.false_eq_true, if_false]
    rw [decFrom_digits (b :: r) 0 h]
    rfl
/-- how Atoi ends, at a word of at most so many signs: what is no number of the document's form is no number, below 0, or comes out otherwise than it stood. -/
theorem atoi_whole {M : Nat} (h0 : 0 < M) (hM : M ≤ 7) {l : List UInt8} (hl : l.length ≤ M) : (∃ m : Nat, whole M l = some m ∧ m < 10 ^ M ∧ Lib.atoiAll l = .ok (m : Int) ∧ dig m = l) ∨
    (whole M l = none ∧ (Lib.atoiAll l = .syntax ∨ ∃ v : Int, Lib.atoiAll l = .ok v ∧ -1000000000000000000 < v ∧ v < 1000000000000000000 ∧ (v < 0 ∨ dig v.toNat ≠ l))) := by
  have sh := Lib.atoiAll_short l (by omega)
  cases hw : whole M l with
  | some m =>
    left
    have hd := dig_whole hw
    have hm : m < 10 ^ M := dig_lt (by rw [hd]; exact hl)
    refine ⟨m, rfl, hm, ?_, hd⟩
    have h1 : l.all isDig = true := by rw [← hd]; exact dig_all m
    have h2 : l ≠ [] := whole_ne hw
    have h3 : val l = m := by rw [← hd, val_dig]
    rw [sh, atoi_digits h2 h1, h3]
    rfl
  | none =>
    right
    refine ⟨rfl, ?_⟩
    cases ha : Lib.atoi l with
    | none => left; rw [sh, ha]; rfl
    | some v =>
      right
      have hb := Lib.atoi_bound ha (by omega)
      refine ⟨v, by rw [sh, ha]; rfl, hb.1, hb.2, ?_⟩
      by_cases h0' : v < 0
      · exact .inl h0'
      · refine .inr fun e => ?_
        have h1 : v.toNat < 10 ^ M := dig_lt (by rw [e]; exact hl)
        have h2 := whole_dig (most := M) h0 h1
        rw [e, hw] at h2
        cases h2
end Go.Proofs.YtkceccajamdbjaaDoor.Tx
