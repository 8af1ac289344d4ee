/- A number of few digits, as Go's library reads it. Plain mathematics. · The program's digits: a number that is read. · A line's end. -/
import Derived.Test.YtelbdcljdfadbaaDoorZOrdersBack1
import Derived.Lib.AtoiTie
import Derived.Lib.AtoiBound
import Derived.Lib.ItoaMem
import Derived.Test.YtelbdcljdfadbaaDoorShelf
import Derived.WideShapes
namespace Go.Proofs.YtelbdcljdfadbaaDoor.Tx
set_option linter.unusedVariables false

theorem val_small : ∀ (k : Nat) (l : List UInt8), l.length ≤ k → l.all isDig = true → val l < 10 ^ k := by
  intro k
  induction k with
  | zero =>
    intro l hl _
    have : l = [] := List.length_eq_zero_iff.1 (by omega)
    subst this
    decide
  | succ k ih =>
    intro l hl hd
    by_cases h0 : l = []
    · subst h0
      exact Nat.pow_pos (by decide)
    · obtain ⟨r, b, rfl⟩ : ∃ r b, l = r ++ [b] := ⟨l.dropLast, l.getLast h0, (List.dropLast_concat_getLast h0).symm⟩
      rw [List.all_append] at hd
      simp only [Bool.and_eq_true] at hd
      have h1 := ih r (by simp at hl; omega) hd.1
      have h2 : b.toNat - 48 ≤ 9 := by
        have := hd.2
        simp [isDig] at this
        omega
      rw [val_snoc, Nat.pow_succ]
      omega
theorem dig_lt {n M : Nat} (h : (dig n).length ≤ M) : n < 10 ^ M := by
  have := val_small M (dig n) h (dig_all n)
  rw [val_dig] at this
  exact this
theorem decFrom_digits : ∀ (l : List UInt8) (acc : Nat), l.all isDig = true → Lib.decFrom acc l = some (l.foldl (fun n b => n * 10 + (b.toNat - 48)) acc)
  | [], acc, _ => rfl
  | b :: r, acc, h => by
    simp only [List.all_cons, Bool.and_eq_true] at h
    have hb : 48 ≤ b.toNat ∧ b.toNat ≤ 57 := by
      have := h.1
      simp [isDig] at this
      exact this
    unfold Lib.decFrom Lib.digitVal
    rw [if_pos hb]
    simp only
    rw [decFrom_digits r _ h.2]
    rfl
theorem atoi_digits {l : List UInt8} (h0 : l ≠ []) (h : l.all isDig = true) : Lib.atoi l = some (val l : Int) := by
  cases l with
  | nil => exact absurd rfl h0
  | cons b r =>
    have hb : 48 ≤ b.toNat ∧ b.toNat ≤ 57 := by
      have := h
      simp only [List.all_cons, Bool.and_eq_true] at this
      have := this.1
      simp [isDig] at this
      exact this
    have h1 : (b == 45) = false := by
      cases hc : b == 45 with
      | false => rfl
      | true => have := beq_iff_eq.1 hc; subst this; revert hb; decide
    have h2 : (b == 43) = false := by
      cases hc : b == 43 with
      | false => rfl
      | true => have := beq_iff_eq.1 hc; subst this; revert hb; decide
    unfold Lib.atoi
    simp only [h1, h2, Bool.false_eq_true, if_false]
    unfold Lib.decNat
    simp only [List.isEmpty_cons, Bool.false_eq_true, if_false]
    rw [decFrom_digits (b :: r) 0 h]
    rfl
/-- how Atoi ends, at a word of at most so many signs: what is no number of the document's form is no number, below 0, or comes out otherwise than it stood. -/
theorem atoi_whole {M : Nat} (h0 : 0 < M) (hM : M ≤ 7) {l : List UInt8} (hl : l.length ≤ M) : (∃ m : Nat, whole M l = some m ∧ m < 10 ^ M ∧ Lib.atoiAll l = .ok (m : Int) ∧ dig m = l) ∨
    (whole M l = none ∧ (Lib.atoiAll l = .syntax ∨ ∃ v : Int, Lib.atoiAll l = .ok v ∧ -1000000000000000000 < v ∧ v < 1000000000000000000 ∧ (v < 0 ∨ dig v.toNat ≠ l))) := by
  have sh := Lib.atoiAll_short l (by omega)
  cases hw : whole M l with
  | some m =>
    left
    have hd := dig_whole hw
    have hm : m < 10 ^ M := dig_lt (by rw [hd]; exact hl)
    refine ⟨m, rfl, hm, ?_, hd⟩
    have h1 : l.all isDig = true := by rw [← hd]; exact dig_all m
    have h2 : l ≠ [] := whole_ne hw
    have h3 : val l = m := by rw [← hd, val_dig]
    rw [sh, atoi_digits h2 h1, h3]
    rfl
  | none =>
    right
    refine ⟨rfl, ?_⟩
    cases ha : Lib.atoi l with
    | none => left; rw [sh, ha]; rfl
    | some v =>
      right
      have hb := Lib.atoi_bound ha (by omega)
      refine ⟨v, by rw [sh, ha]; rfl, hb.1, hb.2, ?_⟩
      by_cases h0' : v < 0
      · exact .inl h0'
      · refine .inr fun e => ?_
        have h1 : v.toNat < 10 ^ M := dig_lt (by rw [e]; exact hl)
        have h2 := whole_dig (most := M) h0 h1
        rw [e, hw] at h2
        cases h2
end Go.Proofs.YtelbdcljdfadbaaDoor.Tx

namespace Go.Proofs.YtelbdcljdfadbaaDoor
open Go.RowKit
set_option linter.unusedVariables false

/-- strconv.ErrSyntax is laid. -/
def Sy (w : World) : Prop := ∃ tp p, w.var? Tryd.prog "strconv.ErrSyntax" = some #[.iface tp p]
theorem sy_glob : Tryd.prog.globalNamed "strconv.ErrSyntax" = some 5 := by kernel_rfl
theorem Sy.below {w w' : World} (h : Sy w) (hb : Below w.heap.size w w') : Sy w' := by
  obtain ⟨tp, p, h⟩ := h
  refine ⟨tp, p, ?_⟩
  obtain ⟨t, f, e⟩ := var_at sy_glob h
  have e2 := hb.block _ (lt_of_block e)
  unfold World.var? at *
  rw [sy_glob] at h ⊢
  simp only [Option.bind_some] at h ⊢
  rw [e2]
  exact h
theorem itoa_big (n : Nat) (hn : n ≤ 9223372036854775807) (w : World) (hw : Pw w) :
    Calls Tryd.prog 88 #[.int .i64 (n : Nat)] w fun e w' => e = .returned (.string ⟨(Tx.dig n).toArray⟩) ∧ Below w.heap.size w w' := by
  refine (Tryd.strconv_Itoa (n : Int) (by omega) (by omega) w hw).mono ?_
  rintro e w' ⟨rfl, k, os, rfl⟩
  rw [Lib.itoa_nonneg, dig_dec]
  exact ⟨rfl, rfl, rfl, rfl, by simp [Sort.grow], fun i hi => by
    show (w.heap ++ os)[i]? = _
    rw [Array.getElem?_append, if_pos hi]⟩
theorem atoi_ok (s : ByteArray) (v : Int) (w : World) (hs : s.size ≤ 1000) (h : Lib.atoiAll s.data.toList = .ok v) :
    Calls Tryd.prog 145 #[.string s] w fun e w' => e = .returned (.tuple #[.int .i64 v, .nilIface]) ∧ Below w.heap.size w w' := by
  refine (Tryd.strconv_Atoi_ok s (by omega) v h w).mono ?_
  rintro e w' ⟨rfl, rfl | ⟨t, rfl⟩⟩
  · exact ⟨rfl, Below.refl _ _⟩
  · exact ⟨rfl, Lib.bytesWorld_below _ _ _⟩
theorem atoi_no (s : ByteArray) (w : World) (hs : s.size ≤ 1000) (h : Lib.atoiAll s.data.toList = .syntax) (hy : Sy w) :
    Calls Tryd.prog 145 #[.string s] w fun e w' => ∃ p : Value, e = .returned (.tuple #[.int .i64 0, .iface 267 p]) ∧ Below w.heap.size w w' := by
  obtain ⟨tp, p, hv⟩ := hy
  refine (Tryd.strconv_Atoi_syntax_var s (by omega) h tp p w hv).mono ?_
  rintro e w' ⟨N, he, -, -, hb⟩
  exact ⟨_, he, hb⟩

/-- what is read of a word: the number; false: it is none. -/
def Rnum (M : Nat) (l : List UInt8) (n : Int) (b : Bool) : Prop := (b = true ∧ ∃ m : Nat, n = m ∧ m < 10000000 ∧ Tx.whole M l = some m) ∨ (b = false ∧ Tx.whole M l = none)
def RnumSays (M : Nat) (l : List UInt8) (w : World) (e : Ending) (w' : World) : Prop := ∃ (n : Int) (b : Bool), e = .returned (.tuple #[.int .i64 n, .bool b]) ∧ Rnum M l n b ∧ Below w.heap.size w w'
theorem whole_long {M : Nat} {l : List UInt8} (h : M < l.length) : Tx.whole M l = none := by
  unfold Tx.whole
  rw [if_pos (.inr (.inl h))]
set_option maxHeartbeats 2000000 in
theorem rnum_any (M : Nat) (hM0 : 0 < M) (hM : M ≤ 7) (s : ByteArray) (w : World) (hs : s.size ≤ 9223372036854775807) (hp : Pw w) (hy : Sy w) :
    Calls Tryd.prog 119 #[.string s, .int .i64 (M : Nat)] w (RnumSays M s.data.toList w) := by
  by_cases h4 : M < s.size
  · have h4' : (M : Int) < (s.size : Int) := by omega
    have E : Hid (Tx.whole M s.data.toList = none) := whole_long h4
    go_enter Tryd.func119, Tryd.ntmps119
    go_wp2
    go_ret2
    exact ⟨_, _, rfl, .inr ⟨rfl, E⟩, Below.refl _ _⟩
  · have h4' : ¬ (M : Int) < (s.size : Int) := by omega
    have hl : s.data.toList.length ≤ M := by show s.size ≤ M; omega
    have P0 : Hid (Pw w) := hp
    rcases Tx.atoi_whole hM0 hM hl with ⟨m, hw, hm, ha, hd⟩ | ⟨hw, ha | ⟨v, ha, hv1, hv2, hv3⟩⟩
    · have hm7 : m < 10000000 := Nat.lt_of_lt_of_le hm (Nat.pow_le_pow_right (n := 10) (by decide) hM)
      have AT := atoi_ok s (m : Int) w (by omega) ha
      have AT' : Hid (Calls Tryd.prog 145 #[.string s] w fun e w' => e = .returned (.tuple #[.int .i64 (m : Int), .nilIface]) ∧ Below w.heap.size w w') := AT
      have Hw : Hid (Tx.whole M s.data.toList = some m) := hw
      have Hd : Hid ((⟨(Tx.dig m).toArray⟩ : ByteArray) = s) := WideShapes.bytes_inj (by rw [hd])
      clear hw ha hd AT hl hy hp hm
      go_enter Tryd.func119, Tryd.ntmps119
      go_wp2_with fail
      refine AT'.out.mono ?_
      rintro e w1 ⟨rfl, b1⟩
      have B1 : Hid (Below w.heap.size w w1) := b1
      have IT := itoa_big m (by omega) w1 (P0.out.below b1)
      rw [Hd.out] at IT
      have IT' : Hid (Calls Tryd.prog 88 #[.int .i64 (m : Nat)] w1 fun e w' => e = .returned (.string s) ∧ Below w1.heap.size w1 w') := IT
      clear b1 AT' IT
      go_wp2_with fail
      refine IT'.out.mono ?_
      rintro e w2 ⟨rfl, b2⟩
      have B2 : Hid (Below w.heap.size w w2) := B1.out.trans (b2.mono B1.out.size)
      clear b2 IT'
      go_wp2
      go_ret2
      exact ⟨_, _, rfl, .inl ⟨by simp, m, rfl, hm7, Hw⟩, B2⟩
    · have AT := atoi_no s w (by omega) ha hy
      have AT' : Hid (Calls Tryd.prog 145 #[.string s] w fun e w' => ∃ p : Value, e = .returned (.tuple #[.int .i64 0, .iface 267 p]) ∧ Below w.heap.size w w') := AT
      have Hw : Hid (Tx.whole M s.data.toList = none) := hw
      clear hw ha AT hl hy hp
      go_enter Tryd.func119, Tryd.ntmps119
      go_wp2_with fail
      refine AT'.out.mono ?_
      rintro e w1 ⟨p, rfl, b1⟩
      have B1 : Hid (Below w.heap.size w w1) := b1
      clear b1 AT'
      go_wp2
      go_ret2
      exact ⟨_, _, rfl, .inr ⟨rfl, Hw⟩, B1⟩
    · have AT := atoi_ok s v w (by omega) ha
      have AT' : Hid (Calls Tryd.prog 145 #[.string s] w fun e w' => e = .returned (.tuple #[.int .i64 v, .nilIface]) ∧ Below w.heap.size w w') := AT
      have Hw : Hid (Tx.whole M s.data.toList = none) := hw
      clear hw ha AT hl hy hp
      by_cases h0 : v < 0
      · clear hv3
        go_enter Tryd.func119, Tryd.ntmps119
        go_wp2_with fail
        refine AT'.out.mono ?_
        rintro e w1 ⟨rfl, b1⟩
        have B1 : Hid (Below w.heap.size w w1) := b1
        clear b1 AT'
        go_wp2
        go_ret2
        exact ⟨_, _, rfl, .inr ⟨rfl, Hw⟩, B1⟩
      · obtain ⟨m, rfl⟩ : ∃ m : Nat, v = m := ⟨v.toNat, by omega⟩
        have Hn : Hid (((⟨(Tx.dig m).toArray⟩ : ByteArray).toList == s.toList) = false) := by
          unfold Hid
          rw [ByteArray.toList_eq, ByteArray.toList_eq]
          refine beq_eq_false_iff_ne.2 fun e => ?_
          rcases hv3 with h | h
          · omega
          · exact h (by simpa using e)
        clear hv3
        go_enter Tryd.func119, Tryd.ntmps119
        go_wp2_with fail
        refine AT'.out.mono ?_
        rintro e w1 ⟨rfl, b1⟩
        have B1 : Hid (Below w.heap.size w w1) := b1
        have IT := itoa_big m (by omega) w1 (P0.out.below b1)
        generalize (⟨(Tx.dig m).toArray⟩ : ByteArray) = dm at *
        have IT' : Hid (Calls Tryd.prog 88 #[.int .i64 (m : Nat)] w1 fun e w' => e = .returned (.string dm) ∧ Below w1.heap.size w1 w') := IT
        have hn : (dm.toList == s.toList) = false := Hn.out
        clear b1 AT' IT
        go_wp2_with fail
        refine IT'.out.mono ?_
        rintro e w2 ⟨rfl, b2⟩
        have B2 : Hid (Below w.heap.size w w2) := B1.out.trans (b2.mono B1.out.size)
        clear b2 IT'
        go_wp2
        go_ret2
        exact ⟨_, _, rfl, .inr ⟨rfl, Hw⟩, B2⟩
end Go.Proofs.YtelbdcljdfadbaaDoor

namespace Go.Proofs.YtelbdcljdfadbaaDoor
open Go.RowKit
set_option linter.unusedVariables false

theorem has_end (l : List UInt8) : (Lib.hasSuffix l [10] = true ∧ ∃ t, l = t ++ [10] ∧ Lib.trimSuffix l [10] = t) ∨ (Lib.hasSuffix l [10] = false ∧ l.getLast? ≠ some 10 ∧ Lib.trimSuffix l [10] = l) := by
  cases h : Lib.hasSuffix l [10] with
  | true =>
    left
    refine ⟨rfl, ?_⟩
    have h1 : [10] <:+ l := by
      unfold Lib.hasSuffix at h
      exact List.isSuffixOf_iff_suffix.1 h
    obtain ⟨t, e⟩ := h1
    refine ⟨t, e.symm, ?_⟩
    unfold Lib.trimSuffix
    rw [h, if_pos rfl, ← e]
    simp
  | false =>
    right
    refine ⟨rfl, fun e => ?_, ?_⟩
    · obtain ⟨t, e⟩ := List.getLast?_eq_some_iff.1 e
      have : Lib.hasSuffix l [10] = true := by
        unfold Lib.hasSuffix
        exact List.isSuffixOf_iff_suffix.2 ⟨t, e.symm⟩
      rw [h] at this
      cases this
    · unfold Lib.trimSuffix
      rw [h]
      simp
/-- what is left of a line. -/
def CutEnd (s t : ByteArray) (b : Bool) : Prop := t.size ≤ s.size ∧ ((b = true ∧ s.data.toList = t.data.toList ++ [10]) ∨ (b = false ∧ s.data.toList.getLast? ≠ some 10))
theorem cutend_any (s : ByteArray) (hs : s.size ≤ 9223372036854775807) : ∃ t b, CutEnd s t b ∧ ∀ w : World, Calls Tryd.prog 117 #[.string s, .string ⟨#[10]⟩] w fun e w' => e = .returned (.tuple #[.string t, .bool b]) ∧ w' = w := by
  have C := fun w => Tryd.strings_CutSuffix s ⟨#[10]⟩ w hs
  rw [show (⟨#[10]⟩ : ByteArray).data.toList = [10] from rfl] at C
  rcases has_end s.data.toList with ⟨h1, t, h2, h3⟩ | ⟨h1, h2, h3⟩
  · rw [h1, h3] at C
    refine ⟨⟨t.toArray⟩, true, ⟨?_, .inl ⟨rfl, by rw [h2]⟩⟩, C⟩
    have : s.size = (t ++ [10]).length := by rw [← h2]; rfl
    show t.toArray.size ≤ s.size
    rw [this]
    simp
  · rw [h1, h3] at C
    refine ⟨s, false, ⟨Nat.le_refl _, .inr ⟨rfl, h2⟩⟩, fun w => ?_⟩
    have e : (⟨s.data.toList.toArray⟩ : ByteArray) = s := WideShapes.bytes_inj (by simp)
    rw [e] at C
    exact C w
end Go.Proofs.YtelbdcljdfadbaaDoor

