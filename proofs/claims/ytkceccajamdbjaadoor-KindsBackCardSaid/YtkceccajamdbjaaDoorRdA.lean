/- The program's digits: a number that is read. -/
import Derived.Test.YtkceccajamdbjaaDoorPwA
import Derived.Test.YtkceccajamdbjaaDoorRdM
namespace Go.Proofs.YtkceccajamdbjaaDoor
open Go.RowKit
set_option linter.unusedVariables false

/-- strconv.ErrSyntax is laid. -/
def Sy (w : World) : Prop := ∃ tp p, w.var? Tryd.prog "strconv.ErrSyntax" = some #[.iface tp p]
theorem sy_glob : Tryd.prog.globalNamed "strconv.ErrSyntax" = some 4 := by kernel_rfl
theorem Sy.below {w w' : World} (h : Sy w) (hb : Below w.heap.size w w') : Sy w' := by
  obtain ⟨tp, p, h⟩ := h
  refine ⟨tp, p, ?_⟩
  obtain ⟨t, f, e⟩ := var_at sy_glob h
  have e2 := hb.block _ (lt_of_block e)
  unfold World.var? at *
  rw [sy_glob] at h ⊢
  simp only [Option.bind_some] at h ⊢
  rw [e2]
  exact h
theorem itoa_big (n : Nat) (hn : n ≤ 9223372036854775807) (w : World) (hw : Pw w) :
    Calls Tryd.prog 47 #[.int .i64 (n : Nat)] w fun e w' => e = .returned (.string ⟨(Tx.dig n).toArray⟩) ∧ Below w.heap.size w w' := by
  refine (Tryd.strconv_Itoa (n : Int) (by omega) (by omega) w hw).mono ?_
  rintro e w' ⟨rfl, k, os, rfl⟩
  rw [Lib.itoa_nonneg, dig_dec]
  exact ⟨rfl, rfl, rfl, rfl, by simp [Sort.grow], fun i hi => by
    show (w.heap ++ os)[i]? = _
    rw [Array.getElem?_append, if_pos hi]⟩
theorem atoi_ok (s : ByteArray) (v : Int) (w : World) (hs : s.size ≤ 1000) (h : Lib.atoiAll s.data.toList = .ok v) :
    Calls Tryd.prog 99 #[.string s] w fun e w' => e = .returned (.tuple #[.int .i64 v, .nilIface]) ∧ Below w.heap.size w w' := by
  refine (Tryd.strconv_Atoi_ok s (by omega) v h w).mono ?_
  rintro e w' ⟨rfl, rfl | ⟨t, rfl⟩⟩
  · exact ⟨rfl, Below.refl _ _⟩
  · exact ⟨rfl, Lib.bytesWorld_below _ _ _⟩
theorem atoi_no (s : ByteArray) (w : World) (hs : s.size ≤ 1000) (h : Lib.atoiAll s.data.toList = .syntax) (hy : Sy w) :
    Calls Tryd.prog 99 #[.string s] w fun e w' => ∃ p : Value, e = .returned (.tuple #[.int .i64 0, .iface 192 p]) ∧ Below w.heap.size w w' := by
  obtain ⟨tp, p, hv⟩ := hy
  refine (Tryd.strconv_Atoi_syntax_var s (by omega) h tp p w hv).mono ?_
  rintro e w' ⟨N, he, -, -, hb⟩
  exact ⟨_, he, hb⟩

/-- what is read of a word: the number; false: it is none. -/
def Rnum (M : Nat) (l : List UInt8) (n : Int) (b : Bool) : Prop := (b = true ∧ ∃ m : Nat, n = m ∧ m < 10000000 ∧ Tx.whole M l = some m) ∨ (b = false ∧ Tx.whole M l = none)
def RnumSays (M : Nat) (l : List UInt8) (w : World) (e : Ending) (w' : World) : Prop := ∃ (n : Int) (b : Bool), e = .returned (.tuple #[.int .i64 n, .bool b]) ∧ Rnum M l n b ∧ Below w.heap.size w w'
theorem whole_long {M : Nat} {l : List UInt8} (h : M < l.length) : Tx.whole M l = none := by
  unfold Tx.whole
  rw [if_pos (.inr (.inl h))]
set_option maxHeartbeats 2000000 in
theorem rnum_any (M : Nat) (hM0 : 0 < M) (hM : M ≤ 7) (s : ByteArray) (w : World) (hs : s.size ≤ 9223372036854775807) (hp : Pw w) (hy : Sy w) :
    Calls Tryd.prog 80 #[.string s, .int .i64 (M : Nat)] w (RnumSays M s.data.toList w) := by
  by_cases h4 : M < s.size
  · have h4' : (M : Int) < (s.size : Int) := by omega
    have E : Hid (Tx.whole M s.data.toList = none) := whole_long h4
    go_enter Tryd.func80, Tryd.ntmps80
    go_wp2
    go_ret2
    exact ⟨_, _, rfl, .inr ⟨rfl, E⟩, Below.refl _ _⟩
  · have h4' : ¬ (M : Int) < (s.size : Int) := by omega
    have hl : s.data.toList.length ≤ M := by show s.size ≤ M; omega
    have P0 : Hid (Pw w) := hp
    rcases Tx.atoi_whole hM0 hM hl with ⟨m, hw, hm, ha, hd⟩ | ⟨hw, ha | ⟨v, ha, hv1, hv2, hv3⟩⟩
    · have hm7 : m < 10000000 := Nat.lt_of_lt_of_le hm (Nat.pow_le_pow_right (n := 10) (by decide) hM)
      have AT := atoi_ok s (m : Int) w (by omega) ha
      have AT' : Hid (Calls Tryd.prog 99 #[.string s] w fun e w' => e = .returned (.tuple #[.int .i64 (m : Int), .nilIface]) ∧ Below w.heap.size w w') := AT
      have Hw : Hid (Tx.whole M s.data.toList = some m) := hw
      have Hd : Hid ((⟨(Tx.dig m).toArray⟩ : ByteArray) = s) := WideShapes.bytes_inj (by rw [hd])
      clear hw ha hd AT hl hy hp hm
      go_enter Tryd.func80, Tryd.ntmps80
      go_wp2_with fail
      refine AT'.out.mono ?_
      rintro e w1 ⟨rfl, b1⟩
      have B1 : Hid (Below w.heap.size w w1) := b1
      have IT := itoa_big m (by omega) w1 (P0.out.below b1)
      rw [Hd.out] at IT
      have IT' : Hid (Calls Tryd.prog 47 #[.int .i64 (m : Nat)] w1 fun e w' => e = .returned (.string s) ∧ Below w1.heap.size w1 w') := IT
      clear b1 AT' IT
      go_wp2_with fail
      refine IT'.out.mono ?_
      rintro e w2 ⟨rfl, b2⟩
      have B2 : Hid (Below w.heap.size w w2) := B1.out.trans (b2.mono B1.out.size)
      clear b2 IT'
      go_wp2
      go_ret2
      exact ⟨_, _, rfl, .inl ⟨by simp, m, rfl, hm7, Hw⟩, B2⟩
    · have AT := atoi_no s w (by omega) ha hy
      have AT' : Hid (Calls Tryd.prog 99 #[.string s] w fun e w' => ∃ p : Value, e = .returned (.tuple #[.int .i64 0, .iface 192 p]) ∧ Below w.heap.size w w') := AT
      have Hw : Hid (Tx.whole M s.data.toList = none) := hw
      clear hw ha AT hl hy hp
      go_enter Tryd.func80, Tryd.ntmps80
      go_wp2_with fail
      refine AT'.out.mono ?_
      rintro e w1 ⟨p, rfl, b1⟩
      have B1 : Hid (Below w.heap.size w w1) := b1
      clear b1 AT'
      go_wp2
      go_ret2
      exact ⟨_, _, rfl, .inr ⟨rfl, Hw⟩, B1⟩
    · have AT := atoi_ok s v w (by omega) ha
      have AT' : Hid (Calls Tryd.prog 99 #[.string s] w fun e w' => e = .returned (.tuple #[.int .i64 v, .nilIface]) ∧ Below w.heap.size w w') := AT
      have Hw : Hid (Tx.whole M s.data.toList = none) := hw
      clear hw ha AT hl hy hp
      by_cases h0 : v < 0
      · clear hv3
        go_enter Tryd.func80, Tryd.ntmps80
        go_wp2_with fail
        refine AT'.out.mono ?_
        rintro e w1 ⟨rfl, b1⟩
        have B1 : Hid (Below w.heap.size w w1) := b1
        clear b1 AT'
        go_wp2
        go_ret2
        exact ⟨_, _, rfl, .inr ⟨rfl, Hw⟩, B1⟩
      · obtain ⟨m, rfl⟩ : ∃ m : Nat, v = m := ⟨v.toNat, by omega⟩
        have Hn : Hid (((⟨(Tx.dig m).toArray⟩ : ByteArray).toList == s.toList) = false) := by
          unfold Hid
          rw [ByteArray.toList_eq, ByteArray.toList_eq]
          refine beq_eq_false_iff_ne.2 fun e => ?_
          rcases hv3 with h | h
          · omega
          · exact h (by simpa using e)
        clear hv3
        go_enter Tryd.func80, Tryd.ntmps80
        go_wp2_with fail
        refine AT'.out.mono ?_
        rintro e w1 ⟨rfl, b1⟩
        have B1 : Hid (Below w.heap.size w w1) := b1
        have IT := itoa_big m (by omega) w1 (P0.out.below b1)
        generalize (⟨(Tx.dig m).toArray⟩ : ByteArray) = dm at *
        have IT' : Hid (Calls Tryd.prog 47 #[.int .i64 (m : Nat)] w1 fun e w' => e = .returned (.string dm) ∧ Below w1.heap.size w1 w') := IT
        have hn : (dm.toList == s.toList) = false := Hn.out
        clear b1 AT' IT
        go_wp2_with fail
        refine IT'.out.mono ?_
        rintro e w2 ⟨rfl, b2⟩
        have B2 : Hid (Below w.heap.size w w2) := B1.out.trans (b2.mono B1.out.size)
        clear b2 IT'
        go_wp2
        go_ret2
        exact ⟨_, _, rfl, .inr ⟨rfl, Hw⟩, B2⟩
end Go.Proofs.YtkceccajamdbjaaDoor
