/- A name's letters, asked rune by rune. Plain mathematics. · The program's kinds: what is a name; what is wrong with one kind, those ahead being right. · The program's kinds: what is wrong with some; the number of a name. · What units are worth. Plain mathematics. · The program's kinds: whether a unit is none. · slices.IndexFunc and ContainsFunc of units. · Kinds that are right: their numbers. · The program's kinds: what units are worth. · Fields: plain mathematics. · Worlds: what is wrong with one. Plain mathematics. · Lists of integers: a whole list behind another one. · A list of integers that is written out, of any length. · Worlds: the numbers that are written, as mathematics; a world's slices. · world.within. · slices.IndexFunc and ContainsFunc, of any function that tells yes or no and turns nothing. · Worlds: a unit by its id; whether a list has one of that number. · Fields: what is wrong with a cell, with a field. · Fields: what Check says. -/
import Derived.Test.YtamgjhehnblbgaaDoorZScoreTells1
import Derived.Shelf.GgClosure.StringsIndexFunc
import Derived.Test.YtamgjhehnblbgaaDoorShelf
import Derived.Laws.Closers25
import Derived.IntWalk
import Derived.RangeFuncRecord
import Derived.Laws.AppendOwnNone
namespace Go.Proofs.YtamgjhehnblbgaaDoor.Kd
set_option linter.unusedVariables false

/-- a rune that is none of a to z. -/
def otherR (r : Nat) : Bool := decide ((r : Int) < 97) || decide (122 < (r : Int))
theorem other_big {r : Nat} (h : 128 ≤ r) : otherR r = true := by
  unfold otherR
  rw [decide_eq_true (show (122 : Int) < (r : Int) by omega), Bool.or_true]
theorem decode_small (s : ByteArray) (i : Nat) (h : (s.get! i).toNat < 128) : Utf8.decode s i = ((s.get! i).toNat, 1) := by
  unfold Utf8.decode
  simp only [Nat.add_zero]
  rw [if_pos h]
theorem decode_big (s : ByteArray) (i : Nat) (h : ¬ (s.get! i).toNat < 128) : 128 ≤ (Utf8.decode s i).1 := by
  unfold Utf8.decode
  simp only [Nat.add_zero]
  rw [if_neg h]
  simp only [Utf8.runeError]
  split
  · split
    · rename_i h2; exact h2
    · simp
  · split
    · split
      · rename_i h2
        simp only [Bool.and_eq_true, decide_eq_true_eq] at h2
        have := h2.1
        simp only
        omega
      · simp
    · split
      · split
        · rename_i h2
          simp only [Bool.and_eq_true, decide_eq_true_eq] at h2
          have := h2.1
          simp only
          omega
        · simp
      · simp
theorem other_letter (b : UInt8) (h : b.toNat < 128) : otherR b.toNat = !isLetter b := by
  unfold otherR isLetter
  by_cases h1 : 97 ≤ b.toNat
  · by_cases h2 : b.toNat ≤ 122
    · rw [decide_eq_true h1, decide_eq_true h2, decide_eq_false (show ¬ (b.toNat : Int) < 97 by omega), decide_eq_false (show ¬ 122 < (b.toNat : Int) by omega)]; rfl
    · rw [decide_eq_true h1, decide_eq_false h2, decide_eq_false (show ¬ (b.toNat : Int) < 97 by omega), decide_eq_true (show 122 < (b.toNat : Int) by omega)]; rfl
  · rw [decide_eq_false h1, decide_eq_true (show (b.toNat : Int) < 97 by omega)]; rfl
theorem get_at (s : ByteArray) (i : Nat) (h : i < s.size) : s.get! i = s.data.toList[i]'h := by
  show s.data[i]! = _
  rw [getElem!_pos s.data i h]
  simp
theorem other_from (s : ByteArray) : ∀ (f pos : Nat), s.size ≤ pos + f → decide (0 ≤ Lib.idxFuncFrom otherR true s f pos) = !((s.data.toList.drop pos).all isLetter)
  | 0, pos, h => by
    rw [List.drop_eq_nil_of_le (by show s.size ≤ pos; omega)]
    rfl
  | f + 1, pos, h => by
    unfold Lib.idxFuncFrom
    by_cases hp : pos < s.size
    · have hl : pos < s.data.toList.length := hp
      rw [if_pos hp, List.drop_eq_getElem_cons hl, List.all_cons, ← get_at s pos hp]
      by_cases hb : (s.get! pos).toNat < 128
      · rw [decode_small s pos hb]
        simp only
        rw [other_letter _ hb]
        cases hi : isLetter (s.get! pos) with
        | true =>
          rw [if_neg (by simp), Bool.true_and]
          exact other_from s f (pos + 1) (by omega)
        | false =>
          rw [if_pos (by simp), decide_eq_true (by omega)]
          simp
      · rw [if_pos (other_big (decode_big s pos hb)), decide_eq_true (by omega)]
        have : isLetter (s.get! pos) = false := by
          unfold isLetter
          rw [decide_eq_false (show ¬ (s.get! pos).toNat ≤ 122 by omega), Bool.and_false]
        rw [this]
        rfl
    · rw [if_neg hp, List.drop_eq_nil_of_le (by show s.size ≤ pos; omega)]
      rfl
theorem other_name (s : ByteArray) : decide (0 ≤ Lib.idxFunc otherR true s) = !(s.data.toList.all isLetter) := by
  have := other_from s s.size 0 (by omega)
  rw [List.drop_zero] at this
  exact this
end Go.Proofs.YtamgjhehnblbgaaDoor.Kd

namespace Go.Proofs.YtamgjhehnblbgaaDoor
open Go.RowKit
set_option linter.unusedVariables false

theorem ename1 : ∀ args w, (callFunc 65 args).run Tryd.prog w = .ok (.enter 65 args) w := by
  intro args w
  go_simp
set_option maxHeartbeats 400000 in
theorem other_any (x : Nat) (w : World) :
    Calls Tryd.prog 65 #[.int .i32 (x : Int)] w fun e w' => e = .returned (.bool (Kd.otherR x)) ∧ w' = w := by
  unfold Kd.otherR
  by_cases h1 : (x : Int) < 97
  · go_enter Tryd.func65, Tryd.ntmps65
    go_wp2
    go_ret
    exact ⟨by first | (simp; done) | (simp; omega), rfl⟩
  · by_cases h2 : 122 < (x : Int)
    · go_enter Tryd.func65, Tryd.ntmps65
      go_wp2
      go_ret
      exact ⟨by first | (simp; done) | (simp; omega), rfl⟩
    · go_enter Tryd.func65, Tryd.ntmps65
      go_wp2
      go_ret
      exact ⟨by first | (simp; done) | (simp; omega), rfl⟩
theorem letters_any (s : ByteArray) (w : World) :
    Calls Tryd.prog 66 #[.string s, .func (.func 65) #[] #[]] w fun e w' => e = .returned (.bool (!(s.data.toList.all Kd.isLetter))) ∧ Below w.heap.size w w' := by
  have h := Tryd.strings_ContainsFunc_grows 65 #[] ename1 Kd.otherR s w (fun W x _ _ => (other_any x W).mono fun e w' ⟨h1, h2⟩ => ⟨h1, by rw [h2]; exact Below.refl _ _⟩)
  rw [Kd.other_name s] at h
  exact h

set_option maxHeartbeats 1000000 in
theorem isName_any (s : ByteArray) (w : World) (hb : s.size ≤ 9223372036854775807) :
    Calls Tryd.prog 60 #[.string s] w fun e w' => e = .returned (.bool (Kd.nameOk s.data.toList)) ∧ Below w.heap.size w w' := by
  have L : Hid (∀ w : World, Calls Tryd.prog 66 #[.string s, .func (.func 65) #[] #[]] w fun e w' => e = .returned (.bool (!(s.data.toList.all Kd.isLetter))) ∧ Below w.heap.size w w') := fun w => letters_any s w
  obtain ⟨l, hl⟩ : ∃ l, s.data.toList = l := ⟨_, rfl⟩
  have Ll : Hid (l.length = s.size) := by unfold Hid; rw [← hl]; rfl
  rw [hl] at L ⊢
  clear hl
  by_cases h1 : 1 ≤ s.size ∧ s.size ≤ 8
  · obtain ⟨h2, h3⟩ := h1
    have E : Hid (Kd.nameOk l = l.all Kd.isLetter) := by
      unfold Hid Kd.nameOk
      rw [decide_eq_true (show l.length ≤ 8 by rw [Ll.out]; exact h3), Bool.true_and]
      cases l with
      | nil => have := Ll.out; simp at this; omega
      | cons a r => rfl
    generalize l.all Kd.isLetter = b at *
    rw [E.out]
    clear E
    go_enter Tryd.func60, Tryd.ntmps60
    go_wp2_with (go_at_call 34; refine (kwin_yes _ _ _ _ (by omega) (by omega)).mono ?_; rintro e w' ⟨rfl, hw⟩; obtain rfl := hw.symm)
    refine (L.out _).mono ?_
    rintro e w1 ⟨rfl, b1⟩
    have B1 : Hid (Below w.heap.size w w1) := b1
    clear b1
    go_wp2
    go_ret
    exact ⟨by simp, B1⟩
  · have E : Hid (Kd.nameOk l = false) := by
      unfold Hid Kd.nameOk
      cases l with
      | nil => rfl
      | cons a r =>
        rw [decide_eq_false (show ¬ (a :: r).length ≤ 8 by intro h; have := Ll.out; simp at this h; omega)]
        simp
    rw [E.out]
    go_enter Tryd.func60, Tryd.ntmps60
    go_wp2_with (go_at_call 34; refine (kwin_no _ _ _ _ (by omega)).mono ?_; rintro e w' ⟨rfl, rfl⟩)
    go_ret
    exact ⟨rfl, Below.refl _ _⟩
theorem FstK.none {p : KV → Bool} {ks : List KV} {r : Int} (h : FstK p ks r) : (0 ≤ r ∧ ks.any p = true) ∨ (r = -1 ∧ ks.any p = false) := by
  rcases h with h | ⟨k, x, rfl, h1, h2, _⟩
  · exact .inr h
  · exact .inl ⟨by omega, List.any_eq_true.2 ⟨x, List.mem_of_getElem? h1, h2⟩⟩

set_option maxHeartbeats 2000000 in
theorem ckind_any (v : Value) (ks : List KV) (k : KV) (w : World) (h : Kl w v ks) (hb : k.b.size ≤ 9223372036854775807) :
    Calls Tryd.prog 49 #[v, k.val] w fun e w' => ∃ u, e = .returned u ∧ Er u (Kd.kindFault (ks.map KV.k) k.k) ∧ Below w.heap.size w w' := by
  have K0 : Hid (Kl w v ks) := h
  obtain ⟨a, c, rfl, c1, c2, -⟩ := h
  have NM := isName_any k.b
  have IB := inb_any k
  have KF : Hid (Kd.kindFault (ks.map KV.k) k.k = if Kd.nameOk k.b.data.toList then (if (ks.any fun a => a.k.name == k.b.data.toList) then 8 else Kd.numsFault k.ns) else 2) := by
    unfold Hid Kd.kindFault
    rw [List.any_map]
    rfl
  obtain ⟨R, hR⟩ : ∃ R, Kd.kindFault (ks.map KV.k) k.k = R := ⟨_, rfl⟩
  rw [hR] at KF ⊢
  clear hR
  obtain ⟨kb, n0, n1, n2, n3, n4, n5, n6, n7, kf, kt⟩ := k
  simp only at hb NM KF
  unfold KV.val at IB ⊢
  simp only at IB ⊢
  have NM' : Hid (∀ w : World, kb.size ≤ 9223372036854775807 → Calls Tryd.prog 60 #[.string kb] w fun e w' => e = .returned (.bool (Kd.nameOk kb.data.toList)) ∧ Below w.heap.size w w') := NM
  obtain ⟨F, hF⟩ : ∃ F, Kd.numsFault (KV.ns ⟨kb, n0, n1, n2, n3, n4, n5, n6, n7, kf, kt⟩) = F := ⟨_, rfl⟩
  rw [hF] at IB KF
  have IB' : Hid (∀ w : World, Calls Tryd.prog 62 #[.agg #[.string kb, .int .i64 n0, .int .i64 n1, .int .i64 n2, .int .i64 n3, .int .i64 n4, .int .i64 n5, .int .i64 n6, .int .i64 n7, .bool kf, .bool kt]] w fun e w' => e = .returned (.bool (decide (F = 0))) ∧ Below w.heap.size w w') := IB
  have HF : Hid (F = 0 ∨ F = 1) := by
    unfold Hid
    rw [← hF]
    unfold Kd.numsFault
    split
    · exact .inr rfl
    · split
      · exact .inr rfl
      · exact .inl rfl
  clear NM IB hF
  go_enter Tryd.func49, Tryd.ntmps49
  have B1 : Hid (Below w.heap.size w (w.alloc (Obj.cells #[.string kb, .int .i64 n0, .int .i64 n1, .int .i64 n2, .int .i64 n3, .int .i64 n4, .int .i64 n5, .int .i64 n6, .int .i64 n7, .bool kf, .bool kt] 57))) := (Below.refl _ _).alloc (Nat.le_refl _) _
  have X1 : Hid (Kc (w.alloc (Obj.cells #[.string kb, .int .i64 n0, .int .i64 n1, .int .i64 n2, .int .i64 n3, .int .i64 n4, .int .i64 n5, .int .i64 n6, .int .i64 n7, .bool kf, .bool kt] 57)) ⟨w.heap.size, 0, none⟩ ⟨kb, n0, n1, n2, n3, n4, n5, n6, n7, kf, kt⟩) := Kc.mk' ⟨kb, n0, n1, n2, n3, n4, n5, n6, n7, kf, kt⟩ rfl
  go_wp2_with fail
  generalize w.alloc (Obj.cells #[.string kb, .int .i64 n0, .int .i64 n1, .int .i64 n2, .int .i64 n3, .int .i64 n4, .int .i64 n5, .int .i64 n6, .int .i64 n7, .bool kf, .bool kt] 57) = w1 at *
  refine (NM'.out _ hb).mono ?_
  rintro e w2 ⟨rfl, b2⟩
  have B2 : Hid (Below w.heap.size w w2) := B1.out.trans (b2.mono B1.out.size)
  have X2 : Hid (Kc w2 ⟨w.heap.size, 0, none⟩ ⟨kb, n0, n1, n2, n3, n4, n5, n6, n7, kf, kt⟩) := X1.out.below b2 X1.out.lt
  clear b2 X1 NM'
  cases hn : Kd.nameOk kb.data.toList with
  | false =>
    have E : Hid (R = 2) := by unfold Hid; rw [KF.out, hn]; rfl
    clear hn
    go_wp2
    go_ret
    exact ⟨_, rfl, by rw [E.out]; exact Er.no (by decide), B2⟩
  | true =>
    have KF2 : Hid (R = if (ks.any fun a => a.k.name == kb.data.toList) then 8 else F) := by unfold Hid; rw [KF.out, hn]; rfl
    clear hn KF
    have x0 : w2.cell? ⟨w.heap.size, 0, none⟩ = some (.string kb) := X2.out.c0
    go_wp2_with fail
    refine (find_any _ ks kb _ (K0.out.below B2.out)).mono ?_
    rintro e w3 ⟨r, rfl, hr, b3⟩
    have B3 : Hid (Below w.heap.size w w3) := B2.out.trans (b3.mono B2.out.size)
    have X3 : Hid (Kc w3 ⟨w.heap.size, 0, none⟩ ⟨kb, n0, n1, n2, n3, n4, n5, n6, n7, kf, kt⟩) := X2.out.below b3 X2.out.lt
    clear b3 X2 x0
    rcases hr.none with ⟨h0, ha⟩ | ⟨h0, ha⟩
    · have E : Hid (R = 8) := by unfold Hid; rw [KF2.out, if_pos ha]
      clear ha hr
      go_wp2
      go_ret
      exact ⟨_, rfl, by rw [E.out]; exact Er.no (by decide), B3⟩
    · have E : Hid (R = F) := by unfold Hid; rw [KF2.out, if_neg (by rw [ha]; decide)]
      clear ha hr
      subst h0
      obtain ⟨x0, x1, x2, x3, x4, x5, x6, x7, x8, x9, x10⟩ := X3.out
      have x1 : w3.cell? ⟨w.heap.size, 1, none⟩ = some (.int .i64 n0) := x1
      have x2 : w3.cell? ⟨w.heap.size, 2, none⟩ = some (.int .i64 n1) := x2
      have x3 : w3.cell? ⟨w.heap.size, 3, none⟩ = some (.int .i64 n2) := x3
      have x4 : w3.cell? ⟨w.heap.size, 4, none⟩ = some (.int .i64 n3) := x4
      have x5 : w3.cell? ⟨w.heap.size, 5, none⟩ = some (.int .i64 n4) := x5
      have x6 : w3.cell? ⟨w.heap.size, 6, none⟩ = some (.int .i64 n5) := x6
      have x7 : w3.cell? ⟨w.heap.size, 7, none⟩ = some (.int .i64 n6) := x7
      have x8 : w3.cell? ⟨w.heap.size, 8, none⟩ = some (.int .i64 n7) := x8
      have x9 : w3.cell? ⟨w.heap.size, 9, none⟩ = some (.bool kf) := x9
      have x10 : w3.cell? ⟨w.heap.size, 10, none⟩ = some (.bool kt) := x10
      go_wp2_with fail
      refine (IB'.out _).mono ?_
      rintro e w4 ⟨rfl, b4⟩
      have B4 : Hid (Below w.heap.size w w4) := B3.out.trans (b4.mono B3.out.size)
      clear b4 IB' x0 x1 x2 x3 x4 x5 x6 x7 x8 x9 x10
      rcases HF.out with hF | hF
      · rw [hF]
        have E2 : Hid (R = 0) := by unfold Hid; rw [E.out, hF]
        go_wp2
        go_ret
        exact ⟨_, rfl, by rw [E2.out]; exact Er.nil, B4⟩
      · rw [hF]
        have E2 : Hid (R = 1) := by unfold Hid; rw [E.out, hF]
        go_wp2
        go_ret
        exact ⟨_, rfl, by rw [E2.out]; exact Er.no (by decide), B4⟩
end Go.Proofs.YtamgjhehnblbgaaDoor

namespace Go.Proofs.YtamgjhehnblbgaaDoor
open Go.RowKit
set_option linter.unusedVariables false

theorem Kl.take {w : World} {a : Option Addr} {n c : Nat} {ks : List KV} (h : Kl w (.slice a n c) ks) {q : Nat} (hq : q ≤ ks.length) : Kl w (.slice a q c) (ks.take q) := by
  obtain ⟨a', c', e, h1, h2, h3⟩ := h
  injection e with e1 e2 e3
  subst e1 e3
  have hl : (ks.take q).length = q := by rw [List.length_take]; omega
  refine ⟨a, c, by rw [hl], by rw [hl]; omega, h2, fun hn => ?_⟩
  obtain ⟨x, hx, hb, hk⟩ := h3 (by rintro rfl; simp at hn)
  refine ⟨x, hx, hb, fun i k hi => hk i k ?_⟩
  rw [List.getElem?_take] at hi
  split at hi
  · exact hi
  · cases hi
theorem kgo_at {ks : List KV} {i : Nat} {k : KV} (h : ks[i]? = some k) : Kd.kindsGo ((ks.take i).map KV.k) ((ks.drop i).map KV.k) = if Kd.kindFault ((ks.take i).map KV.k) k.k = 0 then Kd.kindsGo ((ks.take (i + 1)).map KV.k) ((ks.drop (i + 1)).map KV.k) else Kd.kindFault ((ks.take i).map KV.k) k.k := by
  obtain ⟨hi, e⟩ := List.getElem?_eq_some_iff.1 h
  rw [List.drop_eq_getElem_cons hi, e, List.map_cons, Kd.kindsGo, List.take_succ_eq_append_getElem hi, e, List.map_append]
  rfl

set_option maxHeartbeats 4000000 in
theorem kcheck_any (v : Value) (ks : List KV) (w : World) (h : Kl w v ks) (hb : ∀ k ∈ ks, k.b.size ≤ 9223372036854775807) :
    Calls Tryd.prog 32 #[v] w fun e w' => ∃ u, e = .returned u ∧ Er u (Kd.kindsFault (ks.map KV.k)) ∧ Below w.heap.size w w' := by
  have K0 : Hid (Kl w v ks) := h
  have Hb : Hid (∀ k ∈ ks, k.b.size ≤ 9223372036854775807) := hb
  obtain ⟨R, hR⟩ : ∃ R, Kd.kindsFault (ks.map KV.k) = R := ⟨_, rfl⟩
  have HR : Hid (Kd.kindsFault (ks.map KV.k) = R) := hR
  rw [hR]
  clear hR hb
  obtain ⟨a, c, rfl, c1, c2, -⟩ := h
  by_cases h8 : 8 < ks.length
  · have E : Hid (R = 4) := by unfold Hid; rw [← HR.out]; unfold Kd.kindsFault; rw [if_pos (by simpa using h8)]
    have h8' : (8 : Int) < (ks.length : Int) := by omega
    go_enter Tryd.func32, Tryd.ntmps32
    go_wp2
    go_ret
    exact ⟨_, rfl, by rw [E.out]; exact Er.no (by decide), Below.refl _ _⟩
  · have h8' : ¬ (8 : Int) < (ks.length : Int) := by omega
    have R1 : Hid (Kd.kindsGo [] (ks.map KV.k) = R) := by unfold Hid; rw [← HR.out]; unfold Kd.kindsFault; rw [if_neg (by simpa using h8)]
    go_enter Tryd.func32, Tryd.ntmps32
    go_wp2_with fail
    go_loopw [12] (fun j W' => ∃ q : Nat, q ≤ ks.length ∧ j = .int .i64 (q : Nat) ∧ Kd.kindsGo ((ks.take q).map KV.k) ((ks.drop q).map KV.k) = R ∧ Below w.heap.size w W') (fun j _ => ks.length - (intOf j).toNat)
    case atStart => exact ⟨0, Nat.zero_le _, rfl, R1, Below.refl _ _⟩
    case round =>
      obtain ⟨q, hq, rfl, hg, hb⟩ := hrel
      have Gq : Hid (Kd.kindsGo ((ks.take q).map KV.k) ((ks.drop q).map KV.k) = R) := hg
      have B : Hid (Below w.heap.size w wr) := hb
      clear hg hb
      by_cases hql : q = ks.length
      · have E : Hid (R = 0) := by
          unfold Hid
          rw [← Gq.out, hql, List.drop_of_length_le (Nat.le_refl _)]
          rfl
        subst hql
        go_wp2
        go_ret
        exact ⟨_, rfl, by rw [E.out]; exact Er.nil, B⟩
      · have hqk : q < ks.length := by omega
        obtain ⟨k, hk⟩ : ∃ k, ks[q]? = some k := ⟨_, List.getElem?_eq_getElem hqk⟩
        have At : Hid (R = if Kd.kindFault ((ks.take q).map KV.k) k.k = 0 then Kd.kindsGo ((ks.take (q + 1)).map KV.k) ((ks.drop (q + 1)).map KV.k) else Kd.kindFault ((ks.take q).map KV.k) k.k) := by
          unfold Hid
          rw [← kgo_at hk]
          exact Gq.out.symm
        have K1 := K0.out.below B.out
        have CK : Hid (∀ W : World, Below wr.heap.size wr W → Calls Tryd.prog 49 #[.slice a q c, k.val] W fun e w' => ∃ u, e = .returned u ∧ Er u (Kd.kindFault ((ks.take q).map KV.k) k.k) ∧ Below W.heap.size W w') :=
          fun W hW => ckind_any _ (ks.take q) k W ((K1.take hq).below hW) (Hb.out k (List.mem_of_getElem? hk))
        generalize Kd.kindFault ((ks.take q).map KV.k) k.k = F at *
        obtain ⟨a', c', e, -, -, h3⟩ := K1
        injection e with e1 e2 e3
        subst e1 e3
        obtain ⟨x, rfl, hx1, hx⟩ := h3 (by rintro rfl; simp at hqk)
        have Yc := hx q k hk
        clear hx h3 e2 hk
        obtain ⟨kb, n0, n1, n2, n3, n4, n5, n6, n7, kf, kt⟩ := k
        obtain ⟨q0, q1, q2, q3, q4, q5, q6, q7, q8, q9, q10⟩ := Yc
        simp only at q0 q1 q2 q3 q4 q5 q6 q7 q8 q9 q10
        unfold KV.val at CK
        simp only at CK
        go_upto_region 6 with fail
        have B1 : Hid (Below wr.heap.size wr (wr.alloc (Obj.cells #[.string kb, .int .i64 n0, .int .i64 n1, .int .i64 n2, .int .i64 n3, .int .i64 n4, .int .i64 n5, .int .i64 n6, .int .i64 n7, .bool kf, .bool kt] 57))) := (Below.refl _ _).alloc (Nat.le_refl _) _
        have X1 := Kc.mk' (w := wr) ⟨kb, n0, n1, n2, n3, n4, n5, n6, n7, kf, kt⟩ rfl
        simp only at X1
        clear q0 q1 q2 q3 q4 q5 q6 q7 q8 q9 q10
        generalize wr.alloc (Obj.cells #[.string kb, .int .i64 n0, .int .i64 n1, .int .i64 n2, .int .i64 n3, .int .i64 n4, .int .i64 n5, .int .i64 n6, .int .i64 n7, .bool kf, .bool kt] 57) = w1 at *
        obtain ⟨x0, x1, x2, x3, x4, x5, x6, x7, x8, x9, x10⟩ := X1
        simp only at x0 x1 x2 x3 x4 x5 x6 x7 x8 x9 x10
        go_region_with (go_at_call 49; refine Calls.mono (CK.out _ B1.out.drew) ?_; rintro e w2 ⟨u, rfl, hu, b2⟩; have Hu : Hid (Er u F) := hu; have B2 : Hid (Below wr.heap.size wr w2) := B1.out.drew.trans (b2.mono B1.out.drew.size); clear hu b2)
        all_goals
          have B3 : Hid (Below w.heap.size w w2) := B.out.trans (B2.out.mono B.out.size)
          clear B2 CK x0 x1 x2 x3 x4 x5 x6 x7 x8 x9 x10
          rcases Hu.out with ⟨hF, rfl⟩ | ⟨hF, rfl⟩
          · have G2 : Hid (Kd.kindsGo ((ks.take (q + 1)).map KV.k) ((ks.drop (q + 1)).map KV.k) = R) := by
              unfold Hid
              have := At.out
              rw [if_pos hF] at this
              exact this.symm
            clear At
            go_wp2
            go_round
            case rel => exact ⟨q + 1, by omega, by go_num, G2, B3⟩
            case measure => simp [intOf]; omega
          · have E : Hid (R = F) := by
              unfold Hid
              have := At.out
              rw [if_neg hF] at this
              exact this
            have Hf : Hid (F ≠ 0) := hF
            clear At
            go_wp2
            go_ret
            exact ⟨_, rfl, by rw [E.out]; exact Er.no Hf.out, B3⟩

end Go.Proofs.YtamgjhehnblbgaaDoor

namespace Go.Proofs.YtamgjhehnblbgaaDoor
set_option linter.unusedVariables false

/-- the kind of a number; whether a unit is none. -/
def kindAt (ks : List KV) (n : Int) : Option KV := if n < 0 then none else ks[n.toNat]?
def unBad (ks : List KV) (u : UnV) : Bool := match kindAt ks u.kind with
  | none => true
  | some k => decide (u.player < 0 ∨ 3 < u.player ∨ u.life < 0 ∨ k.n0 < u.life)
def worthOne (ks : List KV) (u : UnV) : Int := match kindAt ks u.kind with
  | none => 0
  | some k => (k.n5 * u.life).tdiv k.n0
/-- the sum of a player. -/
def worthOf (ks : List KV) (us : List UnV) (j : Int) : Int := us.foldl (fun s u => if u.player = j then s + worthOne ks u else s) 0
def worths (ks : List KV) (us : List UnV) : List Int := [worthOf ks us 0, worthOf ks us 1, worthOf ks us 2, worthOf ks us 3]

theorem kindAt_nat (ks : List KV) (i : Nat) : kindAt ks (i : Int) = ks[i]? := by
  unfold kindAt
  rw [if_neg (by omega)]
  rfl
theorem worthOf_next {ks : List KV} {us : List UnV} {n : Nat} {u : UnV} (h : us[n]? = some u) (j : Int) : worthOf ks (us.take (n + 1)) j = if u.player = j then worthOf ks (us.take n) j + worthOne ks u else worthOf ks (us.take n) j := by
  obtain ⟨hi, e⟩ := List.getElem?_eq_some_iff.1 h
  unfold worthOf
  rw [List.take_succ_eq_append_getElem hi, List.foldl_append, e]
  rfl
theorem unBad_kind {ks : List KV} {u : UnV} (h : unBad ks u = false) : ∃ (i : Nat) (k : KV), u.kind = i ∧ ks[i]? = some k ∧ 0 ≤ u.player ∧ u.player ≤ 3 ∧ 0 ≤ u.life ∧ u.life ≤ k.n0 ∧ worthOne ks u = (k.n5 * u.life).tdiv k.n0 := by
  unfold unBad at h
  cases hk : kindAt ks u.kind with
  | none => rw [hk] at h; cases h
  | some k =>
    rw [hk] at h
    have h2 := of_decide_eq_false h
    unfold kindAt at hk
    split at hk
    · cases hk
    · refine ⟨u.kind.toNat, k, by omega, hk, by omega, by omega, by omega, by omega, ?_⟩
      unfold worthOne kindAt
      rw [if_neg (by assumption), hk]
/-- each part is from 0 to 1000. -/
theorem part_le {p l m : Int} (h1 : 0 ≤ p) (h2 : p ≤ 1000) (h3 : 0 ≤ l) (h4 : l ≤ m) (h5 : 0 < m) : 0 ≤ (p * l).tdiv m ∧ (p * l).tdiv m ≤ 1000 := by
  have h6 : 0 ≤ p * l := Int.mul_nonneg h1 h3
  rw [Int.tdiv_eq_ediv_of_nonneg h6]
  refine ⟨Int.ediv_nonneg h6 (by omega), ?_⟩
  have h7 : p * l ≤ 1000 * m := Int.mul_le_mul h2 h4 h3 (by decide)
  calc p * l / m ≤ 1000 * m / m := Int.ediv_le_ediv h5 h7
    _ = 1000 := Int.mul_ediv_cancel _ (by omega)
theorem worthOf_bound {ks : List KV} (hk : ∀ k ∈ ks, 0 ≤ k.n5 ∧ k.n5 ≤ 1000 ∧ 0 < k.n0) {us : List UnV} (hu : us.any (unBad ks) = false) (j : Int) : ∀ n, n ≤ us.length → 0 ≤ worthOf ks (us.take n) j ∧ worthOf ks (us.take n) j ≤ 1000 * n
  | 0, _ => by simp [worthOf]
  | n + 1, h => by
    have ih := worthOf_bound hk hu j n (by omega)
    obtain ⟨u, e⟩ : ∃ u, us[n]? = some u := ⟨_, List.getElem?_eq_getElem (by omega)⟩
    have hb : unBad ks u = false := by
      rw [List.any_eq_false] at hu
      have := hu u (List.mem_of_getElem? e)
      simpa using this
    obtain ⟨i, k, _, h2, _, _, h5, h6, h7⟩ := unBad_kind hb
    have h8 := hk k (List.mem_of_getElem? h2)
    have h9 := part_le h8.1 h8.2.1 h5 h6 h8.2.2
    rw [worthOf_next e, h7]
    split <;> omega
end Go.Proofs.YtamgjhehnblbgaaDoor

namespace Go.Proofs.YtamgjhehnblbgaaDoor
open Go.RowKit
set_option linter.unusedVariables false

theorem bdn {B : Nat} {w W : World} (h : Below B w W) : ∀ n, Below B w (W.drewN n)
  | 0 => h
  | n + 1 => (bdn h n).drew
set_option maxRecDepth 100000 in
set_option maxHeartbeats 4000000 in
theorem wrong_any (v : Value) (ks : List KV) (u : UnV) (b : Nat) (w : World) (h : Kl w v ks) (hc : w.cell? ⟨b, 0, none⟩ = some v) :
    Calls Tryd.prog 33 #[u.val, .pointer (some ⟨b, 0, none⟩)] w fun e w' => e = .returned (.bool (unBad ks u)) ∧ Below w.heap.size w w' := by
  have hl := cell_lt hc
  obtain ⟨R, hR⟩ : ∃ R, unBad ks u = R := ⟨_, rfl⟩
  have HR : Hid (unBad ks u = R) := hR
  rw [hR]
  clear hR
  obtain ⟨a, c, rfl, c1, c2, hx⟩ := h
  obtain ⟨id, player, kind, at_, life, load, task, goal⟩ := u
  unfold UnV.val
  have hw : IntKind.i64.wrap ((ks.length : Int) - 1) = (ks.length : Int) - 1 := by
    simp [IntKind.wrap, IntKind.bits, IntKind.signed]
    omega
  by_cases h1 : 0 ≤ player ∧ player ≤ 3
  · obtain ⟨h1a, h1b⟩ := h1
    by_cases h2 : 0 ≤ kind ∧ kind ≤ (ks.length : Int) - 1
    · obtain ⟨i, rfl⟩ : ∃ i : Nat, kind = i := ⟨kind.toNat, by omega⟩
      have hi : i < ks.length := by omega
      have hi' : (i : Int) < (ks.length : Int) := by omega
      obtain ⟨k, hk⟩ : ∃ k, ks[i]? = some k := ⟨_, List.getElem?_eq_getElem hi⟩
      obtain ⟨x, rfl, hx1, hx2⟩ := hx (by rintro rfl; simp at hi)
      have KC := hx2 i k hk
      have q1 : w.cell? ⟨(x.add (i * 11)).block, (x.add (i * 11)).off + 1, none⟩ = some (.int .i64 k.n0) := KC.c1
      have RB : Hid (R = decide (life < 0 ∨ k.n0 < life)) := by
        unfold Hid
        rw [← HR.out]
        unfold unBad
        rw [kindAt_nat, hk]
        simp only
        congr 1
        exact propext (by omega)
      generalize k.n0 = m at *
      have hx3 : (x.add (i * 11)).block < w.heap.size := by rw [add_block]; exact hx1
      have q1' : ∀ o, (w.alloc o).cell? ⟨(x.add (i * 11)).block, (x.add (i * 11)).off + 1, none⟩ = some (.int .i64 m) := fun o => by rw [((Below.refl w.heap.size w).alloc (Nat.le_refl _) o).cell (p := ⟨(x.add (i * 11)).block, (x.add (i * 11)).off + 1, none⟩) hx3]; exact q1
      clear hx2 hk KC HR hx
      by_cases h3 : 0 ≤ life ∧ life ≤ m
      · obtain ⟨h3a, h3b⟩ := h3
        have E : Hid (R = false) := by unfold Hid; rw [RB.out, decide_eq_false (by omega)]
        go_enter Tryd.func33, Tryd.ntmps33
        go_wp2_with fail
        go_quiet (first | (go_at_call 34; exact Calls.quiet_of_same (kwin_yes _ _ _ _ (by omega) (by omega))) | (go_at_call 34; exact Calls.quiet_of_same (kwin_no _ _ _ _ (by omega))))
        go_wp2
        go_ret
        exact ⟨by rw [E.out]; rfl, bdn ((Below.refl _ _).alloc (Nat.le_refl _) _) _⟩
      · have E : Hid (R = true) := by unfold Hid; rw [RB.out, decide_eq_true (by omega)]
        go_enter Tryd.func33, Tryd.ntmps33
        go_wp2_with fail
        go_quiet (first | (go_at_call 34; exact Calls.quiet_of_same (kwin_yes _ _ _ _ (by omega) (by omega))) | (go_at_call 34; exact Calls.quiet_of_same (kwin_no _ _ _ _ (by omega))))
        go_wp2
        go_ret
        exact ⟨by rw [E.out]; rfl, bdn ((Below.refl _ _).alloc (Nat.le_refl _) _) _⟩
    · have E : Hid (R = true) := by
        unfold Hid
        rw [← HR.out]
        unfold unBad
        have : kindAt ks kind = none := by
          unfold kindAt
          split
          · rfl
          · exact List.getElem?_eq_none (by omega)
        rw [this]
      clear hx
      go_enter Tryd.func33, Tryd.ntmps33
      go_wp2_with fail
      go_quiet (first | (go_at_call 34; exact Calls.quiet_of_same (kwin_yes _ _ _ _ (by omega) (by omega))) | (go_at_call 34; exact Calls.quiet_of_same (kwin_no _ _ _ _ (by omega))))
      go_wp2
      go_ret
      exact ⟨by rw [E.out]; rfl, bdn ((Below.refl _ _).alloc (Nat.le_refl _) _) _⟩
  · have E : Hid (R = true) := by
      unfold Hid
      rw [← HR.out]
      unfold unBad
      split
      · rfl
      · exact decide_eq_true (by simp only; omega)
    clear hx
    go_enter Tryd.func33, Tryd.ntmps33
    go_wp2_with fail
    go_quiet (first | (go_at_call 34; exact Calls.quiet_of_same (kwin_yes _ _ _ _ (by omega) (by omega))) | (go_at_call 34; exact Calls.quiet_of_same (kwin_no _ _ _ _ (by omega))))
    go_wp2
    go_ret
    exact ⟨by rw [E.out]; rfl, bdn ((Below.refl _ _).alloc (Nat.le_refl _) _) _⟩
end Go.Proofs.YtamgjhehnblbgaaDoor

namespace Go.Proofs.YtamgjhehnblbgaaDoor
open Go.RowKit
set_option linter.unusedVariables false

/-- r is where the first is; -1: there is none. -/
def FstU (p : UnV → Bool) (ks : List UnV) (r : Int) : Prop := (r = -1 ∧ ks.any p = false) ∨ ∃ (k : Nat) (x : UnV), r = k ∧ ks[k]? = some x ∧ p x = true ∧ (ks.take k).any p = false
theorem anyu_next {p : UnV → Bool} {ks : List UnV} {k : Nat} {x : UnV} (h : ks[k]? = some x) : (ks.take (k + 1)).any p = ((ks.take k).any p || p x) := by
  obtain ⟨hi, e⟩ := List.getElem?_eq_some_iff.1 h
  rw [List.take_succ_eq_append_getElem hi, List.any_append, e]
  simp

set_option maxHeartbeats 2000000 in
theorem idxu_any (K : Nat) (eK : ∀ args w, (callFunc K args).run Tryd.prog w = .ok (.enter K args) w) (u : Value) (cs : Array Value) (ks : List UnV) (p : UnV → Bool) (w : World) (hu : Unl w u ks)
    (hp : ∀ W, Below w.heap.size w W → ∀ k : UnV, Calls Tryd.prog K (#[k.val] ++ cs) W fun e w' => e = .returned (.bool (p k)) ∧ Below W.heap.size W w') :
    Calls Tryd.prog 50 #[u, .func (Fn.func K) #[] cs] w fun e w' => ∃ r : Int, e = .returned (.int .i64 r) ∧ FstU p ks r ∧ Below w.heap.size w w' := by
  obtain ⟨a, c, rfl, c1, c2, ca⟩ := hu
  have Ca : Hid (ks ≠ [] → ∃ x, a = some x ∧ x.block < w.heap.size ∧ ∀ (i : Nat) k, ks[i]? = some k → Unc w (x.add (i * 8)) k) := ca
  have Hp : Hid (∀ W, Below w.heap.size w W → ∀ k : UnV, Calls Tryd.prog K (#[k.val] ++ cs) W fun e w' => e = .returned (.bool (p k)) ∧ Below W.heap.size W w') := hp
  clear ca hp
  go_enter Tryd.func50, Tryd.ntmps50
  go_wp2
  go_loopw [8] (fun i W' => ∃ k : Nat, k ≤ ks.length ∧ i = .int .i64 (k : Nat) ∧ (ks.take k).any p = false ∧ Below w.heap.size w W') (fun i _ => ks.length - (intOf i).toNat)
  case atStart => exact ⟨0, Nat.zero_le _, rfl, by simp, Below.refl _ _⟩
  case round =>
    obtain ⟨k, hk, rfl, ht, hb⟩ := hrel
    have Ht : Hid ((ks.take k).any p = false) := ht
    have B : Hid (Below w.heap.size w wr) := hb
    clear ht hb
    by_cases h0 : k = ks.length
    · subst h0
      go_wp2
      go_ret
      refine ⟨_, rfl, .inl ⟨rfl, ?_⟩, B⟩
      have := Ht.out
      rw [List.take_of_length_le (Nat.le_refl _)] at this
      exact this
    · have hkx : k < ks.length := by omega
      obtain ⟨x, rfl, hx1, hx⟩ := Ca.out (by intro h; rw [h] at hkx; simp at hkx)
      obtain ⟨y, hy⟩ : ∃ y, ks[k]? = some y := ⟨_, List.getElem?_eq_getElem hkx⟩
      have Yc := (hx k y hy).below B.out (by rw [add_block]; exact hx1)
      obtain ⟨q0, q1, q2, q3, q4, q5, q6, q7⟩ := Yc
      have hc := Hp.out wr B.out y
      have Hs : Hid _ := anyu_next (p := p) hy
      have Hm : Hid (ks[k]? = some y) := hy
      clear hx hx1 hy
      cases hy : p y with
      | true =>
        rw [hy] at hc
        have Hc : Hid (Calls Tryd.prog K (#[y.val] ++ cs) wr fun e w' => e = .returned (.bool true) ∧ Below wr.heap.size wr w') := hc
        have Hy : Hid (p y = true) := hy
        clear hc hy
        go_wp2_with fail
        refine Calls.mono Hc.out ?_
        rintro e w1 ⟨rfl, b1⟩
        have B1 : Hid (Below w.heap.size w w1) := B.out.trans (b1.mono B.out.size)
        clear b1
        go_wp2
        go_ret
        exact ⟨_, rfl, .inr ⟨k, y, rfl, Hm, Hy, Ht⟩, B1⟩
      | false =>
        rw [hy] at hc
        have Hc : Hid (Calls Tryd.prog K (#[y.val] ++ cs) wr fun e w' => e = .returned (.bool false) ∧ Below wr.heap.size wr w') := hc
        have Hy : Hid (p y = false) := hy
        clear hc hy
        go_wp2_with fail
        refine Calls.mono Hc.out ?_
        rintro e w1 ⟨rfl, b1⟩
        have B1 : Hid (Below w.heap.size w w1) := B.out.trans (b1.mono B.out.size)
        clear b1
        go_wp2
        go_round
        case rel => exact ⟨k + 1, by omega, by go_num, by have := Hs.out; rw [Ht.out, Hy.out] at this; exact this, B1⟩
        case measure => simp [intOf]; omega

theorem FstU.has {p : UnV → Bool} {xs : List UnV} {r : Int} (h : FstU p xs r) : decide (0 ≤ r) = xs.any p := by
  rcases h with ⟨rfl, h⟩ | ⟨k, x, rfl, h1, h2, _⟩
  · rw [h]; decide
  · rw [decide_eq_true (by omega)]
    exact (List.any_eq_true.2 ⟨x, List.mem_of_getElem? h1, h2⟩).symm

set_option maxHeartbeats 1000000 in
theorem hasu_any (K : Nat) (eK : ∀ args w, (callFunc K args).run Tryd.prog w = .ok (.enter K args) w) (u : Value) (cs : Array Value) (ks : List UnV) (p : UnV → Bool) (w : World) (hu : Unl w u ks)
    (hp : ∀ W, Below w.heap.size w W → ∀ k : UnV, Calls Tryd.prog K (#[k.val] ++ cs) W fun e w' => e = .returned (.bool (p k)) ∧ Below W.heap.size W w') :
    Calls Tryd.prog 35 #[u, .func (Fn.func K) #[] cs] w fun e w' => e = .returned (.bool (ks.any p)) ∧ Below w.heap.size w w' := by
  have H' : Hid (Calls Tryd.prog 50 #[u, .func (Fn.func K) #[] cs] w fun e w' => ∃ r : Int, e = .returned (.int .i64 r) ∧ FstU p ks r ∧ Below w.heap.size w w') := idxu_any K eK u cs ks p w hu hp
  clear hp
  go_enter Tryd.func35, Tryd.ntmps35
  go_wp2_with fail
  refine Calls.mono H'.out ?_
  rintro e w1 ⟨r, rfl, hr, q⟩
  have Hr : Hid (decide (0 ≤ r) = ks.any p) := hr.has
  have Q : Hid (Below w.heap.size w w1) := q
  clear hr q
  go_wp2
  go_ret
  exact ⟨by show Ending.returned (.bool (decide (0 ≤ r))) = _; rw [Hr.out], Q⟩
end Go.Proofs.YtamgjhehnblbgaaDoor

namespace Go.Proofs.YtamgjhehnblbgaaDoor
open Go.RowKit
set_option linter.unusedVariables false

theorem kgo_nums : ∀ {l acc : List Kd.K}, Kd.kindsGo acc l = 0 → ∀ k ∈ l, Kd.numsFault k.nums = 0
  | [], _, _, k, hk => by simp at hk
  | x :: l, acc, h, k, hk => by
    unfold Kd.kindsGo at h
    split at h
    · rename_i h0
      rcases List.mem_cons.1 hk with rfl | hk
      · unfold Kd.kindFault at h0
        split at h0
        · split at h0
          · omega
          · exact h0
        · omega
      · exact kgo_nums h k hk
    · rename_i h0
      exact absurd h h0
/-- kinds that are right. -/
theorem kinds_right {ks : List KV} (h : Kd.kindsFault (ks.map KV.k) = 0) : ks.length ≤ 8 ∧ ∀ k ∈ ks, 0 ≤ k.n5 ∧ k.n5 ≤ 1000 ∧ 0 < k.n0 ∧ k.n0 ≤ 1000 := by
  unfold Kd.kindsFault at h
  split at h
  · omega
  · rename_i h8
    refine ⟨by simpa using h8, fun k hk => ?_⟩
    have := kgo_nums h k.k (List.mem_map.2 ⟨k, hk, rfl⟩)
    unfold Kd.numsFault at this
    split at this
    · omega
    · rename_i h1
      rw [Bool.not_eq_true, List.any_eq_false] at h1
      have a := h1 k.n0 (by simp [KV.k])
      have b := h1 k.n5 (by simp [KV.k])
      simp only [decide_eq_true_eq] at a b
      split at this
      · omega
      · rename_i h2
        have : (k.k.nums).getD 0 0 = k.n0 := rfl
        omega

end Go.Proofs.YtamgjhehnblbgaaDoor

namespace Go.Proofs.YtamgjhehnblbgaaDoor
open Go.RowKit
set_option linter.unusedVariables false

theorem eworth1 : ∀ args w, (callFunc 33 args).run Tryd.prog w = .ok (.enter 33 args) w := by
  intro args w
  go_simp
theorem makeI4 (w : World) : (Instr.makeSlice 31 (.int .i64 4) (.int .i64 4)).run Tryd.prog w = .ok (.slice (some ⟨w.heap.size, 0, none⟩) 4 4) (w.alloc (.cells #[.int .i64 0, .int .i64 0, .int .i64 0, .int .i64 0] 3)) := by kernel_rfl
set_option maxRecDepth 100000 in
set_option maxHeartbeats 4000000 in
theorem worth_any (v : Value) (ks : List KV) (y : Value) (us : List UnV) (w : World) (h : Kl w v ks) (hb : ∀ k ∈ ks, k.b.size ≤ 9223372036854775807) (hu : Unl w y us) :
    Calls Tryd.prog 24 #[v, y] w fun e w' => ∃ (r u : Value), e = .returned (.tuple #[r, u]) ∧ Below w.heap.size w w' ∧
      ((Kd.kindsFault (ks.map KV.k) ≠ 0 ∧ Ro w' r [] ∧ Er u (Kd.kindsFault (ks.map KV.k))) ∨
       (Kd.kindsFault (ks.map KV.k) = 0 ∧ 40 < us.length ∧ Ro w' r [] ∧ Er u 4) ∨
       (Kd.kindsFault (ks.map KV.k) = 0 ∧ us.length ≤ 40 ∧ us.any (unBad ks) = true ∧ Ro w' r [] ∧ Er u 1) ∨
       (Kd.kindsFault (ks.map KV.k) = 0 ∧ us.length ≤ 40 ∧ us.any (unBad ks) = false ∧ Ro w' r (worths ks us) ∧ Er u 0)) := by
  have K0 : Hid (Kl w v ks) := h
  have U0 : Hid (Unl w y us) := hu
  have CA : Hid (∀ W, Below w.heap.size w W → Calls Tryd.prog 32 #[v] W fun e w' => ∃ u, e = .returned u ∧ Er u (Kd.kindsFault (ks.map KV.k)) ∧ Below W.heap.size W w') := fun W hW => kcheck_any v ks W (h.below hW) hb
  have KR : Hid (Kd.kindsFault (ks.map KV.k) = 0 → ks.length ≤ 8 ∧ ∀ k ∈ ks, 0 ≤ k.n5 ∧ k.n5 ≤ 1000 ∧ 0 < k.n0 ∧ k.n0 ≤ 1000) := kinds_right
  generalize Kd.kindsFault (ks.map KV.k) = R at *
  have Rn : ∀ W : World, Ro W (.slice none 0 0) [] := fun W => ⟨none, 0, rfl, Nat.le_refl _, by omega, fun h => absurd rfl h⟩
  have RN : Hid (∀ W : World, Ro W (.slice none 0 0) []) := Rn
  clear hb Rn
  obtain ⟨a, c, rfl, c1, c2, -⟩ := h
  obtain ⟨au, cu, rfl, cu1, cu2, -⟩ := hu
  go_enter Tryd.func24, Tryd.ntmps24
  go_wp2_with fail
  have B0 : Below w.heap.size w (w.alloc (Obj.cells #[.slice a ks.length c] 30)) := (Below.refl _ _).alloc (Nat.le_refl _) _
  have hc0 : (w.alloc (Obj.cells #[.slice a ks.length c] 30)).cell? ⟨w.heap.size, 0, none⟩ = some (.slice a ks.length c) := by simp
  have hz0 : w.heap.size < (w.alloc (Obj.cells #[.slice a ks.length c] 30)).heap.size := by simp
  refine (CA.out _ B0).mono ?_
  rintro e w1 ⟨u, rfl, hu, b1⟩
  have B1 : Hid (Below w.heap.size w w1) := B0.trans (b1.mono B0.size)
  have hc1 : w1.cell? ⟨w.heap.size, 0, none⟩ = some (.slice a ks.length c) := by rw [b1.cell (p := ⟨w.heap.size, 0, none⟩) hz0]; exact hc0
  clear CA b1 B0 hc0 hz0
  rcases hu with ⟨h0, rfl⟩ | ⟨h0, rfl⟩
  · have H0 : Hid (R = 0) := h0
    clear h0
    by_cases h40 : 40 < us.length
    · have h40' : (40 : Int) < (us.length : Int) := by omega
      go_wp2
      go_ret2
      exact ⟨_, _, rfl, B1, .inr (.inl ⟨H0, h40, RN.out _, Er.no (by decide)⟩)⟩
    · have h40' : ¬ (40 : Int) < (us.length : Int) := by omega
      have hl40 : us.length ≤ 40 := by omega
      go_wp2_with fail
      have hl1 := cell_lt hc1
      refine (hasu_any 33 eworth1 _ _ us (unBad ks) _ (U0.out.below B1.out) ?_).mono ?_
      · intro W hW k
        exact wrong_any _ ks k w.heap.size W (K0.out.below (B1.out.trans (hW.mono B1.out.size))) (by rw [hW.cell (p := ⟨w.heap.size, 0, none⟩) hl1]; exact hc1)
      · rintro e w2 ⟨rfl, b2⟩
        have B2 : Hid (Below w.heap.size w w2) := B1.out.trans (b2.mono B1.out.size)
        have hc2 : w2.cell? ⟨w.heap.size, 0, none⟩ = some (.slice a ks.length c) := by rw [b2.cell (p := ⟨w.heap.size, 0, none⟩) hl1]; exact hc1
        clear b2 hc1 hl1
        cases hA : us.any (unBad ks) with
        | true =>
          have HA : Hid (us.any (unBad ks) = true) := hA
          clear hA
          go_wp2
          go_ret2
          exact ⟨_, _, rfl, B2, .inr (.inr (.inl ⟨H0, hl40, HA, RN.out _, Er.no (by decide)⟩))⟩
        | false =>
          have HA : Hid (us.any (unBad ks) = false) := hA
          clear hA
          have KR2 : Hid (ks.length ≤ 8 ∧ ∀ k ∈ ks, 0 ≤ k.n5 ∧ k.n5 ≤ 1000 ∧ 0 < k.n0 ∧ k.n0 ≤ 1000) := KR.out H0.out
          have hm := makeI4 w2
          have hlt : w.heap.size < w2.heap.size := cell_lt hc2
          have hl0 : w.heap.size ≤ w2.heap.size := by omega
          have BB : Hid (Below w2.heap.size w2 (w2.alloc (Obj.cells #[.int .i64 0, .int .i64 0, .int .i64 0, .int .i64 0] 3))) := (Below.refl _ _).alloc (Nat.le_refl _) _
          have BK : Hid (Bk (w2.alloc (Obj.cells #[.int .i64 0, .int .i64 0, .int .i64 0, .int .i64 0] 3)) w2.heap.size (worths ks []) #[]) := by
            unfold Hid Bk
            rw [World.alloc_heap_new]
            rfl
          have HC : Hid (w2.cell? ⟨w.heap.size, 0, none⟩ = some (.slice a ks.length c)) := hc2
          clear hc2 KR RN
          go_wp2_with fail
          go_loopw [29] (fun j W' => ∃ n : Nat, n ≤ us.length ∧ j = .int .i64 (n : Nat) ∧ Bk W' w2.heap.size (worths ks (us.take n)) #[] ∧ Below w2.heap.size w2 W') (fun j _ => us.length - (intOf j).toNat)
          case atStart => exact ⟨0, Nat.zero_le _, rfl, BK, BB⟩
          case round =>
            obtain ⟨n, hn, rfl, hbk, hbb⟩ := hrel
            have Bk1 : Hid (Bk wr w2.heap.size (worths ks (us.take n)) #[]) := hbk
            have Bb1 : Hid (Below w2.heap.size w2 wr) := hbb
            have Bw : Hid (Below w.heap.size w wr) := B2.out.trans (hbb.mono hl0)
            clear hbk hbb
            by_cases hne : n = us.length
            · subst hne
              go_wp2
              go_ret2
              refine ⟨_, _, rfl, Bw, .inr (.inr (.inr ⟨H0, hl40, HA, ?_, Er.nil⟩))⟩
              have := Bk1.out.ro (c := 4) (by simp [worths]) (by omega)
              rw [List.take_of_length_le (Nat.le_refl _)] at this
              exact this
            · have hnl : n < us.length := by omega
              have hnl' : (n : Int) < (us.length : Int) := by omega
              obtain ⟨u, hu⟩ : ∃ u, us[n]? = some u := ⟨_, List.getElem?_eq_getElem hnl⟩
              have hbad : unBad ks u = false := by
                have := HA.out
                rw [List.any_eq_false] at this
                simpa using this u (List.mem_of_getElem? hu)
              obtain ⟨i, k, hki, hk, hp0, hp3, hl0', hlm, hwo⟩ := unBad_kind hbad
              have kb := KR2.out.2 k (List.mem_of_getElem? hk)
              have hil : i < ks.length := (List.getElem?_eq_some_iff.1 hk).1
              have WB := worthOf_bound (fun k hk => ⟨(KR2.out.2 k hk).1, (KR2.out.2 k hk).2.1, (KR2.out.2 k hk).2.2.1⟩) HA.out u.player n hn
              have WN : Hid (∀ j, worthOf ks (us.take (n + 1)) j = if u.player = j then worthOf ks (us.take n) j + worthOne ks u else worthOf ks (us.take n) j) := worthOf_next hu
              obtain ⟨p, hpp⟩ : ∃ p : Nat, u.player = p := ⟨u.player.toNat, by omega⟩
              have hp4 : p < 4 := by omega
              have Wd : Hid ((worths ks (us.take n))[p]? = some (worthOf ks (us.take n) u.player)) := by
                unfold Hid worths
                rw [hpp]
                match p, hp4 with
                | 0, _ => rfl
                | 1, _ => rfl
                | 2, _ => rfl
                | 3, _ => rfl
              have Ws : Hid ((worths ks (us.take n)).set p (worthOf ks (us.take n) u.player + worthOne ks u) = worths ks (us.take (n + 1))) := by
                unfold Hid worths
                rw [WN.out 0, WN.out 1, WN.out 2, WN.out 3, hpp]
                match p, hp4 with
                | 0, _ => rfl
                | 1, _ => rfl
                | 2, _ => rfl
                | 3, _ => rfl
              have PL := part_le kb.1 kb.2.1 hl0' hlm kb.2.2.1
              have ML : 0 ≤ k.n5 * u.life ∧ k.n5 * u.life ≤ 1000000 := ⟨Int.mul_nonneg kb.1 hl0', by
                have : k.n5 * u.life ≤ 1000 * 1000 := Int.mul_le_mul kb.2.1 (by omega) hl0' (by decide)
                omega⟩
              obtain ⟨hm1, hm2⟩ := ML
              obtain ⟨hq1, hq2⟩ := PL
              obtain ⟨hb1, hb2⟩ := WB
              rw [hwo] at Ws
              generalize worthOf ks (us.take n) u.player = sm at *
              have Uc := U0.out.below Bw.out
              obtain ⟨au', cu', e, -, -, hux⟩ := Uc
              injection e with e1 e2 e3
              subst e1 e3
              obtain ⟨xu, rfl, hxu1, hxu⟩ := hux (by rintro rfl; simp at hnl)
              have UC := hxu n u hu
              have Kk := K0.out.below Bw.out
              obtain ⟨a', c', e, -, -, hkx⟩ := Kk
              injection e with e1 e2 e3
              subst e1 e3
              obtain ⟨xk, rfl, hxk1, hxk⟩ := hkx (by rintro rfl; simp at hil)
              have KC := hxk i k hk
              have hcl : wr.cell? ⟨w.heap.size, 0, none⟩ = some (.slice (some xk) ks.length c) := by rw [Bb1.out.cell (p := ⟨w.heap.size, 0, none⟩) hlt]; exact HC.out
              have hil' : (i : Int) < (ks.length : Int) := by omega
              clear hxu hux hkx hxk hu hk hbad hwo WN e2 hnl hn
              have hs := Bk1.out.lt
              obtain ⟨id, player, kind, at_, life, load, task, goal⟩ := u
              obtain ⟨kb', n0, n1, n2, n3, n4, n5, n6, n7, kf, kt⟩ := k
              simp only at hki hpp hl0' hlm kb hm1 hm2 hq1 hq2 Ws Wd
              subst hki hpp
              obtain ⟨g1, g2, g3, g4⟩ := kb
              obtain ⟨m, em⟩ : ∃ m, n5 * life = m := ⟨_, rfl⟩
              rw [em] at hm1 hm2 hq1 hq2 Ws
              obtain ⟨qq, eq⟩ : ∃ qq, m.tdiv n0 = qq := ⟨_, rfl⟩
              rw [eq] at hq1 hq2 Ws
              have Em : Hid (n5 * life = m) := em
              have Eq : Hid (m.tdiv n0 = qq) := eq
              have KC' : Hid (Kc wr (xk.add (i * 11)) ⟨kb', n0, n1, n2, n3, n4, n5, n6, n7, kf, kt⟩) := KC
              have hcl' : Hid (wr.cell? ⟨w.heap.size, 0, none⟩ = some (.slice (some xk) ks.length c)) := hcl
              obtain ⟨u0, u1, u2, u3, u4, u5, u6, u7⟩ := UC
              simp only at u0 u1 u2 u3 u4 u5 u6 u7
              have Hs1 : Hid (w2.heap.size < wr.heap.size) := hs
              have Hxk : Hid (xk.block < wr.heap.size) := hxk1
              clear em eq KC hcl hs hxk1
              go_upto_region 13 with fail
              have b3 : Below wr.heap.size wr (wr.alloc (Obj.cells #[.int .i64 id, .int .i64 (p : Nat), .int .i64 (i : Nat), .int .i64 at_, .int .i64 life, .int .i64 load, .int .i64 task, .int .i64 goal] 45)) := (Below.refl _ _).alloc (Nat.le_refl _) _
              have X3 := Unc.mk' (w := wr) ⟨id, (p : Nat), (i : Nat), at_, life, load, task, goal⟩ rfl
              simp only at X3
              clear u0 u1 u2 u3 u4 u5 u6 u7
              generalize wr.alloc (Obj.cells #[.int .i64 id, .int .i64 (p : Nat), .int .i64 (i : Nat), .int .i64 at_, .int .i64 life, .int .i64 load, .int .i64 task, .int .i64 goal] 45) = w3 at *
              have B3 : Hid (Below wr.heap.size wr w3) := b3
              have hcl : w3.cell? ⟨w.heap.size, 0, none⟩ = some (.slice (some xk) ks.length c) := by rw [b3.cell (p := ⟨w.heap.size, 0, none⟩) (cell_lt hcl'.out)]; exact hcl'.out
              have KC := KC'.out.below b3 (by rw [add_block]; exact Hxk.out)
              obtain ⟨k0, k1, k2, k3, k4, k5, k6, k7, k8, k9, k10⟩ := KC
              simp only at k0 k1 k2 k3 k4 k5 k6 k7 k8 k9 k10
              have x1 : w3.cell? ⟨wr.heap.size, 1, none⟩ = some (.int .i64 (p : Nat)) := X3.c1
              have x2 : w3.cell? ⟨wr.heap.size, 2, none⟩ = some (.int .i64 (i : Nat)) := X3.c2
              have x4 : w3.cell? ⟨wr.heap.size, 4, none⟩ = some (.int .i64 life) := X3.c4
              have Y3 : Hid (wr.heap.size < w3.heap.size ∧ w3.cell? ⟨wr.heap.size, 1, none⟩ = some (.int .i64 (p : Nat)) ∧ w3.cell? ⟨wr.heap.size, 4, none⟩ = some (.int .i64 life)) := ⟨X3.lt, x1, x4⟩
              clear X3 b3
              go_upto_region 14 with fail
              have b4 : Below w3.heap.size w3 (w3.alloc (Obj.cells #[.string kb', .int .i64 n0, .int .i64 n1, .int .i64 n2, .int .i64 n3, .int .i64 n4, .int .i64 n5, .int .i64 n6, .int .i64 n7, .bool kf, .bool kt] 57)) := (Below.refl _ _).alloc (Nat.le_refl _) _
              have X4 := Kc.mk' (w := w3) ⟨kb', n0, n1, n2, n3, n4, n5, n6, n7, kf, kt⟩ rfl
              simp only at X4
              clear k0 k1 k2 k3 k4 k5 k6 k7 k8 k9 k10 x1 x2 x4 hcl
              generalize w3.alloc (Obj.cells #[.string kb', .int .i64 n0, .int .i64 n1, .int .i64 n2, .int .i64 n3, .int .i64 n4, .int .i64 n5, .int .i64 n6, .int .i64 n7, .bool kf, .bool kt] 57) = w4 at *
              have B4 : Hid (Below wr.heap.size wr w4) := B3.out.trans (b4.mono B3.out.size)
              have x1 : w4.cell? ⟨wr.heap.size, 1, none⟩ = some (.int .i64 (p : Nat)) := by rw [b4.cell (p := ⟨wr.heap.size, 1, none⟩) Y3.out.1]; exact Y3.out.2.1
              have x4 : w4.cell? ⟨wr.heap.size, 4, none⟩ = some (.int .i64 life) := by rw [b4.cell (p := ⟨wr.heap.size, 4, none⟩) Y3.out.1]; exact Y3.out.2.2
              have z1 : w4.cell? ⟨w3.heap.size, 1, none⟩ = some (.int .i64 n0) := X4.c1
              have z6 : w4.cell? ⟨w3.heap.size, 6, none⟩ = some (.int .i64 n5) := X4.c6
              have Bk4 : Hid (Bk w4 w2.heap.size (worths ks (us.take n)) #[]) := Bk1.out.low B4.out Hs1.out
              have y0 : w4.cell? ⟨w2.heap.size, p, none⟩ = some (.int .i64 sm) := Bk4.out.cell Wd.out
              have y1 : w4.frozen? ⟨w2.heap.size, p, none⟩ = false := Bk4.out.thaw p
              have hn0 : n0 ≠ 0 := by omega
              have hp4' : (p : Int) < 4 := by omega
              have em : n5 * life = m := Em.out
              have eq : m.tdiv n0 = qq := Eq.out
              have hsm : sm ≤ 1000000 := by omega
              clear X4 b4 Y3
              go_region
              all_goals
                go_wp2
                refine ⟨⟨n + 1, by omega, by go_num, ?_, ?_⟩, by simp [intOf]; omega⟩
                · have := Bk4.out.set p (sm + qq) (by simpa [worths] using hp4)
                  rw [Ws.out] at this
                  exact this
                · exact (((Bb1.out.trans (B4.out.mono Bb1.out.size)).setCell (p := ⟨w2.heap.size, p, none⟩) (Nat.le_refl _) _).drew)
  · have H0 : Hid (R ≠ 0) := h0
    clear h0
    go_wp2
    go_ret2
    exact ⟨_, _, rfl, B1, .inl ⟨H0, RN.out _, Er.no H0⟩⟩
end Go.Proofs.YtamgjhehnblbgaaDoor

namespace Go.Proofs.YtamgjhehnblbgaaDoor.Fd

/-- what is wrong with a cell. -/
def cellFault (g o : Int) : Int := if g < 0 ∨ 3 < g ∨ o < 0 ∨ 1000000 < o then 1 else if 0 < o ∧ g ≠ 0 then 7 else 0
def cellsFault : List Int → List Int → Int
  | g :: gs, o :: os => if cellFault g o = 0 then cellsFault gs os else cellFault g o
  | _, _ => 0
/-- what is wrong with a field. -/
def fault (W H : Int) (gs os : List Int) : Int :=
  if W < 1 ∨ 12 < W ∨ H < 1 ∨ 12 < H then 1 else if (gs.length : Int) ≠ W * H ∨ (os.length : Int) ≠ W * H then 3 else cellsFault gs os

/-- a field with which nothing is wrong. -/
structure Good (W H : Nat) (gs os : List Int) : Prop where
  w1 : 1 ≤ W
  w2 : W ≤ 12
  h1 : 1 ≤ H
  h2 : H ≤ 12
  gl : gs.length = W * H
  ol : os.length = W * H
  cell : ∀ (i : Nat) g o, gs[i]? = some g → os[i]? = some o → 0 ≤ g ∧ g ≤ 3 ∧ 0 ≤ o ∧ o ≤ 1000000 ∧ (0 < o → g = 0)

theorem cellFault_zero {g o : Int} (h : cellFault g o = 0) : 0 ≤ g ∧ g ≤ 3 ∧ 0 ≤ o ∧ o ≤ 1000000 ∧ (0 < o → g = 0) := by
  unfold cellFault at h
  split at h
  · omega
  · split at h
    · omega
    · omega
theorem cellsFault_zero : ∀ (gs os : List Int), cellsFault gs os = 0 → ∀ (i : Nat) g o, gs[i]? = some g → os[i]? = some o → cellFault g o = 0
  | [], _, _, i, g, o, h1, _ => by simp at h1
  | _ :: _, [], _, i, g, o, _, h2 => by simp at h2
  | g0 :: gs, o0 :: os, h, i, g, o, h1, h2 => by
    unfold cellsFault at h
    split at h
    · rename_i hc
      cases i with
      | zero => simp at h1 h2; subst h1; subst h2; exact hc
      | succ i => exact cellsFault_zero gs os h i g o (by simpa using h1) (by simpa using h2)
    · rename_i hc
      exact absurd h hc
theorem cellsFault_range (gs os : List Int) : cellsFault gs os = 0 ∨ cellsFault gs os = 1 ∨ cellsFault gs os = 7 := by
  induction gs generalizing os with
  | nil => left; unfold cellsFault; rfl
  | cons g gs ih =>
    cases os with
    | nil => left; unfold cellsFault; rfl
    | cons o os =>
      unfold cellsFault
      split
      · exact ih os
      · unfold cellFault
        split
        · right; left; rfl
        · split
          · right; right; rfl
          · left; rfl
theorem fault_range (W H : Int) (gs os : List Int) : fault W H gs os = 0 ∨ fault W H gs os = 1 ∨ fault W H gs os = 3 ∨ fault W H gs os = 7 := by
  unfold fault
  split
  · omega
  · split
    · omega
    · have := cellsFault_range gs os; omega
theorem fault_zero {W H : Int} {gs os : List Int} (h : fault W H gs os = 0) : ∃ W' H' : Nat, W = W' ∧ H = H' ∧ Good W' H' gs os := by
  unfold fault at h
  split at h
  · omega
  · split at h
    · omega
    · rename_i h1 h2
      refine ⟨W.toNat, H.toNat, by omega, by omega, by omega, by omega, by omega, by omega, ?_, ?_, fun i g o hg ho => cellFault_zero (cellsFault_zero gs os h i g o hg ho)⟩
      · have e : ((W.toNat * H.toNat : Nat) : Int) = W * H := by rw [Int.natCast_mul, Int.toNat_of_nonneg (by omega), Int.toNat_of_nonneg (by omega)]
        omega
      · have e : ((W.toNat * H.toNat : Nat) : Int) = W * H := by rw [Int.natCast_mul, Int.toNat_of_nonneg (by omega), Int.toNat_of_nonneg (by omega)]
        omega
theorem cellFault_of {g o : Int} (h : 0 ≤ g ∧ g ≤ 3 ∧ 0 ≤ o ∧ o ≤ 1000000 ∧ (0 < o → g = 0)) : cellFault g o = 0 := by
  unfold cellFault
  rw [if_neg (by omega), if_neg (by omega)]
theorem cellsFault_of : ∀ (gs os : List Int), (∀ (i : Nat) g o, gs[i]? = some g → os[i]? = some o → cellFault g o = 0) → cellsFault gs os = 0
  | [], _, _ => by unfold cellsFault; rfl
  | _ :: _, [], _ => by unfold cellsFault; rfl
  | g :: gs, o :: os, h => by
    unfold cellsFault
    rw [if_pos (h 0 g o rfl rfl)]
    exact cellsFault_of gs os fun i g' o' h1 h2 => h (i + 1) g' o' (by simpa using h1) (by simpa using h2)
theorem fault_good {W H : Nat} {gs os : List Int} (h : Good W H gs os) : fault W H gs os = 0 := by
  have e : ((W * H : Nat) : Int) = (W : Int) * H := Int.natCast_mul _ _
  have := h.gl; have := h.ol; have := h.w1; have := h.w2; have := h.h1; have := h.h2
  unfold fault
  rw [if_neg (by omega), if_neg (by omega)]
  exact cellsFault_of gs os fun i g o h1 h2 => cellFault_of (h.cell i g o h1 h2)
theorem Good.pos {W H : Nat} {gs os : List Int} (h : Good W H gs os) : 1 ≤ W * H ∧ W * H ≤ 144 := by
  have h1 := Nat.mul_le_mul h.w1 h.h1
  have h2 := Nat.mul_le_mul h.w2 h.h2
  omega
theorem cellsFault_drop (gs os : List Int) (k : Nat) (g o : Int) (hg : gs[k]? = some g) (ho : os[k]? = some o) :
    cellsFault (gs.drop k) (os.drop k) = if cellFault g o = 0 then cellsFault (gs.drop (k + 1)) (os.drop (k + 1)) else cellFault g o := by
  obtain ⟨h1, e1⟩ := List.getElem?_eq_some_iff.1 hg
  obtain ⟨h2, e2⟩ := List.getElem?_eq_some_iff.1 ho
  rw [List.drop_eq_getElem_cons h1, List.drop_eq_getElem_cons h2, e1, e2]
  rfl

/-- the fault of a cell's number. -/
def askFault (F : Int) (n : Nat) (xs : List Int) : Int := if F ≠ 0 then F else if xs.all (fun x => decide (0 ≤ x ∧ x < n)) then 0 else 6

/-- the cells beside one. -/
def near (W H a : Nat) : List Int :=
  (if 0 < a / W then [(a : Int) - W] else []) ++ ((if 0 < a % W then [(a : Int) - 1] else []) ++ ((if a % W + 1 < W then [(a : Int) + 1] else []) ++ (if a / W + 1 < H then [(a : Int) + W] else [])))

/-- how far it is onto a ground. -/
def onto (g : Int) (flies : Bool) : Int := if g = 1 then 0 else if g = 2 then (if flies then 1 else 0) else if g = 3 then (if flies then 1 else 2) else 1
end Go.Proofs.YtamgjhehnblbgaaDoor.Fd

namespace Go.Proofs.YtamgjhehnblbgaaDoor
set_option linter.unusedVariables false
namespace Wd

/-- not from least to 1000000. -/
def off (least n : Int) : Bool := !decide (least ≤ n ∧ n ≤ 1000000)
def numsBad (W : WV) : Bool := off 0 W.turn || (off 1 W.next || (!decide (1 ≤ (W.gold.length : Int) ∧ (W.gold.length : Int) ≤ 4) || W.gold.any (off 0)))
def has (n : Nat) (i : Int) : Bool := decide (0 ≤ i ∧ i < (n : Int))
/-- one who goes, or flies, may stand there. -/
def open_ (gs : List Int) (ahead : List UnV) (at_ : Int) (fl : Bool) : Bool := decide (0 < Fd.onto (gs.getD at_.toNat 0) fl) && !ahead.any (fun u => u.at_ == at_)
/-- what is wrong with the i-th unit, as far as its kind does not matter; as far as it does. -/
def kindPart (W : WV) (ahead : List UnV) (u : UnV) (k : KV) : Int :=
  if !decide (1 ≤ u.life ∧ u.life ≤ k.n0) || (!decide (0 ≤ u.load ∧ u.load ≤ k.n7) || !decide (0 ≤ u.task ∧ u.task ≤ 2)) then 1
  else if !has W.gs.length u.at_ || !has W.gs.length u.goal then 6
  else if !open_ W.gs ahead u.at_ k.f || (u.goal != 0 && u.task == 0) then 7 else 0
def notAbove (us : List UnV) (i : Nat) (u : UnV) : Bool := match i with
  | 0 => false
  | j + 1 => match us[j]? with
    | none => false
    | some x => decide (u.id ≤ x.id)
def unitFault (ks : List KV) (W : WV) (i : Nat) (u : UnV) : Int :=
  if !decide (1 ≤ u.id ∧ u.id ≤ W.next - 1) then 1
  else if notAbove W.us i u then 5
  else if !has W.gold.length u.player || !has ks.length u.kind then 1
  else match ks[u.kind.toNat]? with
    | none => 1
    | some k => kindPart W (W.us.take i) u k
def unitsGo (ks : List KV) (W : WV) (i : Nat) : List UnV → Int
  | [] => 0
  | u :: r => if unitFault ks W i u = 0 then unitsGo ks W (i + 1) r else unitFault ks W i u
def jobFault (ks : List KV) (W : WV) (j : JbV) : Int := match W.us.find? (fun u => u.id == j.unit) with
  | none => 6
  | some u => match ks[u.kind.toNat]? with
    | none => 7
    | some k => if u.player != j.player || !k.t then 7 else if !has ks.length j.kind || !decide (1 ≤ j.left ∧ j.left ≤ 1000) then 1 else 0
def jobsGo (ks : List KV) (W : WV) : List JbV → Int
  | [] => 0
  | j :: r => if jobFault ks W j = 0 then jobsGo ks W r else jobFault ks W j
def ground (ks : List KV) (W : WV) : Int := if Kd.kindsFault (ks.map KV.k) = 0 then Fd.fault W.wide W.high W.gs W.os else Kd.kindsFault (ks.map KV.k)
/-- what is wrong with a world. -/
def wfault (ks : List KV) (W : WV) : Int :=
  if ground ks W ≠ 0 then ground ks W
  else if numsBad W then 1
  else if 40 < W.us.length then 4
  else if unitsGo ks W 0 W.us ≠ 0 then unitsGo ks W 0 W.us
  else if 12 < W.qs.length then 4
  else jobsGo ks W W.qs
theorem unitsGo_at {ks : List KV} {W : WV} {i : Nat} {u : UnV} (h : W.us[i]? = some u) : unitsGo ks W i (W.us.drop i) = if unitFault ks W i u = 0 then unitsGo ks W (i + 1) (W.us.drop (i + 1)) else unitFault ks W i u := by
  obtain ⟨hi, e⟩ := List.getElem?_eq_some_iff.1 h
  rw [List.drop_eq_getElem_cons hi, e]
  rfl
theorem jobsGo_at {ks : List KV} {W : WV} {i : Nat} {j : JbV} (h : W.qs[i]? = some j) : jobsGo ks W (W.qs.drop i) = if jobFault ks W j = 0 then jobsGo ks W (W.qs.drop (i + 1)) else jobFault ks W j := by
  obtain ⟨hi, e⟩ := List.getElem?_eq_some_iff.1 h
  rw [List.drop_eq_getElem_cons hi, e]
  rfl
end Wd
end Go.Proofs.YtamgjhehnblbgaaDoor

namespace Go.Proofs.YtamgjhehnblbgaaDoor
open Go.RowKit
set_option linter.unusedVariables false

theorem run_append_no {P : Program} {w : World} (base : Nat) (t ty e : TypeId) (i : TypeInfo) (size : Nat) (ht : P.underlying t = some (.slice e)) (hi : P.info? e = some i)
    (v : Value) (n : Nat) (xs : List Value) (hown : w.ownsRow base e size v n xs) (a : Option Addr) (c : Nat) :
    (Builtin.append_ #[t, t] ty #[v, .slice a 0 c]).run P w = .ok v w := by
  rcases hown.2 with ⟨rfl, rfl⟩ | ⟨g, cap, cur, rfl, _, _, hnc, _⟩
  · cases a <;> simp [Builtin.append_, run_underlying ht, sizeOf, typeInfo, hi, Builtin.lenOf, Builtin.firstCells, loadCells, loadCellsFrom]
  · cases a <;> simp [Builtin.append_, run_underlying ht, sizeOf, typeInfo, hi, Builtin.lenOf, Builtin.firstCells, hnc, storeCells, loadCells, loadCellsFrom]
theorem app_row {ops : Array Oper} {rest : List Oper} {o : Oper} {a : Act} {Q : Exit → Act → World → Prop} (w : World) (hgd : o.guard = none) (s x : Operand)
    (ho : o.op = .call { callee := .builtin .append, args := #[s, x], argTypes := #[31, 31] }) (base : Nat) (v : Value) (xs : List Int) (hs : a.eval s = v) (hown : Ow w base v xs)
    (u : Value) (ys : List Int) (hx : a.eval x = u) (hu : Ro w u ys) (hl : xs.length + ys.length ≤ 1000000000) (hbase : base ≤ w.heap.size)
    (h : ∀ v' w', Ow w' base v' (xs ++ ys) → w.grownBy w' v.ownBlock → (v'.ownBlock = v.ownBlock ∨ v'.ownBlock = some w.heap.size) → wpList Tryd.prog ops Q rest (a.put o.dst v') w') :
    wpList Tryd.prog ops Q (o :: rest) a w := by
  obtain ⟨i0, hi, hz0, hz1, hz2⟩ := info_parts info_int
  obtain ⟨ad, c, rfl, h1, h2, h3⟩ := hu
  by_cases hn : ys = []
  · subst hn
    refine wpList_plain hgd fun K hK => ?_
    have hrun := run_append_no (P := Tryd.prog) (w := w) base 31 o.type 3 i0 1 Tryd.underlying31 hi v xs.length _ hown ad c
    have hx' : a.eval x = .slice ad 0 c := hx
    unfold Oper.wp
    simp [execOp, ho, resolve, invoke, builtin, hs, hx', hrun, Result.andThen]
    exact hK _ _ (h v w (by simpa using hown) (World.grownBy.refl _ _) (.inl rfl))
  · obtain ⟨y, rfl, hy, hc⟩ := h3 hn
    refine wpList_append_lies w hgd s x 31 ho base 3 i0 (.int .i64 0) 1 8 Tryd.underlying31 hi hz0 hz1 hz2 rfl (by decide) v xs.length _ hs hown y ys.length c (ys.map (Value.int .i64)) hx (by simp) ?_ ?_ (List.length_pos_iff.2 hn) (by unfold maxLen; omega) (by omega) hbase _ rfl ?_
    · intro j u hj
      rw [List.getElem?_map] at hj
      cases hd : ys[j]? with
      | none => rw [hd] at hj; cases hj
      | some d => rw [hd] at hj; cases hj; exact hc j d hd
    · exact ints_oneCell _ _
    · intro g cap w' k1 k2 k3 _
      refine h _ w' ?_ k2 ?_
      · unfold Ow
        rw [List.length_append, List.map_append]
        exact k1
      · rcases k3 with k3 | k3
        · exact .inl k3.symm
        · exact .inr (by rw [k3]; rfl)
end Go.Proofs.YtamgjhehnblbgaaDoor

namespace Go.Proofs.YtamgjhehnblbgaaDoor
open Go.RowKit
set_option linter.unusedVariables false

/-- any. -/
theorem Ro.lit {w : World} {z : Nat} (xs : List Int) (cs : Array Value) (hc : cs.toList = xs.map (Value.int .i64)) (hl : xs.length ≤ 1000) (hz : w.heap.size = z) : Ro (w.alloc (.cells cs 3)) (.slice (some ⟨z, 0, none⟩) xs.length xs.length) xs := by
  subst hz
  refine ⟨_, xs.length, rfl, Nat.le_refl _, by omega, fun _ => ⟨_, rfl, by simp, fun i d hd => ?_⟩⟩
  rw [Addr.add_lit, Nat.zero_add]
  have hh := heap_alloc_new w (.cells cs 3)
  simp only [World.cell?, hh]
  rw [← Array.getElem?_toList, hc, List.getElem?_map, hd]
  rfl
end Go.Proofs.YtamgjhehnblbgaaDoor

namespace Go.Proofs.YtamgjhehnblbgaaDoor
open Go.RowKit
set_option linter.unusedVariables false

/-- up to which list they are there. -/
def nums1 (W : WV) : Nat → List Int
  | 0 => [W.turn, W.next, W.wide, W.high]
  | 1 => [W.turn, W.next, W.wide, W.high] ++ ((W.gs.length : Int) :: W.gs)
  | 2 => [W.turn, W.next, W.wide, W.high] ++ ((W.gs.length : Int) :: W.gs) ++ ((W.os.length : Int) :: W.os)
  | _ => [W.turn, W.next, W.wide, W.high] ++ ((W.gs.length : Int) :: W.gs) ++ ((W.os.length : Int) :: W.os) ++ ((W.gold.length : Int) :: W.gold)
def nums2 (W : WV) (k : Nat) : List Int := nums1 W 3 ++ ((W.us.length : Int) :: (W.us.take k).flatMap Wd.unums)
def nums3 (W : WV) (k : Nat) : List Int := nums2 W W.us.length ++ ((W.qs.length : Int) :: (W.qs.take k).flatMap Wd.jnums)
theorem nums3_all (W : WV) : nums3 W W.qs.length = Wd.nums W := by
  simp [nums3, nums2, nums1, Wd.nums]
structure WSmall (W : WV) : Prop where
  g : W.gs.length ≤ 1048576
  o : W.os.length ≤ 1048576
  p : W.gold.length ≤ 1048576
  u : W.us.length ≤ 1048576
  q : W.qs.length ≤ 1048576
theorem nums1_len {W : WV} (h : WSmall W) (k : Nat) : (nums1 W k).length ≤ 4000000 := by
  obtain ⟨h1, h2, h3, h4, h5⟩ := h
  match k with
  | 0 => simp [nums1]
  | 1 => simp [nums1]; omega
  | 2 => simp [nums1]; omega
  | _ + 3 => simp [nums1]; omega
theorem flat_len {α : Type} {f : α → List Int} {n : Nat} (hf : ∀ x, (f x).length = n) : ∀ l : List α, (l.flatMap f).length = n * l.length
  | [] => by simp
  | x :: l => by rw [List.flatMap_cons, List.length_append, flat_len hf l, hf, List.length_cons, Nat.mul_add]; omega
theorem nums2_len {W : WV} (h : WSmall W) (k : Nat) : (nums2 W k).length ≤ 13000000 := by
  have h1 := nums1_len h 3
  have h2 := h.u
  unfold nums2
  rw [List.length_append, List.length_cons, flat_len (n := 8) (fun x => rfl), List.length_take]
  omega
theorem nums3_len {W : WV} (h : WSmall W) (k : Nat) : (nums3 W k).length ≤ 18000000 := by
  have h1 := nums2_len h W.us.length
  have h2 := h.q
  unfold nums3
  rw [List.length_append, List.length_cons, flat_len (n := 4) (fun x => rfl), List.length_take]
  omega
theorem nums2_next {W : WV} {k : Nat} {u : UnV} (h : W.us[k]? = some u) : nums2 W (k + 1) = nums2 W k ++ Wd.unums u := by
  obtain ⟨hi, e⟩ := List.getElem?_eq_some_iff.1 h
  unfold nums2
  rw [List.take_succ_eq_append_getElem hi, List.flatMap_append, e]
  simp
theorem nums3_next {W : WV} {k : Nat} {u : JbV} (h : W.qs[k]? = some u) : nums3 W (k + 1) = nums3 W k ++ Wd.jnums u := by
  obtain ⟨hi, e⟩ := List.getElem?_eq_some_iff.1 h
  unfold nums3
  rw [List.take_succ_eq_append_getElem hi, List.flatMap_append, e]
  simp
theorem Bw.grown {w w' : World} {z : Nat} {W : WV} {u1 u2 u3 u4 u5 : Value} {row : Option Nat} (h : Bw w z W u1 u2 u3 u4 u5) (hg : w.grownBy w' row) (hr : ∀ k, row = some k → z < k) : Bw w' z W u1 u2 u3 u4 u5 :=
  h.below (n := z + 1) ((Below.refl _ _).grown hg h.lt (fun k hk => hr k hk)) (Nat.lt_succ_self _)
theorem cell_of_new {w : World} {z i : Nat} {cs : Array Value} {T : TypeId} {v : Value} (hz : w.heap.size = z) (hv : cs[i]? = some v) : (w.alloc (.cells cs T)).cell? ⟨z, i, none⟩ = some v := by
  subst hz
  simp only [World.cell?, heap_alloc_new]
  simpa using hv
/-- what is there as long as lists are written. -/
structure Nm1 (w : World) (W : WV) (u1 u2 u3 u4 u5 : Value) (zl : Nat) (lv : Value) (l : List Int) (W' : World) : Prop where
  o : Ow W' (w.heap.size + 2) lv l
  ne : lv.ownBlock ≠ some zl
  b : Bw W' w.heap.size W u1 u2 u3 u4 u5
  c0 : W'.cell? ⟨zl, 0, none⟩ = some u1
  c1 : W'.cell? ⟨zl, 1, none⟩ = some u2
  c2 : W'.cell? ⟨zl, 2, none⟩ = some u3
  bl : Below w.heap.size w W'
theorem Nm1.step {w : World} {W : WV} {u1 u2 u3 u4 u5 : Value} {zl : Nat} {lv lv' : Value} {l l' : List Int} {W' W'' X : World} (h : Nm1 w W u1 u2 u3 u4 u5 zl lv l W') (hX1 : Below W'.heap.size W' X) (hg : X.grownBy W'' lv.ownBlock) (ho : Ow W'' (w.heap.size + 2) lv' l') (hb : lv'.ownBlock = lv.ownBlock ∨ lv'.ownBlock = some X.heap.size) : Nm1 w W u1 u2 u3 u4 u5 zl lv' l' W'' := by
  have hzl : zl < W'.heap.size := cell_lt h.c0
  have hXs := hX1.size
  have hob : ∀ k, lv.ownBlock = some k → w.heap.size + 2 ≤ k := fun k hk => (h.o.block k hk).1
  have far : ∀ p : Addr, p.block < W'.heap.size → some p.block ≠ lv.ownBlock → W''.cell? p = W'.cell? p := fun p hp hne => by
    rw [hg.cell_far p (by omega) hne, hX1.cell hp]
  have lz := h.b.lt
  have bw : Below w.heap.size w W'' := (h.bl.trans (hX1.mono (by omega))).grown hg (by omega) (fun k hk => by have := hob k hk; omega)
  refine ⟨ho, ?_, (h.b.below hX1 h.b.lt).grown hg (fun k hk => by have := hob k hk; omega), ?_, ?_, ?_, bw⟩
  · rcases hb with hb | hb
    · rw [hb]; exact h.ne
    · rw [hb]; intro e; injection e with e; omega
  · rw [far ⟨zl, 0, none⟩ hzl (fun e => h.ne e.symm)]; exact h.c0
  · rw [far ⟨zl, 1, none⟩ hzl (fun e => h.ne e.symm)]; exact h.c1
  · rw [far ⟨zl, 2, none⟩ hzl (fun e => h.ne e.symm)]; exact h.c2
theorem own_is {v : Value} {g n cap z : Nat} (h : v.ownBlock = some g ∨ g = z) : (Value.slice (some ⟨g, 0, none⟩) n cap).ownBlock = v.ownBlock ∨ (Value.slice (some ⟨g, 0, none⟩) n cap).ownBlock = some z := by
  rcases h with h | h
  · exact .inl (by rw [h]; rfl)
  · exact .inr (by rw [h]; rfl)
theorem Wl.slices {w : World} {W : WV} {u1 u2 u3 u4 u5 : Value} (h : Wl w (.agg #[.int .i64 W.turn, .int .i64 W.next, .int .i64 W.wide, .int .i64 W.high, u1, u2, u3, u4, u5]) W) : Ro w u1 W.gs ∧ Ro w u2 W.os ∧ Ro w u3 W.gold ∧ Unl w u4 W.us ∧ Jbl w u5 W.qs := by
  obtain ⟨v1, v2, v3, v4, v5, ev, r⟩ := h
  simp only [Value.agg.injEq, Array.mk.injEq, List.cons.injEq, and_true, true_and] at ev
  obtain ⟨rfl, rfl, rfl, rfl, rfl⟩ := ev
  exact r
end Go.Proofs.YtamgjhehnblbgaaDoor

namespace Go.Proofs.YtamgjhehnblbgaaDoor
open Go.RowKit
set_option linter.unusedVariables false

theorem wwithin_any (x lo hi : Int) (w : World) : Calls Tryd.prog 43 #[.int .i64 x, .int .i64 lo, .int .i64 hi] w fun e w' => e = .returned (.bool (decide (lo ≤ x ∧ x ≤ hi))) ∧ w' = w := by
  by_cases h1 : lo ≤ x
  · by_cases h2 : x ≤ hi
    · go_enter Tryd.func43, Tryd.ntmps43
      go_wp2
      go_ret
      refine ⟨?_, rfl⟩
      rw [decide_eq_true ⟨h1, h2⟩]
      rfl
    · go_enter Tryd.func43, Tryd.ntmps43
      go_wp2
      go_ret
      refine ⟨?_, rfl⟩
      rw [decide_eq_false (by omega)]
      rfl
  · go_enter Tryd.func43, Tryd.ntmps43
    go_wp2
    go_ret
    refine ⟨?_, rfl⟩
    rw [decide_eq_false (by omega)]
    rfl
end Go.Proofs.YtamgjhehnblbgaaDoor

namespace Go.Proofs.YtamgjhehnblbgaaDoor
open Go.RowKit
set_option linter.unusedVariables false

theorem any_next {p : Int → Bool} {xs : List Int} {k : Nat} (h : k < xs.length) : (xs.take (k + 1)).any p = ((xs.take k).any p || p xs[k]) := by
  rw [List.take_succ_eq_append_getElem h, List.any_append]
  simp

/-- r is where the first is; -1: there is none. -/
def Fst (p : Int → Bool) (xs : List Int) (r : Int) : Prop := (r = -1 ∧ xs.any p = false) ∨ ∃ (k : Nat) (x : Int), r = k ∧ xs[k]? = some x ∧ p x = true ∧ (xs.take k).any p = false

set_option maxHeartbeats 1000000 in
theorem idxf_any (K : Nat) (eK : ∀ args w, (callFunc K args).run Tryd.prog w = .ok (.enter K args) w) (u : Value) (cs : Array Value) (xs : List Int) (p : Int → Bool) (w : World) (hu : Ro w u xs)
    (hp : ∀ m, ∀ x ∈ xs, Calls Tryd.prog K (#[.int .i64 x] ++ cs) (w.drewN m) fun e w' => e = .returned (.bool (p x)) ∧ ∃ q, w' = w.drewN q) :
    Calls Tryd.prog 56 #[u, .func (Fn.func K) #[] cs] w fun e w' => ∃ r : Int, e = .returned (.int .i64 r) ∧ Fst p xs r ∧ ∃ q, w' = w.drewN q := by
  obtain ⟨a, c, rfl, c1, c2, ca⟩ := hu
  have Ca : Hid (Cells w a xs) := ca
  have Hp : Hid (∀ m, ∀ x ∈ xs, Calls Tryd.prog K (#[.int .i64 x] ++ cs) (w.drewN m) fun e w' => e = .returned (.bool (p x)) ∧ ∃ q, w' = w.drewN q) := hp
  clear ca hp
  go_enter Tryd.func56, Tryd.ntmps56
  go_wp2
  go_loopw [8] (fun i W' => ∃ k q : Nat, k ≤ xs.length ∧ i = .int .i64 (k : Nat) ∧ (xs.take k).any p = false ∧ W' = w.drewN q) (fun i _ => xs.length - (intOf i).toNat)
  case atStart => exact ⟨0, 0, Nat.zero_le _, rfl, by simp, rfl⟩
  case round =>
    obtain ⟨k, q, hk, rfl, ht, rfl⟩ := hrel
    have Ht : Hid ((xs.take k).any p = false) := ht
    clear ht
    by_cases h0 : k = xs.length
    · subst h0
      go_wp2
      go_ret
      refine ⟨_, rfl, .inl ⟨rfl, ?_⟩, _, rfl⟩
      have := Ht.out
      rw [List.take_of_length_le (Nat.le_refl _)] at this
      exact this
    · have hkx : k < xs.length := by omega
      obtain ⟨x, rfl, -, hx⟩ := Ca.out (by intro h; rw [h] at hkx; simp at hkx)
      have cx : (w.drewN q).cell? (x.add k) = some (.int .i64 xs[k]) := hx k xs[k] (List.getElem?_eq_getElem hkx)
      have hc := Hp.out q xs[k] (List.getElem_mem hkx)
      have Hs : Hid _ := any_next (p := p) hkx
      have Hm : Hid (xs[k]? = some xs[k]) := List.getElem?_eq_getElem hkx
      generalize xs[k] = y at *
      generalize w.drewN q = w1 at *
      clear hx
      cases hy : p y with
      | true =>
        rw [hy] at hc
        have Hc : Hid (Calls Tryd.prog K (#[.int .i64 y] ++ cs) w1 fun e w' => e = .returned (.bool true) ∧ ∃ q, w' = w.drewN q) := hc
        have Hy : Hid (p y = true) := hy
        clear hc hy
        go_wp2_with fail
        refine Calls.mono Hc.out ?_
        rintro e w1 ⟨rfl, q1, rfl⟩
        go_wp2
        go_ret
        exact ⟨_, rfl, .inr ⟨k, y, rfl, Hm, Hy, Ht⟩, q1, rfl⟩
      | false =>
        rw [hy] at hc
        have Hc : Hid (Calls Tryd.prog K (#[.int .i64 y] ++ cs) w1 fun e w' => e = .returned (.bool false) ∧ ∃ q, w' = w.drewN q) := hc
        have Hy : Hid (p y = false) := hy
        clear hc hy
        go_wp2_with fail
        refine Calls.mono Hc.out ?_
        rintro e w1 ⟨rfl, q1, rfl⟩
        go_wp2
        go_round
        case rel => exact ⟨k + 1, q1, by omega, by go_num, by have := Hs.out; rw [Ht.out, Hy.out] at this; exact this, rfl⟩
        case measure => simp [intOf]; omega

theorem Fst.has {p : Int → Bool} {xs : List Int} {r : Int} (h : Fst p xs r) : decide (0 ≤ r) = xs.any p := by
  rcases h with ⟨rfl, h⟩ | ⟨k, x, rfl, h1, h2, _⟩
  · rw [h]; decide
  · rw [decide_eq_true (by omega)]
    exact (List.any_eq_true.2 ⟨x, List.mem_of_getElem? h1, h2⟩).symm

set_option maxHeartbeats 1000000 in
theorem hasf_any (K : Nat) (eK : ∀ args w, (callFunc K args).run Tryd.prog w = .ok (.enter K args) w) (u : Value) (cs : Array Value) (xs : List Int) (p : Int → Bool) (w : World) (hu : Ro w u xs)
    (hp : ∀ m, ∀ x ∈ xs, Calls Tryd.prog K (#[.int .i64 x] ++ cs) (w.drewN m) fun e w' => e = .returned (.bool (p x)) ∧ ∃ q, w' = w.drewN q) :
    Calls Tryd.prog 44 #[u, .func (Fn.func K) #[] cs] w fun e w' => e = .returned (.bool (xs.any p)) ∧ ∃ q, w' = w.drewN q := by
  have H := idxf_any K eK u cs xs p w hu hp
  have H' : Hid (Calls Tryd.prog 56 #[u, .func (Fn.func K) #[] cs] w fun e w' => ∃ r : Int, e = .returned (.int .i64 r) ∧ Fst p xs r ∧ ∃ q, w' = w.drewN q) := H
  clear H hp
  go_enter Tryd.func44, Tryd.ntmps44
  go_wp2_with fail
  refine Calls.mono H'.out ?_
  rintro e w1 ⟨r, rfl, hr, q, rfl⟩
  have Hr : Hid (decide (0 ≤ r) = xs.any p) := hr.has
  clear hr
  go_wp2
  go_ret
  exact ⟨by show Ending.returned (.bool (decide (0 ≤ r))) = _; rw [Hr.out], q, rfl⟩
end Go.Proofs.YtamgjhehnblbgaaDoor

namespace Go.Proofs.YtamgjhehnblbgaaDoor
open Go.RowKit
set_option linter.unusedVariables false

theorem FstU.one {p : UnV → Bool} {us : List UnV} {r r' : Int} (h : FstU p us r) (h' : FstU p us r') : r = r' := by
  rcases h with ⟨rfl, h1⟩ | ⟨k, x, rfl, h1, h2, h3⟩
  · rcases h' with ⟨rfl, _⟩ | ⟨k, x, rfl, g1, g2, g3⟩
    · rfl
    · have : us.any p = true := List.any_eq_true.2 ⟨x, List.mem_of_getElem? g1, g2⟩
      rw [h1] at this; cases this
  · rcases h' with ⟨rfl, g⟩ | ⟨k', x', rfl, g1, g2, g3⟩
    · have : us.any p = true := List.any_eq_true.2 ⟨x, List.mem_of_getElem? h1, h2⟩
      rw [g] at this; cases this
    · rcases Nat.lt_trichotomy k k' with hl | hl | hl
      · have : (us.take k').any p = true := List.any_eq_true.2 ⟨x, List.mem_of_getElem? (by rw [List.getElem?_take, if_pos hl]; exact h1), h2⟩
        rw [g3] at this; cases this
      · rw [hl]
      · have : (us.take k).any p = true := List.any_eq_true.2 ⟨x', List.mem_of_getElem? (by rw [List.getElem?_take, if_pos hl]; exact g1), g2⟩
        rw [h3] at this; cases this
set_option maxHeartbeats 1000000 in
theorem fid_any (u : UnV) (id : Int) (b : Nat) (w : World) (hc : w.cell? ⟨b, 0, none⟩ = some (.int .i64 id)) :
    Calls Tryd.prog 59 #[u.val, .pointer (some ⟨b, 0, none⟩)] w fun e w' => e = .returned (.bool (u.id == id)) ∧ Below w.heap.size w w' := by
  have hb : b < w.heap.size := cell_lt hc
  have hne : b ≠ w.heap.size := by omega
  unfold UnV.val
  go_enter Tryd.func59, Tryd.ntmps59
  go_wp2
  go_ret
  exact ⟨rfl, (Below.refl _ _).alloc (Nat.le_refl _) _⟩
set_option maxHeartbeats 1000000 in
theorem wfind_any (v : Value) (W : WV) (id : Int) (w : World) (h : Wl w v W) :
    Calls Tryd.prog 48 #[v, .int .i64 id] w fun e w' => ∃ r : Int, e = .returned (.int .i64 r) ∧ FstU (fun u => u.id == id) W.us r ∧ Below w.heap.size w w' := by
  have H : Hid (Wl w v W) := h
  obtain ⟨u1, u2, u3, u4, u5, rfl, -, -, -, h4, -⟩ := h
  have U : Hid (Unl w u4 W.us) := h4
  clear h4
  go_enter Tryd.func48, Tryd.ntmps48
  go_wp2_with fail
  have B0 : Hid (Below w.heap.size w ((w.alloc (Obj.cells #[.int .i64 W.turn, .int .i64 W.next, .int .i64 W.wide, .int .i64 W.high, u1, u2, u3, u4, u5] 37)).alloc (Obj.cells #[.int .i64 id] 3))) := ((Below.refl _ _).alloc (Nat.le_refl _) _).alloc (by simp) _
  have C0 : Hid (((w.alloc (Obj.cells #[.int .i64 W.turn, .int .i64 W.next, .int .i64 W.wide, .int .i64 W.high, u1, u2, u3, u4, u5] 37)).alloc (Obj.cells #[.int .i64 id] 3)).cell? ⟨w.heap.size + 1, 0, none⟩ = some (.int .i64 id)) := cell_of_new (by simp) rfl
  generalize ((w.alloc (Obj.cells #[.int .i64 W.turn, .int .i64 W.next, .int .i64 W.wide, .int .i64 W.high, u1, u2, u3, u4, u5] 37)).alloc (Obj.cells #[.int .i64 id] 3)) = w0 at *
  refine (idxu_any 59 (by intro args w; go_simp) u4 #[.pointer (some ⟨w.heap.size + 1, 0, none⟩)] W.us (fun u => u.id == id) w0 (U.out.below B0.out) (fun V hV k => fid_any k id (w.heap.size + 1) V (by rw [hV.cell (p := ⟨w.heap.size + 1, 0, none⟩) (cell_lt C0.out)]; exact C0.out))).mono ?_
  rintro e w1 ⟨r, rfl, hf, hb⟩
  have F : Hid (FstU (fun u => u.id == id) W.us r ∧ Below w.heap.size w w1) := ⟨hf, B0.out.trans (hb.mono B0.out.size)⟩
  clear hf hb
  go_wp2
  go_ret
  exact ⟨r, rfl, F.out.1, F.out.2⟩
set_option maxHeartbeats 1000000 in
theorem isone_ints (a : Option Addr) (n c : Nat) (i : Int) (w : World) (hn : n ≤ 9223372036854775807) :
    Calls Tryd.prog 45 #[.slice a n c, .int .i64 i] w fun e w' => e = .returned (.bool (decide (0 ≤ i ∧ i < (n : Int)))) ∧ w' = w := by
  have hw : IntKind.i64.wrap ((n : Int) - 1) = (n : Int) - 1 := by rw [IntKind.wrap_i64]; omega
  go_enter Tryd.func45, Tryd.ntmps45
  go_wp2_with fail
  refine (wwithin_any i 0 ((n : Int) - 1) w).mono ?_
  rintro e w1 ⟨rfl, rfl⟩
  have E : decide (0 ≤ i ∧ i ≤ (n : Int) - 1) = decide (0 ≤ i ∧ i < (n : Int)) := decide_eq_decide.2 ⟨fun h => by omega, fun h => by omega⟩
  rw [E]
  obtain ⟨b, hb⟩ : ∃ b, decide (0 ≤ i ∧ i < (n : Int)) = b := ⟨_, rfl⟩
  rw [hb]
  have HB : Hid (decide (0 ≤ i ∧ i < (n : Int)) = b) := hb
  clear hb E
  go_wp2
  go_ret
  exact ⟨by rw [HB.out]; rfl, rfl⟩
set_option maxHeartbeats 1000000 in
theorem isone_kinds (a : Option Addr) (n c : Nat) (i : Int) (w : World) (hn : n ≤ 9223372036854775807) :
    Calls Tryd.prog 46 #[.slice a n c, .int .i64 i] w fun e w' => e = .returned (.bool (decide (0 ≤ i ∧ i < (n : Int)))) ∧ w' = w := by
  have hw : IntKind.i64.wrap ((n : Int) - 1) = (n : Int) - 1 := by rw [IntKind.wrap_i64]; omega
  go_enter Tryd.func46, Tryd.ntmps46
  go_wp2_with fail
  refine (wwithin_any i 0 ((n : Int) - 1) w).mono ?_
  rintro e w1 ⟨rfl, rfl⟩
  have E : decide (0 ≤ i ∧ i ≤ (n : Int) - 1) = decide (0 ≤ i ∧ i < (n : Int)) := decide_eq_decide.2 ⟨fun h => by omega, fun h => by omega⟩
  rw [E]
  obtain ⟨b, hb⟩ : ∃ b, decide (0 ≤ i ∧ i < (n : Int)) = b := ⟨_, rfl⟩
  rw [hb]
  have HB : Hid (decide (0 ≤ i ∧ i < (n : Int)) = b) := hb
  clear hb E
  go_wp2
  go_ret
  exact ⟨by rw [HB.out]; rfl, rfl⟩
end Go.Proofs.YtamgjhehnblbgaaDoor

namespace Go.Proofs.YtamgjhehnblbgaaDoor
open Go.RowKit

set_option maxHeartbeats 400000 in
theorem fin_any (x a b : Int) (w : World) :
    Calls Tryd.prog 54 #[.int .i64 x, .int .i64 a, .int .i64 b] w fun e w' => e = .returned (.bool (decide (a ≤ x ∧ x ≤ b))) ∧ w' = w := by
  by_cases h1 : a ≤ x
  · by_cases h2 : x ≤ b
    · go_enter Tryd.func54, Tryd.ntmps54
      go_wp2
      go_ret
      exact ⟨by simp [h1, h2], rfl⟩
    · go_enter Tryd.func54, Tryd.ntmps54
      go_wp2
      go_ret
      exact ⟨by simp; omega, rfl⟩
  · go_enter Tryd.func54, Tryd.ntmps54
    go_wp2
    go_ret
    exact ⟨by simp; omega, rfl⟩
theorem fin_yes (x a b : Int) (w : World) (h1 : a ≤ x) (h2 : x ≤ b) :
    Calls Tryd.prog 54 #[.int .i64 x, .int .i64 a, .int .i64 b] w fun e w' => e = .returned (.bool true) ∧ w' = w :=
  (fin_any x a b w).mono fun e w' ⟨h, hw⟩ => ⟨by rw [h, decide_eq_true ⟨h1, h2⟩], hw⟩
theorem fin_no (x a b : Int) (w : World) (h : x < a ∨ b < x) :
    Calls Tryd.prog 54 #[.int .i64 x, .int .i64 a, .int .i64 b] w fun e w' => e = .returned (.bool false) ∧ w' = w :=
  (fin_any x a b w).mono fun e w' ⟨h', hw⟩ => ⟨by rw [h', decide_eq_false (by omega)], hw⟩

set_option maxHeartbeats 400000 in
theorem cell_any (g o : Int) (w : World) :
    Calls Tryd.prog 55 #[.int .i64 g, .int .i64 o] w fun e w' => ∃ v, e = .returned v ∧ Er v (Fd.cellFault g o) ∧ w' = w := by
  unfold Fd.cellFault
  by_cases h1 : 0 ≤ g ∧ g ≤ 3
  · obtain ⟨h1a, h1b⟩ := h1
    by_cases h2 : 0 ≤ o ∧ o ≤ 1000000
    · obtain ⟨h2a, h2b⟩ := h2
      rw [if_neg (by omega)]
      by_cases h3 : 0 < o
      · by_cases h4 : g = 0
        · subst h4
          rw [if_neg (by omega)]
          go_enter Tryd.func55, Tryd.ntmps55
          go_wp2_with (go_at_call 54; refine (fin_yes _ _ _ _ (by omega) (by omega)).mono ?_; rintro e w' ⟨rfl, rfl⟩)
          go_ret
          exact ⟨_, rfl, Er.nil, rfl⟩
        · rw [if_pos ⟨h3, h4⟩]
          go_enter Tryd.func55, Tryd.ntmps55
          go_wp2_with (go_at_call 54; refine (fin_yes _ _ _ _ (by omega) (by omega)).mono ?_; rintro e w' ⟨rfl, rfl⟩)
          go_ret
          exact ⟨_, rfl, Er.no (by decide), rfl⟩
      · rw [if_neg (by omega)]
        go_enter Tryd.func55, Tryd.ntmps55
        go_wp2_with (go_at_call 54; refine (fin_yes _ _ _ _ (by omega) (by omega)).mono ?_; rintro e w' ⟨rfl, rfl⟩)
        go_ret
        exact ⟨_, rfl, Er.nil, rfl⟩
    · rw [if_pos (by omega)]
      have h2' : o < 0 ∨ 1000000 < o := by omega
      clear h2
      go_enter Tryd.func55, Tryd.ntmps55
      go_wp2_with fail
      refine (fin_yes _ _ _ _ (by omega) (by omega)).mono ?_
      rintro e w' ⟨rfl, rfl⟩
      go_wp2_with fail
      refine (fin_no _ _ _ _ h2').mono ?_
      rintro e w' ⟨rfl, rfl⟩
      go_wp2
      go_ret
      exact ⟨_, rfl, Er.no (by decide), rfl⟩
  · rw [if_pos (by omega)]
    have h1' : g < 0 ∨ 3 < g := by omega
    clear h1
    go_enter Tryd.func55, Tryd.ntmps55
    go_wp2_with fail
    refine (fin_no _ _ _ _ h1').mono ?_
    rintro e w' ⟨rfl, rfl⟩
    go_wp2
    go_ret
    exact ⟨_, rfl, Er.no (by decide), rfl⟩
theorem cell_ok (g o : Int) (w : World) (h : Fd.cellFault g o = 0) :
    Calls Tryd.prog 55 #[.int .i64 g, .int .i64 o] w fun e w' => e = .returned .nilIface ∧ w' = w := by
  refine (cell_any g o w).mono ?_
  rintro e w' ⟨v, rfl, hv, rfl⟩
  rcases hv with ⟨_, rfl⟩ | ⟨hn, _⟩
  · exact ⟨rfl, rfl⟩
  · exact absurd h hn
theorem cell_bad (g o f : Int) (w : World) (h : Fd.cellFault g o = f) (hf : f ≠ 0) :
    Calls Tryd.prog 55 #[.int .i64 g, .int .i64 o] w fun e w' => e = .returned (.iface 50 (.int .i64 f)) ∧ w' = w := by
  refine (cell_any g o w).mono ?_
  rintro e w' ⟨v, rfl, hv, rfl⟩
  rw [h] at hv
  rcases hv with ⟨hn, _⟩ | ⟨_, rfl⟩
  · exact absurd hn hf
  · exact ⟨rfl, rfl⟩
end Go.Proofs.YtamgjhehnblbgaaDoor

namespace Go.Proofs.YtamgjhehnblbgaaDoor
open Go.RowKit
set_option linter.unusedVariables false

/-- v is a field of Ground gs and Ore os. -/
def Fl (w : World) (v : Value) (W H : Int) (gs os : List Int) : Prop := ∃ u1 u2, v = .agg #[.int .i64 W, .int .i64 H, u1, u2] ∧ Ro w u1 gs ∧ Ro w u2 os
theorem Fl.below {w w' : World} {v : Value} {W H : Int} {gs os : List Int} (h : Fl w v W H gs os) (hb : Below w.heap.size w w') : Fl w' v W H gs os := by
  obtain ⟨u1, u2, h1, h2, h3⟩ := h
  exact ⟨u1, u2, h1, h2.below hb, h3.below hb⟩

/-- a field in a box. -/
structure Bf (w : World) (z : Nat) (W H : Int) (u1 u2 : Value) : Prop where
  c0 : w.cell? ⟨z, 0, none⟩ = some (.int .i64 W)
  c1 : w.cell? ⟨z, 1, none⟩ = some (.int .i64 H)
  c2 : w.cell? ⟨z, 2, none⟩ = some u1
  c3 : w.cell? ⟨z, 3, none⟩ = some u2
theorem Bf.lt {w : World} {z : Nat} {W H : Int} {u1 u2 : Value} (h : Bf w z W H u1 u2) : z < w.heap.size := cell_lt h.c0
theorem Bf.below {w w' : World} {z n : Nat} {W H : Int} {u1 u2 : Value} (h : Bf w z W H u1 u2) (hb : Below n w w') (hn : z < n) : Bf w' z W H u1 u2 :=
  ⟨by rw [hb.cell (p := ⟨z, 0, none⟩) hn]; exact h.c0, by rw [hb.cell (p := ⟨z, 1, none⟩) hn]; exact h.c1, by rw [hb.cell (p := ⟨z, 2, none⟩) hn]; exact h.c2, by rw [hb.cell (p := ⟨z, 3, none⟩) hn]; exact h.c3⟩
theorem Bf.drewN {w : World} {z : Nat} {W H : Int} {u1 u2 : Value} (h : Bf w z W H u1 u2) (n : Nat) : Bf (w.drewN n) z W H u1 u2 := h.below (_root_.Go.below_drewN (Below.refl _ _) n) h.lt
theorem Bf.mk' {w : World} {z : Nat} (W H : Int) (u1 u2 : Value) (hz : w.heap.size = z) : Bf (w.alloc (.cells #[.int .i64 W, .int .i64 H, u1, u2] 33)) z W H u1 u2 := by
  subst hz
  exact ⟨by simp, by simp, by simp, by simp⟩

set_option maxHeartbeats 1000000 in
theorem check_cells (a b : Option Addr) (c d : Nat) (W H : Int) (gs os : List Int) (w : World) (w1 : 1 ≤ W) (w2 : W ≤ 12) (h1 : 1 ≤ H) (h2 : H ≤ 12) (hg : (gs.length : Int) = W * H) (ho : (os.length : Int) = W * H)
    (c1 : gs.length ≤ c) (c2 : c ≤ 9223372036854775807) (d1 : os.length ≤ d) (d2 : d ≤ 9223372036854775807) (ha : Cells w a gs) (hb : Cells w b os) :
    Calls Tryd.prog 41 #[.agg #[.int .i64 W, .int .i64 H, .slice a gs.length c, .slice b os.length d]] w fun e w' => ∃ v, e = .returned v ∧ Er v (Fd.cellsFault gs os) ∧ Below w.heap.size w w' := by
  have Ha : Hid (Cells w a gs) := ha
  have Hb : Hid (Cells w b os) := hb
  have hn : W * H ≤ 144 := by
    have := Int.mul_le_mul w2 h2 (by omega) (by omega)
    omega
  have Ho : Hid (os.length = gs.length) := by unfold Hid; omega
  have e1 : W * H = (gs.length : Int) := by omega
  have e2 : os.length = gs.length := Ho.out
  clear ha hb
  rw [e2] at d1 ⊢
  clear hg ho e2
  generalize hw0 : w.alloc (Obj.cells #[.int .i64 W, .int .i64 H, .slice a gs.length c, .slice b gs.length d] 33) = w0
  have B0 : Hid (Below w.heap.size w w0) := by rw [← hw0]; exact (Below.refl _ _).alloc (Nat.le_refl _) _
  have f0 : w0.cell? ⟨w.heap.size, 2, none⟩ = some (.slice a gs.length c) := by rw [← hw0]; simp
  have f1 : w0.cell? ⟨w.heap.size, 3, none⟩ = some (.slice b gs.length d) := by rw [← hw0]; simp
  have Hw : Hid (w.alloc (Obj.cells #[.int .i64 W, .int .i64 H, .slice a gs.length c, .slice b gs.length d] 33) = w0) := hw0
  clear hw0
  have Ca : Hid (Cells w0 a gs) := Ha.out.below B0.out
  have Cb : Hid (Cells w0 b os) := Hb.out.below B0.out
  clear Ha Hb
  go_enter Tryd.func41, Tryd.ntmps41
  go_wp2_with (go_at_call 54; refine (fin_yes _ _ _ _ (by omega) (by omega)).mono ?_; rintro e w' ⟨rfl, rfl⟩)
  rw [Hw.out]
  go_loopw [36] (fun i W' => ∃ (k q : Nat), k ≤ gs.length ∧ i = .int .i64 (k : Nat) ∧ Fd.cellsFault (gs.drop k) (os.drop k) = Fd.cellsFault gs os ∧ W' = w0.drewN q) (fun i _ => gs.length - (intOf i).toNat)
  case atStart => exact ⟨0, 0, Nat.zero_le _, rfl, by simp, rfl⟩
  case round =>
    obtain ⟨k, q, hk, rfl, hf, rfl⟩ := hrel
    have Hf : Hid (Fd.cellsFault (gs.drop k) (os.drop k) = Fd.cellsFault gs os) := hf
    clear hf
    by_cases h0 : k = gs.length
    · subst h0
      go_wp2
      go_ret
      refine ⟨_, rfl, ?_, _root_.Go.below_drewN B0.out q⟩
      rw [← Hf.out, List.drop_of_length_le (Nat.le_refl _)]
      exact Er.nil
    · have hkx : k < gs.length := by omega
      have hky : k < os.length := by rw [Ho.out]; exact hkx
      obtain ⟨x, rfl, -, hx⟩ := Ca.out (by intro h; rw [h] at hkx; simp at hkx)
      obtain ⟨y, rfl, -, hy⟩ := Cb.out (by intro h; rw [h] at hky; simp at hky)
      have cx := hx k gs[k] (List.getElem?_eq_getElem hkx)
      have cy := hy k os[k] (List.getElem?_eq_getElem hky)
      have Te := Fd.cellsFault_drop gs os k gs[k] os[k] (List.getElem?_eq_getElem hkx) (List.getElem?_eq_getElem hky)
      rw [Hf.out] at Te
      have HT : Hid _ := Te
      generalize gs[k] = p at *
      generalize os[k] = r at *
      clear hx hy Te
      have f0q : (w0.drewN q).cell? ⟨w.heap.size, 2, none⟩ = some (.slice (some x) gs.length c) := f0
      have f1q : (w0.drewN q).cell? ⟨w.heap.size, 3, none⟩ = some (.slice (some y) gs.length d) := f1
      have cxq : (w0.drewN q).cell? (x.add k) = some (.int .i64 p) := cx
      have cyq : (w0.drewN q).cell? (y.add k) = some (.int .i64 r) := cy
      have Bq : Hid (∀ n, Below w.heap.size w ((w0.drewN q).drewN n)) := fun n => _root_.Go.below_drewN (_root_.Go.below_drewN B0.out q) n
      have Eq : Hid (∀ n, (w0.drewN q).drewN n = w0.drewN (q + n)) := fun n => by rw [World.drewN_drewN]
      clear cx cy
      generalize w0.drewN q = wq at *
      by_cases hc : Fd.cellFault p r = 0
      · have Hc : Hid (Fd.cellFault p r = 0) := hc
        clear hc
        go_wp2
        go_quiet ((go_at_call 55; exact Calls.quiet_of_same (cell_ok _ _ _ Hc.out)))
        go_wp2
        go_round
        case rel => exact ⟨k + 1, q + nq, by omega, by go_num, by have := HT.out; rw [if_pos Hc.out] at this; exact this.symm, Eq.out _⟩
        case measure => simp [intOf]; omega
      · generalize hff : Fd.cellFault p r = ff at *
        have Hc : Hid (Fd.cellFault p r = ff) := hff
        have Hn : Hid (ff ≠ 0) := hc
        clear hc hff
        go_wp2
        go_quiet ((go_at_call 55; exact Calls.quiet_of_same (cell_bad _ _ _ _ Hc.out Hn.out)))
        go_wp2
        go_ret
        refine ⟨_, rfl, ?_, Bq.out _⟩
        rw [HT.out, if_neg Hn.out]
        exact Er.no Hn.out

set_option maxHeartbeats 1000000 in
theorem check_range (u1 u2 : Value) (W H : Int) (w : World) (h : W < 1 ∨ 12 < W ∨ H < 1 ∨ 12 < H) :
    Calls Tryd.prog 41 #[.agg #[.int .i64 W, .int .i64 H, u1, u2]] w fun e w' => e = .returned (.iface 50 (.int .i64 1)) ∧ Below w.heap.size w w' := by
  by_cases h1 : 1 ≤ W ∧ W ≤ 12
  · obtain ⟨h1a, h1b⟩ := h1
    have h2 : H < 1 ∨ 12 < H := by omega
    clear h
    go_enter Tryd.func41, Tryd.ntmps41
    go_wp2_with fail
    refine (fin_yes _ _ _ _ (by omega) (by omega)).mono ?_
    rintro e w' ⟨rfl, rfl⟩
    go_wp2_with fail
    refine (fin_no _ _ _ _ h2).mono ?_
    rintro e w' ⟨rfl, rfl⟩
    go_wp2
    go_ret
    exact ⟨rfl, (Below.refl _ _).alloc (Nat.le_refl _) _⟩
  · have h2 : W < 1 ∨ 12 < W := by omega
    clear h h1
    go_enter Tryd.func41, Tryd.ntmps41
    go_wp2_with fail
    refine (fin_no _ _ _ _ h2).mono ?_
    rintro e w' ⟨rfl, rfl⟩
    go_wp2
    go_ret
    exact ⟨rfl, (Below.refl _ _).alloc (Nat.le_refl _) _⟩

set_option maxHeartbeats 1000000 in
theorem check_shape (a b : Option Addr) (n m c d : Nat) (W H : Int) (w : World) (w1 : 1 ≤ W) (w2 : W ≤ 12) (h1 : 1 ≤ H) (h2 : H ≤ 12) (h : (n : Int) ≠ W * H ∨ (m : Int) ≠ W * H) :
    Calls Tryd.prog 41 #[.agg #[.int .i64 W, .int .i64 H, .slice a n c, .slice b m d]] w fun e w' => e = .returned (.iface 50 (.int .i64 3)) ∧ Below w.heap.size w w' := by
  have hn : W * H ≤ 144 := by
    have := Int.mul_le_mul w2 h2 (by omega) (by omega)
    omega
  have hp : 0 ≤ W * H := Int.mul_nonneg (by omega) (by omega)
  by_cases e : (n : Int) = W * H
  · have e2 : ¬ (m : Int) = W * H := by omega
    have e' : W * H = (n : Int) := e.symm
    rw [e'] at e2
    clear h e
    go_enter Tryd.func41, Tryd.ntmps41
    go_wp2_with (go_at_call 54; refine (fin_yes _ _ _ _ (by omega) (by omega)).mono ?_; rintro e w' ⟨rfl, rfl⟩)
    go_ret
    exact ⟨rfl, (Below.refl _ _).alloc (Nat.le_refl _) _⟩
  · clear h
    go_enter Tryd.func41, Tryd.ntmps41
    go_wp2_with (go_at_call 54; refine (fin_yes _ _ _ _ (by omega) (by omega)).mono ?_; rintro e w' ⟨rfl, rfl⟩)
    go_ret
    exact ⟨rfl, (Below.refl _ _).alloc (Nat.le_refl _) _⟩

/-- what Check says. -/
theorem check_any (v : Value) (W H : Int) (gs os : List Int) (w : World) (h : Fl w v W H gs os) :
    Calls Tryd.prog 41 #[v] w fun e w' => ∃ u, e = .returned u ∧ Er u (Fd.fault W H gs os) ∧ Below w.heap.size w w' := by
  obtain ⟨u1, u2, rfl, ⟨a, c, rfl, c1, c2, ca⟩, ⟨b, d, rfl, d1, d2, cb⟩⟩ := h
  unfold Fd.fault
  by_cases h1 : W < 1 ∨ 12 < W ∨ H < 1 ∨ 12 < H
  · rw [if_pos h1]
    exact (check_range _ _ W H w h1).mono fun e w' ⟨he, hb⟩ => ⟨_, he, Er.no (by decide), hb⟩
  · rw [if_neg h1]
    by_cases h2 : (gs.length : Int) ≠ W * H ∨ (os.length : Int) ≠ W * H
    · rw [if_pos h2]
      exact (check_shape _ _ _ _ _ _ W H w (by omega) (by omega) (by omega) (by omega) h2).mono fun e w' ⟨he, hb⟩ => ⟨_, he, Er.no (by decide), hb⟩
    · rw [if_neg h2]
      exact check_cells a b c d W H gs os w (by omega) (by omega) (by omega) (by omega) (by omega) (by omega) c1 c2 d1 d2 ca cb
end Go.Proofs.YtamgjhehnblbgaaDoor

