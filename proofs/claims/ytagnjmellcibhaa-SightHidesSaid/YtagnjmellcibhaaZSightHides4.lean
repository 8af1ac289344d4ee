/- A name's letters, asked rune by rune. Plain mathematics. · The program's kinds: what is a name; what is wrong with one kind, those ahead being right. · The program's kinds: what is wrong with some; the number of a name. · Worlds: what is wrong with what one lies on, and with its numbers. · Worlds: Check. · Slices of api.Job: a whole list behind another one. · world.fresh, world.Copy. · a unit that is to be put: what is wrong, and what comes of it. · Worlds with which nothing is wrong, unit by unit and job by job; a unit that is put keeps one right. Plain mathematics. · Kinds that are right: their numbers. · A unit that is put keeps a world right, and its cell is taken then. Plain mathematics. · sight.reaches, doesSee and its function. · A block of integers that may be written. · Lists of bools: what a slice holds; a block of them that may be written; make([]bool, n). · sight.checkPlayer, seen, Seen, Seers. · Sight: who sees where it is: plain mathematics. · Jobs in a block that may be written. · slices.IndexFunc and slices.DeleteFunc of jobs. -/
import Derived.Test.YtagnjmellcibhaaZSightHides1
import Derived.Shelf.GgClosure.StringsIndexFunc
import Derived.Test.YtagnjmellcibhaaZSightHides3
import Derived.Test.YtagnjmellcibhaaShelf
import Derived.Test.YtagnjmellcibhaaZSightHides2
import Derived.Deep.DeepCutAuto
import Derived.OwnWalk
import Derived.Laws.MakeOwn
import Derived.Laws.CopyRow
import Derived.Lib.SliceRun
namespace Go.Proofs.Ytagnjmellcibhaa.Kd
set_option linter.unusedVariables false

/-- a rune that is none of a to z. -/
def otherR (r : Nat) : Bool := decide ((r : Int) < 97) || decide (122 < (r : Int))
theorem other_big {r : Nat} (h : 128 ≤ r) : otherR r = true := by
  unfold otherR
  rw [decide_eq_true (show (122 : Int) < (r : Int) by omega), Bool.or_true]
theorem decode_small (s : ByteArray) (i : Nat) (h : (s.get! i).toNat < 128) : Utf8.decode s i = ((s.get! i).toNat, 1) := by
  unfold Utf8.decode
  simp only [Nat.add_zero]
  rw [if_pos h]
theorem decode_big (s : ByteArray) (i : Nat) (h : ¬ (s.get! i).toNat < 128) : 128 ≤ (Utf8.decode s i).1 := by
  unfold Utf8.decode
  simp only [Nat.add_zero]
  rw [if_neg h]
  simp only [Utf8.runeError]
  split
  · split
    · rename_i h2; exact h2
    · simp
  · split
    · split
      · rename_i h2
        simp only [Bool.and_eq_true, decide_eq_true_eq] at h2
        have := h2.1
        simp only
        omega
      · simp
    · split
      · split
        · rename_i h2
          simp only [Bool.and_eq_true, decide_eq_true_eq] at h2
          have := h2.1
          simp only
          omega
        · simp
      · simp
theorem other_letter (b : UInt8) (h : b.toNat < 128) : otherR b.toNat = !isLetter b := by
  unfold otherR isLetter
  by_cases h1 : 97 ≤ b.toNat
  · by_cases h2 : b.toNat ≤ 122
    · rw [decide_eq_true h1, decide_eq_true h2, decide_eq_false (show ¬ (b.toNat : Int) < 97 by omega), decide_eq_false (show ¬ 122 < (b.toNat : Int) by omega)]; rfl
    · rw [decide_eq_true h1, decide_eq_false h2, decide_eq_false (show ¬ (b.toNat : Int) < 97 by omega), decide_eq_true (show 122 < (b.toNat : Int) by omega)]; rfl
  · rw [decide_eq_false h1, decide_eq_true (show (b.toNat : Int) < 97 by omega)]; rfl
theorem get_at (s : ByteArray) (i : Nat) (h : i < s.size) : s.get! i = s.data.toList[i]'h := by
  show s.data[i]! = _
  rw [getElem!_pos s.data i h]
  simp
theorem other_from (s : ByteArray) : ∀ (f pos : Nat), s.size ≤ pos + f → decide (0 ≤ Lib.idxFuncFrom otherR true s f pos) = !((s.data.toList.drop pos).all isLetter)
  | 0, pos, h => by
    rw [List.drop_eq_nil_of_le (by show s.size ≤ pos; omega)]
    rfl
  | f + 1, pos, h => by
    unfold Lib.idxFuncFrom
    by_cases hp : pos < s.size
    · have hl : pos < s.data.toList.length := hp
      rw [if_pos hp, List.drop_eq_getElem_cons hl, List.all_cons, ← get_at s pos hp]
      by_cases hb : (s.get! pos).toNat < 128
      · rw [decode_small s pos hb]
        simp only
        rw [other_letter _ hb]
        cases hi : isLetter (s.get! pos) with
        | true =>
          rw [if_neg (by simp), Bool.true_and]
          exact other_from s f (pos + 1) (by omega)
        | false =>
          rw [if_pos (by simp), decide_eq_true (by omega)]
          simp
      · rw [if_pos (other_big (decode_big s pos hb)), decide_eq_true (by omega)]
        have : isLetter (s.get! pos) = false := by
          unfold isLetter
          rw [decide_eq_false (show ¬ (s.get! pos).toNat ≤ 122 by omega), Bool.and_false]
        rw [this]
        rfl
    · rw [if_neg hp, List.drop_eq_nil_of_le (by show s.size ≤ pos; omega)]
      rfl
theorem other_name (s : ByteArray) : decide (0 ≤ Lib.idxFunc otherR true s) = !(s.data.toList.all isLetter) := by
  have := other_from s s.size 0 (by omega)
  rw [List.drop_zero] at this
  exact this
end Go.Proofs.Ytagnjmellcibhaa.Kd

namespace Go.Proofs.Ytagnjmellcibhaa
open Go.RowKit
set_option linter.unusedVariables false

theorem ename1 : ∀ args w, (callFunc 82 args).run Try.prog w = .ok (.enter 82 args) w := by
  intro args w
  go_simp
set_option maxHeartbeats 400000 in
theorem other_any (x : Nat) (w : World) :
    Calls Try.prog 82 #[.int .i32 (x : Int)] w fun e w' => e = .returned (.bool (Kd.otherR x)) ∧ w' = w := by
  unfold Kd.otherR
  by_cases h1 : (x : Int) < 97
  · go_enter Try.func82, Try.ntmps82
    go_wp2
    go_ret
    exact ⟨by first | (simp; done) | (simp; omega), rfl⟩
  · by_cases h2 : 122 < (x : Int)
    · go_enter Try.func82, Try.ntmps82
      go_wp2
      go_ret
      exact ⟨by first | (simp; done) | (simp; omega), rfl⟩
    · go_enter Try.func82, Try.ntmps82
      go_wp2
      go_ret
      exact ⟨by first | (simp; done) | (simp; omega), rfl⟩
theorem letters_any (s : ByteArray) (w : World) :
    Calls Try.prog 84 #[.string s, .func (.func 82) #[] #[]] w fun e w' => e = .returned (.bool (!(s.data.toList.all Kd.isLetter))) ∧ Below w.heap.size w w' := by
  have h := Try.strings_ContainsFunc_grows 82 #[] ename1 Kd.otherR s w (fun W x _ _ => (other_any x W).mono fun e w' ⟨h1, h2⟩ => ⟨h1, by rw [h2]; exact Below.refl _ _⟩)
  rw [Kd.other_name s] at h
  exact h

set_option maxHeartbeats 1000000 in
theorem isName_any (s : ByteArray) (w : World) (hb : s.size ≤ 9223372036854775807) :
    Calls Try.prog 75 #[.string s] w fun e w' => e = .returned (.bool (Kd.nameOk s.data.toList)) ∧ Below w.heap.size w w' := by
  have L : Hid (∀ w : World, Calls Try.prog 84 #[.string s, .func (.func 82) #[] #[]] w fun e w' => e = .returned (.bool (!(s.data.toList.all Kd.isLetter))) ∧ Below w.heap.size w w') := fun w => letters_any s w
  obtain ⟨l, hl⟩ : ∃ l, s.data.toList = l := ⟨_, rfl⟩
  have Ll : Hid (l.length = s.size) := by unfold Hid; rw [← hl]; rfl
  rw [hl] at L ⊢
  clear hl
  by_cases h1 : 1 ≤ s.size ∧ s.size ≤ 8
  · obtain ⟨h2, h3⟩ := h1
    have E : Hid (Kd.nameOk l = l.all Kd.isLetter) := by
      unfold Hid Kd.nameOk
      rw [decide_eq_true (show l.length ≤ 8 by rw [Ll.out]; exact h3), Bool.true_and]
      cases l with
      | nil => have := Ll.out; simp at this; omega
      | cons a r => rfl
    generalize l.all Kd.isLetter = b at *
    rw [E.out]
    clear E
    go_enter Try.func75, Try.ntmps75
    go_wp2_with (go_at_call 83; refine (kwin_yes _ _ _ _ (by omega) (by omega)).mono ?_; rintro e w' ⟨rfl, hw⟩; obtain rfl := hw.symm)
    refine (L.out _).mono ?_
    rintro e w1 ⟨rfl, b1⟩
    have B1 : Hid (Below w.heap.size w w1) := b1
    clear b1
    go_wp2
    go_ret
    exact ⟨by simp, B1⟩
  · have E : Hid (Kd.nameOk l = false) := by
      unfold Hid Kd.nameOk
      cases l with
      | nil => rfl
      | cons a r =>
        rw [decide_eq_false (show ¬ (a :: r).length ≤ 8 by intro h; have := Ll.out; simp at this h; omega)]
        simp
    rw [E.out]
    go_enter Try.func75, Try.ntmps75
    go_wp2_with (go_at_call 83; refine (kwin_no _ _ _ _ (by omega)).mono ?_; rintro e w' ⟨rfl, rfl⟩)
    go_ret
    exact ⟨rfl, Below.refl _ _⟩
theorem FstK.none {p : KV → Bool} {ks : List KV} {r : Int} (h : FstK p ks r) : (0 ≤ r ∧ ks.any p = true) ∨ (r = -1 ∧ ks.any p = false) := by
  rcases h with h | ⟨k, x, rfl, h1, h2, _⟩
  · exact .inr h
  · exact .inl ⟨by omega, List.any_eq_true.2 ⟨x, List.mem_of_getElem? h1, h2⟩⟩

set_option maxHeartbeats 2000000 in
theorem ckind_any (v : Value) (ks : List KV) (k : KV) (w : World) (h : Kl w v ks) (hb : k.b.size ≤ 9223372036854775807) :
    Calls Try.prog 59 #[v, k.val] w fun e w' => ∃ u, e = .returned u ∧ Er u (Kd.kindFault (ks.map KV.k) k.k) ∧ Below w.heap.size w w' := by
  have K0 : Hid (Kl w v ks) := h
  obtain ⟨a, c, rfl, c1, c2, -⟩ := h
  have NM := isName_any k.b
  have IB := inb_any k
  have KF : Hid (Kd.kindFault (ks.map KV.k) k.k = if Kd.nameOk k.b.data.toList then (if (ks.any fun a => a.k.name == k.b.data.toList) then 8 else Kd.numsFault k.ns) else 2) := by
    unfold Hid Kd.kindFault
    rw [List.any_map]
    rfl
  obtain ⟨R, hR⟩ : ∃ R, Kd.kindFault (ks.map KV.k) k.k = R := ⟨_, rfl⟩
  rw [hR] at KF ⊢
  clear hR
  obtain ⟨kb, n0, n1, n2, n3, n4, n5, n6, n7, kf, kt⟩ := k
  simp only at hb NM KF
  unfold KV.val at IB ⊢
  simp only at IB ⊢
  have NM' : Hid (∀ w : World, kb.size ≤ 9223372036854775807 → Calls Try.prog 75 #[.string kb] w fun e w' => e = .returned (.bool (Kd.nameOk kb.data.toList)) ∧ Below w.heap.size w w') := NM
  obtain ⟨F, hF⟩ : ∃ F, Kd.numsFault (KV.ns ⟨kb, n0, n1, n2, n3, n4, n5, n6, n7, kf, kt⟩) = F := ⟨_, rfl⟩
  rw [hF] at IB KF
  have IB' : Hid (∀ w : World, Calls Try.prog 77 #[.agg #[.string kb, .int .i64 n0, .int .i64 n1, .int .i64 n2, .int .i64 n3, .int .i64 n4, .int .i64 n5, .int .i64 n6, .int .i64 n7, .bool kf, .bool kt]] w fun e w' => e = .returned (.bool (decide (F = 0))) ∧ Below w.heap.size w w') := IB
  have HF : Hid (F = 0 ∨ F = 1) := by
    unfold Hid
    rw [← hF]
    unfold Kd.numsFault
    split
    · exact .inr rfl
    · split
      · exact .inr rfl
      · exact .inl rfl
  clear NM IB hF
  go_enter Try.func59, Try.ntmps59
  have B1 : Hid (Below w.heap.size w (w.alloc (Obj.cells #[.string kb, .int .i64 n0, .int .i64 n1, .int .i64 n2, .int .i64 n3, .int .i64 n4, .int .i64 n5, .int .i64 n6, .int .i64 n7, .bool kf, .bool kt] 56))) := (Below.refl _ _).alloc (Nat.le_refl _) _
  have X1 : Hid (Kc (w.alloc (Obj.cells #[.string kb, .int .i64 n0, .int .i64 n1, .int .i64 n2, .int .i64 n3, .int .i64 n4, .int .i64 n5, .int .i64 n6, .int .i64 n7, .bool kf, .bool kt] 56)) ⟨w.heap.size, 0, none⟩ ⟨kb, n0, n1, n2, n3, n4, n5, n6, n7, kf, kt⟩) := Kc.mk' ⟨kb, n0, n1, n2, n3, n4, n5, n6, n7, kf, kt⟩ rfl
  go_wp2_with fail
  generalize w.alloc (Obj.cells #[.string kb, .int .i64 n0, .int .i64 n1, .int .i64 n2, .int .i64 n3, .int .i64 n4, .int .i64 n5, .int .i64 n6, .int .i64 n7, .bool kf, .bool kt] 56) = w1 at *
  refine (NM'.out _ hb).mono ?_
  rintro e w2 ⟨rfl, b2⟩
  have B2 : Hid (Below w.heap.size w w2) := B1.out.trans (b2.mono B1.out.size)
  have X2 : Hid (Kc w2 ⟨w.heap.size, 0, none⟩ ⟨kb, n0, n1, n2, n3, n4, n5, n6, n7, kf, kt⟩) := X1.out.below b2 X1.out.lt
  clear b2 X1 NM'
  cases hn : Kd.nameOk kb.data.toList with
  | false =>
    have E : Hid (R = 2) := by unfold Hid; rw [KF.out, hn]; rfl
    clear hn
    go_wp2
    go_ret
    exact ⟨_, rfl, by rw [E.out]; exact Er.no (by decide), B2⟩
  | true =>
    have KF2 : Hid (R = if (ks.any fun a => a.k.name == kb.data.toList) then 8 else F) := by unfold Hid; rw [KF.out, hn]; rfl
    clear hn KF
    have x0 : w2.cell? ⟨w.heap.size, 0, none⟩ = some (.string kb) := X2.out.c0
    go_wp2_with fail
    refine (find_any _ ks kb _ (K0.out.below B2.out)).mono ?_
    rintro e w3 ⟨r, rfl, hr, b3⟩
    have B3 : Hid (Below w.heap.size w w3) := B2.out.trans (b3.mono B2.out.size)
    have X3 : Hid (Kc w3 ⟨w.heap.size, 0, none⟩ ⟨kb, n0, n1, n2, n3, n4, n5, n6, n7, kf, kt⟩) := X2.out.below b3 X2.out.lt
    clear b3 X2 x0
    rcases hr.none with ⟨h0, ha⟩ | ⟨h0, ha⟩
    · have E : Hid (R = 8) := by unfold Hid; rw [KF2.out, if_pos ha]
      clear ha hr
      go_wp2
      go_ret
      exact ⟨_, rfl, by rw [E.out]; exact Er.no (by decide), B3⟩
    · have E : Hid (R = F) := by unfold Hid; rw [KF2.out, if_neg (by rw [ha]; decide)]
      clear ha hr
      subst h0
      obtain ⟨x0, x1, x2, x3, x4, x5, x6, x7, x8, x9, x10⟩ := X3.out
      have x1 : w3.cell? ⟨w.heap.size, 1, none⟩ = some (.int .i64 n0) := x1
      have x2 : w3.cell? ⟨w.heap.size, 2, none⟩ = some (.int .i64 n1) := x2
      have x3 : w3.cell? ⟨w.heap.size, 3, none⟩ = some (.int .i64 n2) := x3
      have x4 : w3.cell? ⟨w.heap.size, 4, none⟩ = some (.int .i64 n3) := x4
      have x5 : w3.cell? ⟨w.heap.size, 5, none⟩ = some (.int .i64 n4) := x5
      have x6 : w3.cell? ⟨w.heap.size, 6, none⟩ = some (.int .i64 n5) := x6
      have x7 : w3.cell? ⟨w.heap.size, 7, none⟩ = some (.int .i64 n6) := x7
      have x8 : w3.cell? ⟨w.heap.size, 8, none⟩ = some (.int .i64 n7) := x8
      have x9 : w3.cell? ⟨w.heap.size, 9, none⟩ = some (.bool kf) := x9
      have x10 : w3.cell? ⟨w.heap.size, 10, none⟩ = some (.bool kt) := x10
      go_wp2_with fail
      refine (IB'.out _).mono ?_
      rintro e w4 ⟨rfl, b4⟩
      have B4 : Hid (Below w.heap.size w w4) := B3.out.trans (b4.mono B3.out.size)
      clear b4 IB' x0 x1 x2 x3 x4 x5 x6 x7 x8 x9 x10
      rcases HF.out with hF | hF
      · rw [hF]
        have E2 : Hid (R = 0) := by unfold Hid; rw [E.out, hF]
        go_wp2
        go_ret
        exact ⟨_, rfl, by rw [E2.out]; exact Er.nil, B4⟩
      · rw [hF]
        have E2 : Hid (R = 1) := by unfold Hid; rw [E.out, hF]
        go_wp2
        go_ret
        exact ⟨_, rfl, by rw [E2.out]; exact Er.no (by decide), B4⟩
end Go.Proofs.Ytagnjmellcibhaa

namespace Go.Proofs.Ytagnjmellcibhaa
open Go.RowKit
set_option linter.unusedVariables false

theorem Kl.take {w : World} {a : Option Addr} {n c : Nat} {ks : List KV} (h : Kl w (.slice a n c) ks) {q : Nat} (hq : q ≤ ks.length) : Kl w (.slice a q c) (ks.take q) := by
  obtain ⟨a', c', e, h1, h2, h3⟩ := h
  injection e with e1 e2 e3
  subst e1 e3
  have hl : (ks.take q).length = q := by rw [List.length_take]; omega
  refine ⟨a, c, by rw [hl], by rw [hl]; omega, h2, fun hn => ?_⟩
  obtain ⟨x, hx, hb, hk⟩ := h3 (by rintro rfl; simp at hn)
  refine ⟨x, hx, hb, fun i k hi => hk i k ?_⟩
  rw [List.getElem?_take] at hi
  split at hi
  · exact hi
  · cases hi
theorem kgo_at {ks : List KV} {i : Nat} {k : KV} (h : ks[i]? = some k) : Kd.kindsGo ((ks.take i).map KV.k) ((ks.drop i).map KV.k) = if Kd.kindFault ((ks.take i).map KV.k) k.k = 0 then Kd.kindsGo ((ks.take (i + 1)).map KV.k) ((ks.drop (i + 1)).map KV.k) else Kd.kindFault ((ks.take i).map KV.k) k.k := by
  obtain ⟨hi, e⟩ := List.getElem?_eq_some_iff.1 h
  rw [List.drop_eq_getElem_cons hi, e, List.map_cons, Kd.kindsGo, List.take_succ_eq_append_getElem hi, e, List.map_append]
  rfl

set_option maxHeartbeats 4000000 in
theorem kcheck_any (v : Value) (ks : List KV) (w : World) (h : Kl w v ks) (hb : ∀ k ∈ ks, k.b.size ≤ 9223372036854775807) :
    Calls Try.prog 47 #[v] w fun e w' => ∃ u, e = .returned u ∧ Er u (Kd.kindsFault (ks.map KV.k)) ∧ Below w.heap.size w w' := by
  have K0 : Hid (Kl w v ks) := h
  have Hb : Hid (∀ k ∈ ks, k.b.size ≤ 9223372036854775807) := hb
  obtain ⟨R, hR⟩ : ∃ R, Kd.kindsFault (ks.map KV.k) = R := ⟨_, rfl⟩
  have HR : Hid (Kd.kindsFault (ks.map KV.k) = R) := hR
  rw [hR]
  clear hR hb
  obtain ⟨a, c, rfl, c1, c2, -⟩ := h
  by_cases h8 : 8 < ks.length
  · have E : Hid (R = 4) := by unfold Hid; rw [← HR.out]; unfold Kd.kindsFault; rw [if_pos (by simpa using h8)]
    have h8' : (8 : Int) < (ks.length : Int) := by omega
    go_enter Try.func47, Try.ntmps47
    go_wp2
    go_ret
    exact ⟨_, rfl, by rw [E.out]; exact Er.no (by decide), Below.refl _ _⟩
  · have h8' : ¬ (8 : Int) < (ks.length : Int) := by omega
    have R1 : Hid (Kd.kindsGo [] (ks.map KV.k) = R) := by unfold Hid; rw [← HR.out]; unfold Kd.kindsFault; rw [if_neg (by simpa using h8)]
    go_enter Try.func47, Try.ntmps47
    go_wp2_with fail
    go_loopw [12] (fun j W' => ∃ q : Nat, q ≤ ks.length ∧ j = .int .i64 (q : Nat) ∧ Kd.kindsGo ((ks.take q).map KV.k) ((ks.drop q).map KV.k) = R ∧ Below w.heap.size w W') (fun j _ => ks.length - (intOf j).toNat)
    case atStart => exact ⟨0, Nat.zero_le _, rfl, R1, Below.refl _ _⟩
    case round =>
      obtain ⟨q, hq, rfl, hg, hb⟩ := hrel
      have Gq : Hid (Kd.kindsGo ((ks.take q).map KV.k) ((ks.drop q).map KV.k) = R) := hg
      have B : Hid (Below w.heap.size w wr) := hb
      clear hg hb
      by_cases hql : q = ks.length
      · have E : Hid (R = 0) := by
          unfold Hid
          rw [← Gq.out, hql, List.drop_of_length_le (Nat.le_refl _)]
          rfl
        subst hql
        go_wp2
        go_ret
        exact ⟨_, rfl, by rw [E.out]; exact Er.nil, B⟩
      · have hqk : q < ks.length := by omega
        obtain ⟨k, hk⟩ : ∃ k, ks[q]? = some k := ⟨_, List.getElem?_eq_getElem hqk⟩
        have At : Hid (R = if Kd.kindFault ((ks.take q).map KV.k) k.k = 0 then Kd.kindsGo ((ks.take (q + 1)).map KV.k) ((ks.drop (q + 1)).map KV.k) else Kd.kindFault ((ks.take q).map KV.k) k.k) := by
          unfold Hid
          rw [← kgo_at hk]
          exact Gq.out.symm
        have K1 := K0.out.below B.out
        have CK : Hid (∀ W : World, Below wr.heap.size wr W → Calls Try.prog 59 #[.slice a q c, k.val] W fun e w' => ∃ u, e = .returned u ∧ Er u (Kd.kindFault ((ks.take q).map KV.k) k.k) ∧ Below W.heap.size W w') :=
          fun W hW => ckind_any _ (ks.take q) k W ((K1.take hq).below hW) (Hb.out k (List.mem_of_getElem? hk))
        generalize Kd.kindFault ((ks.take q).map KV.k) k.k = F at *
        obtain ⟨a', c', e, -, -, h3⟩ := K1
        injection e with e1 e2 e3
        subst e1 e3
        obtain ⟨x, rfl, hx1, hx⟩ := h3 (by rintro rfl; simp at hqk)
        have Yc := hx q k hk
        clear hx h3 e2 hk
        obtain ⟨kb, n0, n1, n2, n3, n4, n5, n6, n7, kf, kt⟩ := k
        obtain ⟨q0, q1, q2, q3, q4, q5, q6, q7, q8, q9, q10⟩ := Yc
        simp only at q0 q1 q2 q3 q4 q5 q6 q7 q8 q9 q10
        unfold KV.val at CK
        simp only at CK
        go_upto_region 6 with fail
        have B1 : Hid (Below wr.heap.size wr (wr.alloc (Obj.cells #[.string kb, .int .i64 n0, .int .i64 n1, .int .i64 n2, .int .i64 n3, .int .i64 n4, .int .i64 n5, .int .i64 n6, .int .i64 n7, .bool kf, .bool kt] 56))) := (Below.refl _ _).alloc (Nat.le_refl _) _
        have X1 := Kc.mk' (w := wr) ⟨kb, n0, n1, n2, n3, n4, n5, n6, n7, kf, kt⟩ rfl
        simp only at X1
        clear q0 q1 q2 q3 q4 q5 q6 q7 q8 q9 q10
        generalize wr.alloc (Obj.cells #[.string kb, .int .i64 n0, .int .i64 n1, .int .i64 n2, .int .i64 n3, .int .i64 n4, .int .i64 n5, .int .i64 n6, .int .i64 n7, .bool kf, .bool kt] 56) = w1 at *
        obtain ⟨x0, x1, x2, x3, x4, x5, x6, x7, x8, x9, x10⟩ := X1
        simp only at x0 x1 x2 x3 x4 x5 x6 x7 x8 x9 x10
        go_region_with (go_at_call 59; refine Calls.mono (CK.out _ B1.out.drew) ?_; rintro e w2 ⟨u, rfl, hu, b2⟩; have Hu : Hid (Er u F) := hu; have B2 : Hid (Below wr.heap.size wr w2) := B1.out.drew.trans (b2.mono B1.out.drew.size); clear hu b2)
        all_goals
          have B3 : Hid (Below w.heap.size w w2) := B.out.trans (B2.out.mono B.out.size)
          clear B2 CK x0 x1 x2 x3 x4 x5 x6 x7 x8 x9 x10
          rcases Hu.out with ⟨hF, rfl⟩ | ⟨hF, rfl⟩
          · have G2 : Hid (Kd.kindsGo ((ks.take (q + 1)).map KV.k) ((ks.drop (q + 1)).map KV.k) = R) := by
              unfold Hid
              have := At.out
              rw [if_pos hF] at this
              exact this.symm
            clear At
            go_wp2
            go_round
            case rel => exact ⟨q + 1, by omega, by go_num, G2, B3⟩
            case measure => simp [intOf]; omega
          · have E : Hid (R = F) := by
              unfold Hid
              have := At.out
              rw [if_neg hF] at this
              exact this
            have Hf : Hid (F ≠ 0) := hF
            clear At
            go_wp2
            go_ret
            exact ⟨_, rfl, by rw [E.out]; exact Er.no Hf.out, B3⟩

end Go.Proofs.Ytagnjmellcibhaa

namespace Go.Proofs.Ytagnjmellcibhaa
open Go.RowKit
set_option linter.unusedVariables false

set_option maxHeartbeats 1000000 in
theorem ground_any (v f : Value) (ks : List KV) (W : WV) (w : World) (h : Kl w v ks) (hb : ∀ k ∈ ks, k.b.size ≤ 9223372036854775807) (hf : Fl w f W.wide W.high W.gs W.os) :
    Calls Try.prog 30 #[v, f] w fun e w' => ∃ u, e = .returned u ∧ Er u (Wd.ground ks W) ∧ Below w.heap.size w w' := by
  have K : Hid (Kl w v ks ∧ ∀ k ∈ ks, k.b.size ≤ 9223372036854775807) := ⟨h, hb⟩
  have F : Hid (Fl w f W.wide W.high W.gs W.os) := hf
  obtain ⟨u1, u2, rfl, h1, h2⟩ := hf
  clear h hb h1 h2
  go_enter Try.func30, Try.ntmps30
  go_wp2_with fail
  have B0 : Hid (Below w.heap.size w (w.alloc (Obj.cells #[.int .i64 W.wide, .int .i64 W.high, u1, u2] 25))) := (Below.refl _ _).alloc (Nat.le_refl _) _
  have X0 : Hid (Bf (w.alloc (Obj.cells #[.int .i64 W.wide, .int .i64 W.high, u1, u2] 25)) w.heap.size W.wide W.high u1 u2) := Bf.mk' W.wide W.high u1 u2 rfl
  generalize w.alloc (Obj.cells #[.int .i64 W.wide, .int .i64 W.high, u1, u2] 25) = w0 at *
  refine (kcheck_any _ ks w0 (K.out.1.below B0.out) K.out.2).mono ?_
  rintro e w1 ⟨r, rfl, hr, hb1⟩
  have B1 : Hid (Below w.heap.size w w1) := B0.out.trans (hb1.mono B0.out.size)
  have X1 : Hid (Bf w1 w.heap.size W.wide W.high u1 u2) := X0.out.below hb1 X0.out.lt
  clear hb1 X0
  rcases hr with ⟨hz, rfl⟩ | ⟨hz, rfl⟩
  · have G : Hid (Wd.ground ks W = Fd.fault W.wide W.high W.gs W.os) := by unfold Hid Wd.ground; rw [if_pos hz]
    obtain ⟨c0, c1, c2, c3⟩ := X1.out
    clear hz
    go_wp2_with fail
    refine (check_any _ W.wide W.high W.gs W.os w1 (F.out.below B1.out)).mono ?_
    rintro e w2 ⟨r, rfl, hr, hb2⟩
    have R : Hid (Er r (Wd.ground ks W) ∧ Below w.heap.size w w2) := ⟨by rw [G.out]; exact hr, B1.out.trans (hb2.mono B1.out.size)⟩
    clear hr hb2 c0 c1 c2 c3
    go_wp2
    go_ret
    exact ⟨_, rfl, R.out.1, R.out.2⟩
  · have G : Hid (Er (.iface 53 (.int .i64 (Kd.kindsFault (ks.map KV.k)))) (Wd.ground ks W)) := by
      unfold Hid Wd.ground; rw [if_neg hz]; exact Er.no hz
    clear hz
    go_wp2
    go_ret
    exact ⟨_, rfl, G.out, B1.out⟩
/-- what is wrong with the numbers. -/
def numsF (W : WV) : Int := if Wd.numsBad W = true then 1 else 0
theorem off_any (n : Int) (w : World) : Calls Try.prog 53 #[.int .i64 n] w fun e w' => e = .returned (.bool (Wd.off 0 n)) ∧ w' = w := by
  go_enter Try.func53, Try.ntmps53
  go_wp2_with fail
  refine (wwithin_any n 0 1000000 w).mono ?_
  rintro e w1 ⟨rfl, rfl⟩
  obtain ⟨b, hb⟩ : ∃ b, decide (0 ≤ n ∧ n ≤ 1000000) = b := ⟨_, rfl⟩
  have HB : Hid (Wd.off 0 n = !b) := by unfold Hid Wd.off; rw [hb]
  rw [hb]
  clear hb
  go_wp2
  go_ret
  exact ⟨by rw [HB.out]; rfl, rfl⟩
set_option maxRecDepth 100000 in
set_option maxHeartbeats 2000000 in
theorem numbad_any (v : Value) (W : WV) (w : World) (h : Wl w v W) :
    Calls Try.prog 34 #[v] w fun e w' => ∃ u, e = .returned u ∧ Er u (numsF W) ∧ Below w.heap.size w w' := by
  obtain ⟨u1, u2, u3, u4, u5, rfl, -, -, h3, -, -⟩ := h
  have R3 : Hid (Ro w u3 W.gold) := h3
  obtain ⟨a, c, rfl, c1, c2, -⟩ := h3
  go_enter Try.func34, Try.ntmps34
  go_upto_region 2 with fail
  have B0 : Hid (Below w.heap.size w (w.alloc (Obj.cells #[.int .i64 W.turn, .int .i64 W.next, .int .i64 W.wide, .int .i64 W.high, u1, u2, .slice a W.gold.length c, u4, u5] 29))) := (Below.refl _ _).alloc (Nat.le_refl _) _
  have X0 : Hid (Bw (w.alloc (Obj.cells #[.int .i64 W.turn, .int .i64 W.next, .int .i64 W.wide, .int .i64 W.high, u1, u2, .slice a W.gold.length c, u4, u5] 29)) w.heap.size W u1 u2 (.slice a W.gold.length c) u4 u5) := Bw.mk' W _ _ _ _ _ rfl
  generalize w.alloc (Obj.cells #[.int .i64 W.turn, .int .i64 W.next, .int .i64 W.wide, .int .i64 W.high, u1, u2, .slice a W.gold.length c, u4, u5] 29) = w0 at *
  obtain ⟨x0, x1, -, -, -, -, x6, -, -⟩ := X0.out
  obtain ⟨t, ht⟩ : ∃ t, decide (0 ≤ W.turn ∧ W.turn ≤ 1000000) = t := ⟨_, rfl⟩
  obtain ⟨n, hn⟩ : ∃ n, decide (1 ≤ W.next ∧ W.next ≤ 1000000) = n := ⟨_, rfl⟩
  obtain ⟨g, hg⟩ : ∃ g, decide (1 ≤ (W.gold.length : Int) ∧ (W.gold.length : Int) ≤ 4) = g := ⟨_, rfl⟩
  obtain ⟨m, hm⟩ : ∃ m, W.gold.any (Wd.off 0) = m := ⟨_, rfl⟩
  have HN : Hid (Wd.numsBad W = (!t || (!n || (!g || m)))) := by unfold Hid Wd.numsBad Wd.off; rw [ht, hn, hg]; unfold Wd.off at hm; rw [hm]
  go_wp2_with fail
  refine (wwithin_any W.turn 0 1000000 w0).mono ?_
  rintro e y1 ⟨rfl, hww⟩
  obtain rfl := hww.symm
  rw [ht]
  cases t with
  | false =>
    go_wp2
    go_ret
    have EB : Wd.numsBad W = true := by rw [HN.out]; rfl
    exact ⟨_, rfl, by unfold numsF; rw [EB]; exact Er.no (by decide), B0.out⟩
  | true =>
    go_wp2_with fail
    refine (wwithin_any W.next 1 1000000 _).mono ?_
    rintro e y2 ⟨rfl, hww⟩
    obtain rfl := hww.symm
    rw [hn]
    cases n with
    | false =>
      go_wp2
      go_ret
      have EB : Wd.numsBad W = true := by rw [HN.out]; rfl
      exact ⟨_, rfl, by unfold numsF; rw [EB]; exact Er.no (by decide), B0.out⟩
    | true =>
      go_wp2_with fail
      refine (wwithin_any (W.gold.length : Int) 1 4 _).mono ?_
      rintro e y3 ⟨rfl, hww⟩
      obtain rfl := hww.symm
      rw [hg]
      cases g with
      | false =>
        go_wp2
        go_ret
        have EB : Wd.numsBad W = true := by rw [HN.out]; rfl
        exact ⟨_, rfl, by unfold numsF; rw [EB]; exact Er.no (by decide), B0.out⟩
      | true =>
        go_wp2_with fail
        refine (hasf_any 53 (by intro args w; go_simp) _ #[] W.gold (Wd.off 0) _ (R3.out.below B0.out) (fun q x _ => (off_any x _).mono fun e w' ⟨h1, h2⟩ => ⟨h1, q, h2⟩)).mono ?_
        rintro e y4 ⟨rfl, q, hq⟩
        have BQ : Hid (Below w.heap.size w y4) := by rw [hq]; exact B0.out.trans ⟨rfl, rfl, rfl, Nat.le_refl _, fun _ _ => rfl⟩
        clear hq
        rw [hm]
        cases m with
        | false =>
          go_wp2
          go_ret
          have EB : Wd.numsBad W = false := by rw [HN.out]; rfl
          exact ⟨_, rfl, by unfold numsF; rw [EB]; exact Er.nil, BQ.out⟩
        | true =>
          go_wp2
          go_ret
          have EB : Wd.numsBad W = true := by rw [HN.out]; rfl
          exact ⟨_, rfl, by unfold numsF; rw [EB]; exact Er.no (by decide), BQ.out⟩
end Go.Proofs.Ytagnjmellcibhaa

namespace Go.Proofs.Ytagnjmellcibhaa
open Go.RowKit
set_option linter.unusedVariables false

theorem units_all {ks : List KV} {W : WV} : ∀ (l : List UnV) (i : Nat), Wd.unitsGo ks W i l = 0 → ∀ u ∈ l, ∃ j, Wd.unitFault ks W j u = 0
  | [], _, _, u, hu => by cases hu
  | x :: l, i, h, u, hu => by
    unfold Wd.unitsGo at h
    split at h
    · rename_i h0
      rcases List.mem_cons.1 hu with rfl | hu
      · exact ⟨i, h0⟩
      · exact units_all l (i + 1) h u hu
    · rename_i h0
      exact absurd h h0
theorem fault_kind {ks : List KV} {W : WV} {j : Nat} {u : UnV} (h : Wd.unitFault ks W j u = 0) : 0 ≤ u.kind ∧ u.kind < (ks.length : Int) := by
  have : Wd.has ks.length u.kind = true := by
    cases hh : Wd.has ks.length u.kind with
    | true => rfl
    | false =>
      unfold Wd.unitFault at h
      rw [hh] at h
      split at h
      · cases h
      · split at h
        · cases h
        · rw [if_pos (by simp)] at h
          cases h
  exact of_decide_eq_true this
theorem kinds_len {ks : List KV} (h : Kd.kindsFault (ks.map KV.k) = 0) : ks.length ≤ 8 := by
  unfold Kd.kindsFault at h
  split at h
  · cases h
  · rename_i h8
    rw [List.length_map] at h8
    omega
theorem nums_ok {W : WV} (h : Wd.numsBad W = false) : Wd.off 1 W.next = false ∧ W.gold.length ≤ 4 := by
  unfold Wd.numsBad at h
  simp only [Bool.or_eq_false_iff] at h
  obtain ⟨-, h1, h2, -⟩ := h
  refine ⟨h1, ?_⟩
  have : decide (1 ≤ (W.gold.length : Int) ∧ (W.gold.length : Int) ≤ 4) = true := by
    cases hh : decide (1 ≤ (W.gold.length : Int) ∧ (W.gold.length : Int) ≤ 4) with
    | true => rfl
    | false => rw [hh] at h2; cases h2
  have := of_decide_eq_true this
  omega
set_option maxRecDepth 100000 in
set_option maxHeartbeats 16000000 in
theorem wcheck_any (vk vw : Value) (ks : List KV) (W : WV) (w : World) (hk : Kl w vk ks) (hb : ∀ k ∈ ks, k.b.size ≤ 9223372036854775807) (hw : Wl w vw W) :
    Calls Try.prog 18 #[vk, vw] w fun e w' => ∃ r, e = .returned r ∧ Er r (Wd.wfault ks W) ∧ Below w.heap.size w w' := by
  have K : Hid (Kl w vk ks ∧ ∀ k ∈ ks, k.b.size ≤ 9223372036854775807) := ⟨hk, hb⟩
  have H : Hid (Wl w vw W) := hw
  obtain ⟨u1, u2, u3, u4, u5, rfl, r1, r2, r3, r4, r5⟩ := hw
  obtain ⟨p1, q1, rfl, -⟩ := r1
  obtain ⟨p2, q2, rfl, -⟩ := r2
  obtain ⟨p3, q3, rfl, -⟩ := r3
  obtain ⟨p4, q4, rfl, -⟩ := r4
  obtain ⟨p5, q5, rfl, k51, k52, k53⟩ := r5
  have JC : Hid (W.qs ≠ [] → ∃ x, p5 = some x ∧ x.block < w.heap.size ∧ ∀ (i : Nat) k, W.qs[i]? = some k → Jbc w (x.add (i * 4)) k) := k53
  clear hk hb k53
  go_enter Try.func18, Try.ntmps18
  go_wp2_with fail
  have B0 : Hid (Below w.heap.size w (w.alloc (Obj.cells #[.int .i64 W.turn, .int .i64 W.next, .int .i64 W.wide, .int .i64 W.high, .slice p1 W.gs.length q1, .slice p2 W.os.length q2, .slice p3 W.gold.length q3, .slice p4 W.us.length q4, .slice p5 W.qs.length q5] 29))) := (Below.refl _ _).alloc (Nat.le_refl _) _
  have X0 : Hid (Bw (w.alloc (Obj.cells #[.int .i64 W.turn, .int .i64 W.next, .int .i64 W.wide, .int .i64 W.high, .slice p1 W.gs.length q1, .slice p2 W.os.length q2, .slice p3 W.gold.length q3, .slice p4 W.us.length q4, .slice p5 W.qs.length q5] 29)) w.heap.size W (.slice p1 W.gs.length q1) (.slice p2 W.os.length q2) (.slice p3 W.gold.length q3) (.slice p4 W.us.length q4) (.slice p5 W.qs.length q5)) := Bw.mk' W _ _ _ _ _ rfl
  generalize (w.alloc (Obj.cells #[.int .i64 W.turn, .int .i64 W.next, .int .i64 W.wide, .int .i64 W.high, .slice p1 W.gs.length q1, .slice p2 W.os.length q2, .slice p3 W.gold.length q3, .slice p4 W.us.length q4, .slice p5 W.qs.length q5] 29)) = w0 at *
  refine (ground_any _ _ ks W w0 (K.out.1.below B0.out) K.out.2 ⟨_, _, rfl, (H.out.below B0.out).slices.1, (H.out.below B0.out).slices.2.1⟩).mono ?_
  rintro e w1 ⟨r, rfl, hr, hb1⟩
  have B1 : Hid (Below w.heap.size w w1) := B0.out.trans (hb1.mono B0.out.size)
  have X1 : Hid (Bw w1 w.heap.size W (.slice p1 W.gs.length q1) (.slice p2 W.os.length q2) (.slice p3 W.gold.length q3) (.slice p4 W.us.length q4) (.slice p5 W.qs.length q5)) := X0.out.below hb1 X0.out.lt
  clear hb1 X0 B0
  rcases hr with ⟨hz, rfl⟩ | ⟨hz, rfl⟩
  · have HZ : Hid (Wd.ground ks W = 0) := hz
    obtain ⟨x0, x1, x2, x3, x4, x5, x6, x7, x8⟩ := X1.out
    clear hz
    go_wp2_with fail
    refine (numbad_any _ W w1 (H.out.below B1.out)).mono ?_
    rintro e w2 ⟨r, rfl, hr, hb2⟩
    have B2 : Hid (Below w.heap.size w w2) := B1.out.trans (hb2.mono B1.out.size)
    have X2 : Hid (Bw w2 w.heap.size W (.slice p1 W.gs.length q1) (.slice p2 W.os.length q2) (.slice p3 W.gold.length q3) (.slice p4 W.us.length q4) (.slice p5 W.qs.length q5)) := X1.out.below hb2 X1.out.lt
    clear hb2 X1 B1 x0 x1 x2 x3 x4 x5 x6 x7 x8
    rcases hr with ⟨hn, rfl⟩ | ⟨hn, rfl⟩
    · have HN : Hid (Wd.numsBad W = false) := by
        unfold Hid
        unfold numsF at hn
        cases h : Wd.numsBad W with
        | false => rfl
        | true => rw [h] at hn; cases hn
      clear hn
      have x7 := X2.out.c7
      by_cases h40 : 40 < W.us.length
      · have F4 : Hid (Wd.wfault ks W = 4) := by unfold Hid Wd.wfault; rw [if_neg (by rw [HZ.out]; simp), HN.out, if_neg (by simp), if_pos h40]
        have h40i : (40 : Int) < (W.us.length : Int) := by omega
        go_wp2
        go_ret
        exact ⟨_, rfl, by rw [F4.out]; exact Er.no (by decide), B2.out⟩
      · have h40i : ¬ (40 : Int) < (W.us.length : Int) := by omega
        have KL : Hid (ks.length ≤ 8) := by
          have := HZ.out
          unfold Wd.ground at this
          split at this
          · rename_i h0
            exact kinds_len h0
          · rename_i h0
            exact absurd this h0
        have GD : Hid (∃ Wn Hn : Nat, W.wide = Wn ∧ W.high = Hn ∧ Fd.Good Wn Hn W.gs W.os) := by
          have := HZ.out
          unfold Wd.ground at this
          split at this
          · exact Fd.fault_zero this
          · rename_i h0
            exact absurd this h0
        obtain ⟨Wn, Hn, hWn, hHn, hG⟩ := GD.out
        have GG : Hid (W.wide = Wn ∧ W.high = Hn ∧ Fd.Good Wn Hn W.gs W.os) := ⟨hWn, hHn, hG⟩
        have US : Hid (W.us.length ≤ 40) := by unfold Hid; omega
        have WF : Hid (Wd.unitsGo ks W 0 W.us ≠ 0 → Wd.wfault ks W = Wd.unitsGo ks W 0 W.us) := fun hne => by unfold Wd.wfault; rw [if_neg (by rw [HZ.out]; simp), HN.out, if_neg (by simp), if_neg h40, if_pos hne]
        have WG : Hid (Wd.unitsGo ks W 0 W.us = 0 → Wd.wfault ks W = if 12 < W.qs.length then 4 else Wd.jobsGo ks W W.qs) := fun h0 => by unfold Wd.wfault; rw [if_neg (by rw [HZ.out]; simp), HN.out, if_neg (by simp), if_neg h40, if_neg (by rw [h0]; simp)]
        clear hWn hHn hG h40
        go_wp2
        clear x7
        go_loopw [32] (fun iv V => ∃ i : Nat, i ≤ W.us.length ∧ iv = .int .i64 (i : Nat) ∧ Wd.unitsGo ks W i (W.us.drop i) = Wd.unitsGo ks W 0 W.us ∧ Bw V w.heap.size W (.slice p1 W.gs.length q1) (.slice p2 W.os.length q2) (.slice p3 W.gold.length q3) (.slice p4 W.us.length q4) (.slice p5 W.qs.length q5) ∧ Below w.heap.size w V) (fun iv _ => W.us.length - (intOf iv).toNat)
        case atStart => exact ⟨0, Nat.zero_le _, rfl, rfl, X2.out, B2.out⟩
        case round =>
          obtain ⟨i, hi, rfl, hgo, hX, hB⟩ := hrel
          have XR : Hid (Bw wr w.heap.size W (.slice p1 W.gs.length q1) (.slice p2 W.os.length q2) (.slice p3 W.gold.length q3) (.slice p4 W.us.length q4) (.slice p5 W.qs.length q5)) := hX
          have BR : Hid (Below w.heap.size w wr) := hB
          have GO : Hid (Wd.unitsGo ks W i (W.us.drop i) = Wd.unitsGo ks W 0 W.us) := hgo
          clear hX hB hgo X2 B2
          by_cases hil : i = W.us.length
          · have U0 : Hid (Wd.unitsGo ks W 0 W.us = 0) := by unfold Hid; rw [← GO.out, hil, List.drop_length]; rfl
            have x8 := XR.out.c8
            subst hil
            clear hi
            by_cases h12 : 12 < W.qs.length
            · have F4 : Hid (Wd.wfault ks W = 4) := by unfold Hid; rw [WG.out U0.out, if_pos h12]
              have h12i : (12 : Int) < (W.qs.length : Int) := by omega
              go_wp2
              go_ret
              exact ⟨_, rfl, by rw [F4.out]; exact Er.no (by decide), BR.out⟩
            · have h12i : ¬ (12 : Int) < (W.qs.length : Int) := by omega
              have FJ : Hid (Wd.wfault ks W = Wd.jobsGo ks W W.qs) := by unfold Hid; rw [WG.out U0.out, if_neg h12]
              have ALL : Hid (∀ u ∈ W.us, 0 ≤ u.kind ∧ u.kind < (ks.length : Int)) := fun u hu => by
                obtain ⟨j, hj⟩ := units_all W.us 0 U0.out u hu
                exact fault_kind hj
              go_wp2
              clear x8
              go_loopw [51] (fun iv V => ∃ i : Nat, i ≤ W.qs.length ∧ iv = .int .i64 (i : Nat) ∧ Wd.jobsGo ks W (W.qs.drop i) = Wd.jobsGo ks W W.qs ∧ Bw V w.heap.size W (.slice p1 W.gs.length q1) (.slice p2 W.os.length q2) (.slice p3 W.gold.length q3) (.slice p4 W.us.length q4) (.slice p5 W.qs.length q5) ∧ Below w.heap.size w V) (fun iv _ => W.qs.length - (intOf iv).toNat)
              case atStart => exact ⟨0, Nat.zero_le _, rfl, rfl, XR.out, BR.out⟩
              case round =>
                obtain ⟨i, hi, rfl, hgo, hX, hB⟩ := hrel
                have XR : Hid (Bw wr w.heap.size W (.slice p1 W.gs.length q1) (.slice p2 W.os.length q2) (.slice p3 W.gold.length q3) (.slice p4 W.us.length q4) (.slice p5 W.qs.length q5)) := hX
                have BR : Hid (Below w.heap.size w wr) := hB
                have GO : Hid (Wd.jobsGo ks W (W.qs.drop i) = Wd.jobsGo ks W W.qs) := hgo
                clear hX hB hgo
                by_cases hil : i = W.qs.length
                · have J0 : Hid (Wd.wfault ks W = 0) := by unfold Hid; rw [FJ.out, ← GO.out, hil, List.drop_length]; rfl
                  subst hil
                  clear hi
                  go_wp2
                  go_ret
                  exact ⟨_, rfl, by rw [J0.out]; exact Er.nil, BR.out⟩
                · have hlt : i < W.qs.length := by omega
                  have hli : (i : Int) < (W.qs.length : Int) := by omega
                  obtain ⟨j, hj⟩ : ∃ j, W.qs[i]? = some j := ⟨_, List.getElem?_eq_getElem hlt⟩
                  obtain ⟨x, rfl, hx, hcell⟩ := JC.out (by intro e; rw [e] at hlt; simp at hlt)
                  obtain ⟨d0, d1, d2, d3⟩ := (hcell i j hj).below BR.out (by rw [add_block]; exact hx)
                  have GA : Hid (Wd.jobsGo ks W W.qs = if Wd.jobFault ks W j = 0 then Wd.jobsGo ks W (W.qs.drop (i + 1)) else Wd.jobFault ks W j) := by unfold Hid; rw [← GO.out, Wd.jobsGo_at hj]
                  obtain ⟨x0, x1, x2, x3, x4, x5, x6, x7, x8⟩ := XR.out
                  clear hcell hx hj hil
                  go_upto_region 21 with fail
                  have BA : Hid (Below wr.heap.size wr (wr.alloc (Obj.cells #[.int .i64 j.player, .int .i64 j.unit, .int .i64 j.kind, .int .i64 j.left] 64))) := (Below.refl _ _).alloc (Nat.le_refl _) _
                  have J1 : Hid (Jbc (wr.alloc (Obj.cells #[.int .i64 j.player, .int .i64 j.unit, .int .i64 j.kind, .int .i64 j.left] 64)) ⟨wr.heap.size, 0, none⟩ j) := Jbc.mk' j rfl
                  generalize (wr.alloc (Obj.cells #[.int .i64 j.player, .int .i64 j.unit, .int .i64 j.kind, .int .i64 j.left] 64)) = w5 at *
                  have B5 : Hid (Below w.heap.size w w5) := BR.out.trans (BA.out.mono BR.out.size)
                  have X5 : Hid (Bw w5 w.heap.size W (.slice p1 W.gs.length q1) (.slice p2 W.os.length q2) (.slice p3 W.gold.length q3) (.slice p4 W.us.length q4) (.slice (some x) W.qs.length q5)) := XR.out.below BA.out XR.out.lt
                  clear d0 d1 d2 d3 x0 x1 x2 x3 x4 x5 x6 x7 x8 XR BR BA
                  obtain ⟨x0, x1, x2, x3, x4, x5, x6, x7, x8⟩ := X5.out
                  obtain ⟨j0, j1, j2, j3⟩ := J1.out
                  generalize wr.heap.size = zj at *
                  simp only [Nat.zero_add] at j1 j2 j3
                  go_wp2_with fail
                  refine (job_any _ _ ks W j w5 (K.out.1.below B5.out) (H.out.below B5.out) US.out KL.out ALL.out).mono ?_
                  rintro e w6 ⟨r, rfl, hr, hb6⟩
                  have B6 : Hid (Below w.heap.size w w6) := B5.out.trans (hb6.mono B5.out.size)
                  have X6 : Hid (Bw w6 w.heap.size W (.slice p1 W.gs.length q1) (.slice p2 W.os.length q2) (.slice p3 W.gold.length q3) (.slice p4 W.us.length q4) (.slice (some x) W.qs.length q5)) := X5.out.below hb6 X5.out.lt
                  clear hb6 x0 x1 x2 x3 x4 x5 x6 x7 x8 j0 j1 j2 j3 X5 B5 J1
                  rcases hr with ⟨h0, rfl⟩ | ⟨h0, rfl⟩
                  · have G2 : Hid (Wd.jobsGo ks W (W.qs.drop (i + 1)) = Wd.jobsGo ks W W.qs) := by unfold Hid; rw [GA.out, if_pos h0]
                    clear h0
                    go_wp2
                    go_roundw
                    case rel => exact ⟨i + 1, by omega, rfl, G2.out, X6.out, B6.out⟩
                    case measure => simp [intOf]; omega
                  · have FB : Hid (Wd.wfault ks W = Wd.jobFault ks W j) := by unfold Hid; rw [FJ.out, GA.out, if_neg h0]
                    have H0 : Hid (Wd.jobFault ks W j ≠ 0) := h0
                    clear h0
                    go_wp2
                    go_ret
                    exact ⟨_, rfl, by rw [FB.out]; exact Er.no H0.out, B6.out⟩
          · have hlt : i < W.us.length := by omega
            have hli : (i : Int) < (W.us.length : Int) := by omega
            obtain ⟨u, hu⟩ : ∃ u, W.us[i]? = some u := ⟨_, List.getElem?_eq_getElem hlt⟩
            have HU : Hid (W.us[i]? = some u) := hu
            have GA : Hid (Wd.unitsGo ks W 0 W.us = if Wd.unitFault ks W i u = 0 then Wd.unitsGo ks W (i + 1) (W.us.drop (i + 1)) else Wd.unitFault ks W i u) := by unfold Hid; rw [← GO.out, Wd.unitsGo_at hu]
            obtain ⟨x0, x1, x2, x3, x4, x5, x6, x7, x8⟩ := XR.out
            clear hu hil
            go_wp2_with fail
            refine (unit_any _ _ ks W Wn Hn i u wr (K.out.1.below BR.out) (H.out.below BR.out) GG.out.1 GG.out.2.1 GG.out.2.2 HU.out (nums_ok HN.out).1 US.out KL.out (nums_ok HN.out).2).mono ?_
            rintro e w6 ⟨r, rfl, hr, hb6⟩
            have B6 : Hid (Below w.heap.size w w6) := BR.out.trans (hb6.mono BR.out.size)
            have X6 : Hid (Bw w6 w.heap.size W (.slice p1 W.gs.length q1) (.slice p2 W.os.length q2) (.slice p3 W.gold.length q3) (.slice p4 W.us.length q4) (.slice p5 W.qs.length q5)) := XR.out.below hb6 XR.out.lt
            clear hb6 x0 x1 x2 x3 x4 x5 x6 x7 x8 XR BR
            rcases hr with ⟨h0, rfl⟩ | ⟨h0, rfl⟩
            · have G2 : Hid (Wd.unitsGo ks W (i + 1) (W.us.drop (i + 1)) = Wd.unitsGo ks W 0 W.us) := by unfold Hid; rw [GA.out, if_pos h0]
              clear h0
              go_wp2
              go_roundw
              case rel => exact ⟨i + 1, by omega, rfl, G2.out, X6.out, B6.out⟩
              case measure => simp [intOf]; omega
            · have EU : Wd.unitsGo ks W 0 W.us = Wd.unitFault ks W i u := by rw [GA.out, if_neg h0]
              have FB : Hid (Wd.wfault ks W = Wd.unitFault ks W i u) := by unfold Hid; rw [WF.out (by rw [EU]; exact h0), EU]
              have H0 : Hid (Wd.unitFault ks W i u ≠ 0) := h0
              clear h0 EU
              go_wp2
              go_ret
              exact ⟨_, rfl, by rw [FB.out]; exact Er.no H0.out, B6.out⟩
    · have F1 : Hid (Wd.wfault ks W = numsF W) := by
        unfold Hid Wd.wfault
        unfold numsF at hn ⊢
        have hbad : Wd.numsBad W = true := by
          cases h : Wd.numsBad W with
          | true => rfl
          | false => rw [h] at hn; exact absurd rfl hn
        rw [if_neg (by rw [HZ.out]; simp), hbad]
        rfl
      have H0 : Hid (numsF W ≠ 0) := hn
      clear hn
      go_wp2
      go_ret
      exact ⟨_, rfl, by rw [F1.out]; exact Er.no H0.out, B2.out⟩
  · have F1 : Hid (Wd.wfault ks W = Wd.ground ks W) := by unfold Hid Wd.wfault; rw [if_pos hz]
    have H0 : Hid (Wd.ground ks W ≠ 0) := hz
    clear hz
    go_wp2
    go_ret
    exact ⟨_, rfl, by rw [F1.out]; exact Er.no H0.out, B1.out⟩
end Go.Proofs.Ytagnjmellcibhaa

namespace Go.Proofs.Ytagnjmellcibhaa
open Go.RowKit
set_option linter.unusedVariables false

theorem len_jb (ks : List JbV) : (ks.flatMap JbV.cs).length = ks.length * 4 := by
  induction ks with
  | nil => rfl
  | cons x l ih => rw [List.flatMap_cons, List.length_append, ih, List.length_cons, Nat.succ_mul, Nat.add_comm]; rfl
theorem cell_jb {w : World} {y : Addr} {ks : List JbV} (hc : ∀ (i : Nat) k, ks[i]? = some k → Jbc w (y.add (i * 4)) k) (j : Nat) (u : Value) (hj : (ks.flatMap JbV.cs)[j]? = some u) : w.cell? (y.add j) = some u := by
  have hjl : j < ks.length * 4 := by rw [← len_jb]; exact (List.getElem?_eq_some_iff.1 hj).1
  obtain ⟨i, r, hr, rfl⟩ : ∃ i r, r < 4 ∧ j = i * 4 + r := ⟨j / 4, j % 4, Nat.mod_lt _ (by decide), by omega⟩
  have hi : i < ks.length := by omega
  obtain ⟨k, hk⟩ : ∃ k, ks[i]? = some k := ⟨_, List.getElem?_eq_getElem hi⟩
  rw [flat_jb ks i r k hk hr] at hj
  have h := hc i k hk
  rcases Nat.eq_zero_or_pos r with rfl | hr0
  · simp [JbV.cs] at hj
    subst hj
    exact h.c0
  · have ea : y.add (i * 4 + r) = ⟨(y.add (i * 4)).block, (y.add (i * 4)).off + r, none⟩ := by
      unfold Addr.add
      rw [if_neg (by omega)]
      split <;> simp <;> omega
    rw [ea]
    match r, hr, hr0, hj with
    | 1, _, _, hj => simp [JbV.cs] at hj; subst hj; exact h.c1
    | 2, _, _, hj => simp [JbV.cs] at hj; subst hj; exact h.c2
    | 3, _, _, hj => simp [JbV.cs] at hj; subst hj; exact h.c3

theorem app_jbs {ops : Array Oper} {rest : List Oper} {o : Oper} {a : Act} {Q : Exit → Act → World → Prop} (w : World) (hgd : o.guard = none) (s x : Operand)
    (ho : o.op = .call { callee := .builtin .append, args := #[s, x], argTypes := #[27, 27] }) (base : Nat) (v : Value) (ks : List JbV) (hs : a.eval s = v) (hown : Jbo w base v ks)
    (u : Value) (ys : List JbV) (hx : a.eval x = u) (hu : Jbl w u ys) (hl : ks.length + ys.length ≤ 100000000) (hbase : base ≤ w.heap.size)
    (h : ∀ v' w', Jbo w' base v' (ks ++ ys) → w.grownBy w' v.ownBlock → (v'.ownBlock = v.ownBlock ∨ v'.ownBlock = some w.heap.size) → wpList Try.prog ops Q rest (a.put o.dst v') w') :
    wpList Try.prog ops Q (o :: rest) a w := by
  obtain ⟨i0, hi, hz0, hz1, hz2⟩ := info_parts info_jb
  obtain ⟨ad, c, rfl, h1, h2, h3⟩ := hu
  by_cases hn : ys = []
  · subst hn
    refine wpList_plain hgd fun K hK => ?_
    have hrun := run_append_no (P := Try.prog) (w := w) base 27 o.type 64 i0 4 Try.underlying27 hi v ks.length _ hown ad c
    have hx' : a.eval x = .slice ad 0 c := hx
    unfold Oper.wp
    simp [execOp, ho, resolve, invoke, builtin, hs, hx', hrun, Result.andThen]
    exact hK _ _ (h v w (by simpa using hown) (World.grownBy.refl _ _) (.inl rfl))
  · obtain ⟨y, rfl, hy, hc⟩ := h3 hn
    refine wpList_append_lies w hgd s x 27 ho base 64 i0 _ 4 32 Try.underlying27 hi hz0 hz1 hz2 rfl (by decide) v ks.length _ hs hown y ys.length c (ys.flatMap JbV.cs) hx (len_jb ys) (cell_jb hc) ?_ (List.length_pos_iff.2 hn) (by unfold maxLen; omega) (by omega) hbase _ rfl ?_
    · intro u hu
      obtain ⟨k, -, hk⟩ := List.mem_flatMap.1 hu
      simp [JbV.cs] at hk
      rcases hk with rfl | rfl | rfl | rfl <;> rfl
    · intro g cap w' k1 k2 k3 _
      refine h _ w' ?_ k2 ?_
      · unfold Jbo
        rw [List.length_append, List.flatMap_append]
        exact k1
      · rcases k3 with k3 | k3
        · exact .inl k3.symm
        · exact .inr (by rw [k3]; rfl)
end Go.Proofs.Ytagnjmellcibhaa

namespace Go.Proofs.Ytagnjmellcibhaa
open Go.RowKit
set_option linter.unusedVariables false

set_option maxHeartbeats 1000000 in
theorem fresh_ints (v : Value) (xs : List Int) (w : World) (h : Ro w v xs) (hl : xs.length ≤ 100000000) :
    Calls Try.prog 40 #[v] w fun e w' => ∃ u, e = .returned u ∧ Ow w' w.heap.size u xs ∧ Below w.heap.size w w' := by
  have H : Hid (Ro w v xs) := h
  clear h
  go_enter Try.func40, Try.ntmps40
  go_wp2_with (at_builtin; refine app_row _ rfl _ _ rfl w.heap.size _ [] rfl (Ow.nil _ _) _ xs rfl H.out (by simpa using Nat.le_trans hl (by decide)) (Nat.le_refl _) ?_)
  intro u w1 o1 g1 _
  have F : Hid (Ow w1 w.heap.size u xs ∧ Below w.heap.size w w1) := ⟨o1, (Below.refl _ _).grown g1 (Nat.le_refl _) (fun k hk => by cases hk)⟩
  clear o1 g1
  go_wp2
  go_ret
  exact ⟨_, rfl, F.out.1, F.out.2⟩
set_option maxHeartbeats 1000000 in
theorem fresh_uns (v : Value) (xs : List UnV) (w : World) (h : Unl w v xs) (hl : xs.length ≤ 100000000) :
    Calls Try.prog 41 #[v] w fun e w' => ∃ u, e = .returned u ∧ Uno w' w.heap.size u xs ∧ Below w.heap.size w w' := by
  have H : Hid (Unl w v xs) := h
  clear h
  go_enter Try.func41, Try.ntmps41
  go_wp2_with (at_builtin; refine app_uns _ rfl _ _ rfl w.heap.size _ [] rfl (Uno.nil _ _) _ xs rfl H.out (by simpa using Nat.le_trans hl (by decide)) (Nat.le_refl _) ?_)
  intro u w1 o1 g1 _
  have F : Hid (Uno w1 w.heap.size u xs ∧ Below w.heap.size w w1) := ⟨o1, (Below.refl _ _).grown g1 (Nat.le_refl _) (fun k hk => by cases hk)⟩
  clear o1 g1
  go_wp2
  go_ret
  exact ⟨_, rfl, F.out.1, F.out.2⟩
set_option maxHeartbeats 1000000 in
theorem fresh_jbs (v : Value) (xs : List JbV) (w : World) (h : Jbl w v xs) (hl : xs.length ≤ 100000000) :
    Calls Try.prog 42 #[v] w fun e w' => ∃ u, e = .returned u ∧ Jbo w' w.heap.size u xs ∧ Below w.heap.size w w' := by
  have H : Hid (Jbl w v xs) := h
  clear h
  go_enter Try.func42, Try.ntmps42
  go_wp2_with (at_builtin; refine app_jbs _ rfl _ _ rfl w.heap.size _ [] rfl (Jbo.nil _ _) _ xs rfl H.out (by simpa using Nat.le_trans hl (by decide)) (Nat.le_refl _) ?_)
  intro u w1 o1 g1 _
  have F : Hid (Jbo w1 w.heap.size u xs ∧ Below w.heap.size w w1) := ⟨o1, (Below.refl _ _).grown g1 (Nat.le_refl _) (fun k hk => by cases hk)⟩
  clear o1 g1
  go_wp2
  go_ret
  exact ⟨_, rfl, F.out.1, F.out.2⟩
/-- lists that may be copied. -/
structure WLen (W : WV) : Prop where
  g : W.gs.length ≤ 100000000
  o : W.os.length ≤ 100000000
  p : W.gold.length ≤ 100000000
  u : W.us.length ≤ 100000000
  q : W.qs.length ≤ 100000000
set_option maxRecDepth 100000 in
set_option maxHeartbeats 4000000 in
theorem copy_any (v : Value) (W : WV) (w : World) (h : Wl w v W) (hl : WLen W) :
    Calls Try.prog 22 #[v] w fun e w' => ∃ u, e = .returned u ∧ Wi w' w.heap.size u W ∧ Below w.heap.size w w' := by
  have H : Hid (Wl w v W) := h
  have L : Hid (WLen W) := hl
  obtain ⟨u1, u2, u3, u4, u5, rfl, -, -, -, -, -⟩ := h
  clear hl
  go_enter Try.func22, Try.ntmps22
  go_upto_region 1 with fail
  have B0 : Hid (Below w.heap.size w ((w.alloc (.cells #[.int .i64 W.turn, .int .i64 W.next, .int .i64 W.wide, .int .i64 W.high, u1, u2, u3, u4, u5] 29)).alloc (.cells #[.int .i64 0, .int .i64 0, .int .i64 0, .int .i64 0, .slice none 0 0, .slice none 0 0, .slice none 0 0, .slice none 0 0, .slice none 0 0] 29))) := ((Below.refl _ _).alloc (Nat.le_refl _) _).alloc (by simp) _
  have X0 : Hid (Wx ((w.alloc (.cells #[.int .i64 W.turn, .int .i64 W.next, .int .i64 W.wide, .int .i64 W.high, u1, u2, u3, u4, u5] 29)).alloc (.cells #[.int .i64 0, .int .i64 0, .int .i64 0, .int .i64 0, .slice none 0 0, .slice none 0 0, .slice none 0 0, .slice none 0 0, .slice none 0 0] 29)) w.heap.size (.int .i64 W.turn) (.int .i64 W.next) (.int .i64 W.wide) (.int .i64 W.high) u1 u2 u3 u4 u5) := (Wx.new (w := w) _ _ _ _ _ _ _ _ _ rfl).below ((Below.refl _ _).alloc (Nat.le_refl _) _) (by simp)
  have Z0 : Hid (Wx ((w.alloc (.cells #[.int .i64 W.turn, .int .i64 W.next, .int .i64 W.wide, .int .i64 W.high, u1, u2, u3, u4, u5] 29)).alloc (.cells #[.int .i64 0, .int .i64 0, .int .i64 0, .int .i64 0, .slice none 0 0, .slice none 0 0, .slice none 0 0, .slice none 0 0, .slice none 0 0] 29)) (w.heap.size + 1) (.int .i64 0) (.int .i64 0) (.int .i64 0) (.int .i64 0) (.slice none 0 0) (.slice none 0 0) (.slice none 0 0) (.slice none 0 0) (.slice none 0 0)) := Wx.new _ _ _ _ _ _ _ _ _ (by simp)
  have S0 : Hid (w.heap.size + 2 ≤ ((w.alloc (.cells #[.int .i64 W.turn, .int .i64 W.next, .int .i64 W.wide, .int .i64 W.high, u1, u2, u3, u4, u5] 29)).alloc (.cells #[.int .i64 0, .int .i64 0, .int .i64 0, .int .i64 0, .slice none 0 0, .slice none 0 0, .slice none 0 0, .slice none 0 0, .slice none 0 0] 29)).heap.size) := by unfold Hid; simp
  generalize ((w.alloc (.cells #[.int .i64 W.turn, .int .i64 W.next, .int .i64 W.wide, .int .i64 W.high, u1, u2, u3, u4, u5] 29)).alloc (.cells #[.int .i64 0, .int .i64 0, .int .i64 0, .int .i64 0, .slice none 0 0, .slice none 0 0, .slice none 0 0, .slice none 0 0, .slice none 0 0] 29)) = w0 at *
  obtain ⟨x0, x1, x2, x3, x4, x5, x6, x7, x8⟩ := X0.out.cells
  go_wp2_with fail
  refine (fresh_ints _ W.gs w0 ((H.out.below B0.out).slices.1) L.out.g).mono ?_
  rintro e a1 ⟨v1, rfl, ho, hb⟩
  clear x0 x1 x2 x3 x4 x5 x6 x7 x8
  have BA : Hid (Below w.heap.size w a1) := B0.out.trans (hb.mono B0.out.size)
  have SA : Hid (w.heap.size + 2 ≤ a1.heap.size) := Nat.le_trans S0.out hb.size
  have XA : Hid (Wx a1 w.heap.size (.int .i64 W.turn) (.int .i64 W.next) (.int .i64 W.wide) (.int .i64 W.high) u1 u2 u3 u4 u5) := X0.out.below hb X0.out.lt
  have ZA : Hid (Wx a1 (w.heap.size + 1) (.int .i64 0) (.int .i64 0) (.int .i64 0) (.int .i64 0) (.slice none 0 0) (.slice none 0 0) (.slice none 0 0) (.slice none 0 0) (.slice none 0 0)) := Z0.out.below hb Z0.out.lt
  have OA : Hid (Ow a1 (w.heap.size + 2) v1 W.gs) := ho.mono S0.out
  obtain ⟨p1, q1, rfl⟩ := ho.len
  have t := XA.out.thaw 4
  obtain ⟨-, -, -, -, x, -, -, -, -⟩ := XA.out.cells
  clear hb ho 
  go_upto_region 2 with fail
  have KW : Hid (Kp w.heap.size a1 (a1.setCell ⟨w.heap.size, 4, none⟩ (.slice p1 W.gs.length q1))) := Kp.set _ _ _
  have X1 : Hid (Wx (a1.setCell ⟨w.heap.size, 4, none⟩ (.slice p1 W.gs.length q1)) w.heap.size (.int .i64 W.turn) (.int .i64 W.next) (.int .i64 W.wide) (.int .i64 W.high) (.slice p1 W.gs.length q1) u2 u3 u4 u5) := XA.out.set4 _
  clear t x XA X0 Z0
  generalize (a1.setCell ⟨w.heap.size, 4, none⟩ (.slice p1 W.gs.length q1)) = w1 at *
  have B1 : Hid (Below w.heap.size w w1) := KW.out.below BA.out BA.out.size (Nat.le_refl _)
  have S1 : Hid (w.heap.size + 2 ≤ w1.heap.size) := Nat.le_trans SA.out KW.out.size
  have Z1 : Hid (Wx w1 (w.heap.size + 1) (.int .i64 0) (.int .i64 0) (.int .i64 0) (.int .i64 0) (.slice none 0 0) (.slice none 0 0) (.slice none 0 0) (.slice none 0 0) (.slice none 0 0)) := ZA.out.kp KW.out (by omega)
  have P1_1 : Hid (Ow w1 (w.heap.size + 2) (.slice p1 W.gs.length q1) W.gs) := OA.out.kp KW.out (by omega)
  clear BA SA ZA OA KW 
  obtain ⟨x0, x1, x2, x3, x4, x5, x6, x7, x8⟩ := X1.out.cells
  go_wp2_with fail
  refine (fresh_ints _ W.os w1 ((H.out.below B1.out).slices.2.1) L.out.o).mono ?_
  rintro e a2 ⟨v2, rfl, ho, hb⟩
  clear x0 x1 x2 x3 x4 x5 x6 x7 x8
  have BA : Hid (Below w.heap.size w a2) := B1.out.trans (hb.mono B1.out.size)
  have SA : Hid (w.heap.size + 2 ≤ a2.heap.size) := Nat.le_trans S1.out hb.size
  have XA : Hid (Wx a2 w.heap.size (.int .i64 W.turn) (.int .i64 W.next) (.int .i64 W.wide) (.int .i64 W.high) (.slice p1 W.gs.length q1) u2 u3 u4 u5) := X1.out.below hb X1.out.lt
  have ZA : Hid (Wx a2 (w.heap.size + 1) (.int .i64 0) (.int .i64 0) (.int .i64 0) (.int .i64 0) (.slice none 0 0) (.slice none 0 0) (.slice none 0 0) (.slice none 0 0) (.slice none 0 0)) := Z1.out.below hb Z1.out.lt
  have OA : Hid (Ow a2 (w.heap.size + 2) v2 W.os) := ho.mono S1.out
  have PA1 : Hid (Ow a2 (w.heap.size + 2) (.slice p1 W.gs.length q1) W.gs) := P1_1.out.below hb
  have D1_2 : Hid (Dif (.slice p1 W.gs.length q1) v2) := Dif.of (fun k hk => (P1_1.out.block k hk).2) (fun k hk => (ho.block k hk).1)
  obtain ⟨p2, q2, rfl⟩ := ho.len
  have t := XA.out.thaw 5
  obtain ⟨-, -, -, -, -, x, -, -, -⟩ := XA.out.cells
  clear hb ho P1_1
  go_upto_region 3 with fail
  have KW : Hid (Kp w.heap.size a2 (a2.setCell ⟨w.heap.size, 5, none⟩ (.slice p2 W.os.length q2))) := Kp.set _ _ _
  have X2 : Hid (Wx (a2.setCell ⟨w.heap.size, 5, none⟩ (.slice p2 W.os.length q2)) w.heap.size (.int .i64 W.turn) (.int .i64 W.next) (.int .i64 W.wide) (.int .i64 W.high) (.slice p1 W.gs.length q1) (.slice p2 W.os.length q2) u3 u4 u5) := XA.out.set5 _
  clear t x XA X1 Z1
  generalize (a2.setCell ⟨w.heap.size, 5, none⟩ (.slice p2 W.os.length q2)) = w2 at *
  have B2 : Hid (Below w.heap.size w w2) := KW.out.below BA.out BA.out.size (Nat.le_refl _)
  have S2 : Hid (w.heap.size + 2 ≤ w2.heap.size) := Nat.le_trans SA.out KW.out.size
  have Z2 : Hid (Wx w2 (w.heap.size + 1) (.int .i64 0) (.int .i64 0) (.int .i64 0) (.int .i64 0) (.slice none 0 0) (.slice none 0 0) (.slice none 0 0) (.slice none 0 0) (.slice none 0 0)) := ZA.out.kp KW.out (by omega)
  have P2_2 : Hid (Ow w2 (w.heap.size + 2) (.slice p2 W.os.length q2) W.os) := OA.out.kp KW.out (by omega)
  have P1_2 : Hid (Ow w2 (w.heap.size + 2) (.slice p1 W.gs.length q1) W.gs) := PA1.out.kp KW.out (by omega)
  clear BA SA ZA OA KW PA1
  obtain ⟨x0, x1, x2, x3, x4, x5, x6, x7, x8⟩ := X2.out.cells
  go_wp2_with fail
  refine (fresh_ints _ W.gold w2 ((H.out.below B2.out).slices.2.2.1) L.out.p).mono ?_
  rintro e a3 ⟨v3, rfl, ho, hb⟩
  clear x0 x1 x2 x3 x4 x5 x6 x7 x8
  have BA : Hid (Below w.heap.size w a3) := B2.out.trans (hb.mono B2.out.size)
  have SA : Hid (w.heap.size + 2 ≤ a3.heap.size) := Nat.le_trans S2.out hb.size
  have XA : Hid (Wx a3 w.heap.size (.int .i64 W.turn) (.int .i64 W.next) (.int .i64 W.wide) (.int .i64 W.high) (.slice p1 W.gs.length q1) (.slice p2 W.os.length q2) u3 u4 u5) := X2.out.below hb X2.out.lt
  have ZA : Hid (Wx a3 (w.heap.size + 1) (.int .i64 0) (.int .i64 0) (.int .i64 0) (.int .i64 0) (.slice none 0 0) (.slice none 0 0) (.slice none 0 0) (.slice none 0 0) (.slice none 0 0)) := Z2.out.below hb Z2.out.lt
  have OA : Hid (Ow a3 (w.heap.size + 2) v3 W.gold) := ho.mono S2.out
  have PA1 : Hid (Ow a3 (w.heap.size + 2) (.slice p1 W.gs.length q1) W.gs) := P1_2.out.below hb
  have PA2 : Hid (Ow a3 (w.heap.size + 2) (.slice p2 W.os.length q2) W.os) := P2_2.out.below hb
  have D1_3 : Hid (Dif (.slice p1 W.gs.length q1) v3) := Dif.of (fun k hk => (P1_2.out.block k hk).2) (fun k hk => (ho.block k hk).1)
  have D2_3 : Hid (Dif (.slice p2 W.os.length q2) v3) := Dif.of (fun k hk => (P2_2.out.block k hk).2) (fun k hk => (ho.block k hk).1)
  obtain ⟨p3, q3, rfl⟩ := ho.len
  have t := XA.out.thaw 6
  obtain ⟨-, -, -, -, -, -, x, -, -⟩ := XA.out.cells
  clear hb ho P1_2 P2_2
  go_upto_region 4 with fail
  have KW : Hid (Kp w.heap.size a3 (a3.setCell ⟨w.heap.size, 6, none⟩ (.slice p3 W.gold.length q3))) := Kp.set _ _ _
  have X3 : Hid (Wx (a3.setCell ⟨w.heap.size, 6, none⟩ (.slice p3 W.gold.length q3)) w.heap.size (.int .i64 W.turn) (.int .i64 W.next) (.int .i64 W.wide) (.int .i64 W.high) (.slice p1 W.gs.length q1) (.slice p2 W.os.length q2) (.slice p3 W.gold.length q3) u4 u5) := XA.out.set6 _
  clear t x XA X2 Z2
  generalize (a3.setCell ⟨w.heap.size, 6, none⟩ (.slice p3 W.gold.length q3)) = w3 at *
  have B3 : Hid (Below w.heap.size w w3) := KW.out.below BA.out BA.out.size (Nat.le_refl _)
  have S3 : Hid (w.heap.size + 2 ≤ w3.heap.size) := Nat.le_trans SA.out KW.out.size
  have Z3 : Hid (Wx w3 (w.heap.size + 1) (.int .i64 0) (.int .i64 0) (.int .i64 0) (.int .i64 0) (.slice none 0 0) (.slice none 0 0) (.slice none 0 0) (.slice none 0 0) (.slice none 0 0)) := ZA.out.kp KW.out (by omega)
  have P3_3 : Hid (Ow w3 (w.heap.size + 2) (.slice p3 W.gold.length q3) W.gold) := OA.out.kp KW.out (by omega)
  have P1_3 : Hid (Ow w3 (w.heap.size + 2) (.slice p1 W.gs.length q1) W.gs) := PA1.out.kp KW.out (by omega)
  have P2_3 : Hid (Ow w3 (w.heap.size + 2) (.slice p2 W.os.length q2) W.os) := PA2.out.kp KW.out (by omega)
  clear BA SA ZA OA KW PA1 PA2
  obtain ⟨x0, x1, x2, x3, x4, x5, x6, x7, x8⟩ := X3.out.cells
  go_wp2_with fail
  refine (fresh_uns _ W.us w3 ((H.out.below B3.out).slices.2.2.2.1) L.out.u).mono ?_
  rintro e a4 ⟨v4, rfl, ho, hb⟩
  clear x0 x1 x2 x3 x4 x5 x6 x7 x8
  have BA : Hid (Below w.heap.size w a4) := B3.out.trans (hb.mono B3.out.size)
  have SA : Hid (w.heap.size + 2 ≤ a4.heap.size) := Nat.le_trans S3.out hb.size
  have XA : Hid (Wx a4 w.heap.size (.int .i64 W.turn) (.int .i64 W.next) (.int .i64 W.wide) (.int .i64 W.high) (.slice p1 W.gs.length q1) (.slice p2 W.os.length q2) (.slice p3 W.gold.length q3) u4 u5) := X3.out.below hb X3.out.lt
  have ZA : Hid (Wx a4 (w.heap.size + 1) (.int .i64 0) (.int .i64 0) (.int .i64 0) (.int .i64 0) (.slice none 0 0) (.slice none 0 0) (.slice none 0 0) (.slice none 0 0) (.slice none 0 0)) := Z3.out.below hb Z3.out.lt
  have OA : Hid (Uno a4 (w.heap.size + 2) v4 W.us) := ho.mono S3.out
  have PA1 : Hid (Ow a4 (w.heap.size + 2) (.slice p1 W.gs.length q1) W.gs) := P1_3.out.below hb
  have PA2 : Hid (Ow a4 (w.heap.size + 2) (.slice p2 W.os.length q2) W.os) := P2_3.out.below hb
  have PA3 : Hid (Ow a4 (w.heap.size + 2) (.slice p3 W.gold.length q3) W.gold) := P3_3.out.below hb
  have D1_4 : Hid (Dif (.slice p1 W.gs.length q1) v4) := Dif.of (fun k hk => (P1_3.out.block k hk).2) (fun k hk => (ho.block k hk).1)
  have D2_4 : Hid (Dif (.slice p2 W.os.length q2) v4) := Dif.of (fun k hk => (P2_3.out.block k hk).2) (fun k hk => (ho.block k hk).1)
  have D3_4 : Hid (Dif (.slice p3 W.gold.length q3) v4) := Dif.of (fun k hk => (P3_3.out.block k hk).2) (fun k hk => (ho.block k hk).1)
  obtain ⟨p4, q4, rfl⟩ := ho.len
  have t := XA.out.thaw 7
  obtain ⟨-, -, -, -, -, -, -, x, -⟩ := XA.out.cells
  clear hb ho P1_3 P2_3 P3_3
  go_upto_region 5 with fail
  have KW : Hid (Kp w.heap.size a4 (a4.setCell ⟨w.heap.size, 7, none⟩ (.slice p4 W.us.length q4))) := Kp.set _ _ _
  have X4 : Hid (Wx (a4.setCell ⟨w.heap.size, 7, none⟩ (.slice p4 W.us.length q4)) w.heap.size (.int .i64 W.turn) (.int .i64 W.next) (.int .i64 W.wide) (.int .i64 W.high) (.slice p1 W.gs.length q1) (.slice p2 W.os.length q2) (.slice p3 W.gold.length q3) (.slice p4 W.us.length q4) u5) := XA.out.set7 _
  clear t x XA X3 Z3
  generalize (a4.setCell ⟨w.heap.size, 7, none⟩ (.slice p4 W.us.length q4)) = w4 at *
  have B4 : Hid (Below w.heap.size w w4) := KW.out.below BA.out BA.out.size (Nat.le_refl _)
  have S4 : Hid (w.heap.size + 2 ≤ w4.heap.size) := Nat.le_trans SA.out KW.out.size
  have Z4 : Hid (Wx w4 (w.heap.size + 1) (.int .i64 0) (.int .i64 0) (.int .i64 0) (.int .i64 0) (.slice none 0 0) (.slice none 0 0) (.slice none 0 0) (.slice none 0 0) (.slice none 0 0)) := ZA.out.kp KW.out (by omega)
  have P4_4 : Hid (Uno w4 (w.heap.size + 2) (.slice p4 W.us.length q4) W.us) := OA.out.kp KW.out (by omega)
  have P1_4 : Hid (Ow w4 (w.heap.size + 2) (.slice p1 W.gs.length q1) W.gs) := PA1.out.kp KW.out (by omega)
  have P2_4 : Hid (Ow w4 (w.heap.size + 2) (.slice p2 W.os.length q2) W.os) := PA2.out.kp KW.out (by omega)
  have P3_4 : Hid (Ow w4 (w.heap.size + 2) (.slice p3 W.gold.length q3) W.gold) := PA3.out.kp KW.out (by omega)
  clear BA SA ZA OA KW PA1 PA2 PA3
  obtain ⟨x0, x1, x2, x3, x4, x5, x6, x7, x8⟩ := X4.out.cells
  go_wp2_with fail
  refine (fresh_jbs _ W.qs w4 ((H.out.below B4.out).slices.2.2.2.2) L.out.q).mono ?_
  rintro e a5 ⟨v5, rfl, ho, hb⟩
  clear x0 x1 x2 x3 x4 x5 x6 x7 x8
  have BA : Hid (Below w.heap.size w a5) := B4.out.trans (hb.mono B4.out.size)
  have SA : Hid (w.heap.size + 2 ≤ a5.heap.size) := Nat.le_trans S4.out hb.size
  have XA : Hid (Wx a5 w.heap.size (.int .i64 W.turn) (.int .i64 W.next) (.int .i64 W.wide) (.int .i64 W.high) (.slice p1 W.gs.length q1) (.slice p2 W.os.length q2) (.slice p3 W.gold.length q3) (.slice p4 W.us.length q4) u5) := X4.out.below hb X4.out.lt
  have ZA : Hid (Wx a5 (w.heap.size + 1) (.int .i64 0) (.int .i64 0) (.int .i64 0) (.int .i64 0) (.slice none 0 0) (.slice none 0 0) (.slice none 0 0) (.slice none 0 0) (.slice none 0 0)) := Z4.out.below hb Z4.out.lt
  have OA : Hid (Jbo a5 (w.heap.size + 2) v5 W.qs) := ho.mono S4.out
  have PA1 : Hid (Ow a5 (w.heap.size + 2) (.slice p1 W.gs.length q1) W.gs) := P1_4.out.below hb
  have PA2 : Hid (Ow a5 (w.heap.size + 2) (.slice p2 W.os.length q2) W.os) := P2_4.out.below hb
  have PA3 : Hid (Ow a5 (w.heap.size + 2) (.slice p3 W.gold.length q3) W.gold) := P3_4.out.below hb
  have PA4 : Hid (Uno a5 (w.heap.size + 2) (.slice p4 W.us.length q4) W.us) := P4_4.out.below hb
  have D1_5 : Hid (Dif (.slice p1 W.gs.length q1) v5) := Dif.of (fun k hk => (P1_4.out.block k hk).2) (fun k hk => (ho.block k hk).1)
  have D2_5 : Hid (Dif (.slice p2 W.os.length q2) v5) := Dif.of (fun k hk => (P2_4.out.block k hk).2) (fun k hk => (ho.block k hk).1)
  have D3_5 : Hid (Dif (.slice p3 W.gold.length q3) v5) := Dif.of (fun k hk => (P3_4.out.block k hk).2) (fun k hk => (ho.block k hk).1)
  have D4_5 : Hid (Dif (.slice p4 W.us.length q4) v5) := Dif.of (fun k hk => (P4_4.out.block k hk).2) (fun k hk => (ho.block k hk).1)
  obtain ⟨p5, q5, rfl⟩ := ho.len
  have t := XA.out.thaw 8
  obtain ⟨-, -, -, -, -, -, -, -, x⟩ := XA.out.cells
  clear hb ho P1_4 P2_4 P3_4 P4_4
  go_upto_region 6 with fail
  have KW : Hid (Kp w.heap.size a5 (a5.setCell ⟨w.heap.size, 8, none⟩ (.slice p5 W.qs.length q5))) := Kp.set _ _ _
  have X5 : Hid (Wx (a5.setCell ⟨w.heap.size, 8, none⟩ (.slice p5 W.qs.length q5)) w.heap.size (.int .i64 W.turn) (.int .i64 W.next) (.int .i64 W.wide) (.int .i64 W.high) (.slice p1 W.gs.length q1) (.slice p2 W.os.length q2) (.slice p3 W.gold.length q3) (.slice p4 W.us.length q4) (.slice p5 W.qs.length q5)) := XA.out.set8 _
  clear t x XA X4 Z4
  generalize (a5.setCell ⟨w.heap.size, 8, none⟩ (.slice p5 W.qs.length q5)) = w5 at *
  have B5 : Hid (Below w.heap.size w w5) := KW.out.below BA.out BA.out.size (Nat.le_refl _)
  have S5 : Hid (w.heap.size + 2 ≤ w5.heap.size) := Nat.le_trans SA.out KW.out.size
  have Z5 : Hid (Wx w5 (w.heap.size + 1) (.int .i64 0) (.int .i64 0) (.int .i64 0) (.int .i64 0) (.slice none 0 0) (.slice none 0 0) (.slice none 0 0) (.slice none 0 0) (.slice none 0 0)) := ZA.out.kp KW.out (by omega)
  have P5_5 : Hid (Jbo w5 (w.heap.size + 2) (.slice p5 W.qs.length q5) W.qs) := OA.out.kp KW.out (by omega)
  have P1_5 : Hid (Ow w5 (w.heap.size + 2) (.slice p1 W.gs.length q1) W.gs) := PA1.out.kp KW.out (by omega)
  have P2_5 : Hid (Ow w5 (w.heap.size + 2) (.slice p2 W.os.length q2) W.os) := PA2.out.kp KW.out (by omega)
  have P3_5 : Hid (Ow w5 (w.heap.size + 2) (.slice p3 W.gold.length q3) W.gold) := PA3.out.kp KW.out (by omega)
  have P4_5 : Hid (Uno w5 (w.heap.size + 2) (.slice p4 W.us.length q4) W.us) := PA4.out.kp KW.out (by omega)
  clear BA SA ZA OA KW PA1 PA2 PA3 PA4
  obtain ⟨x0, x1, x2, x3, x4, x5, x6, x7, x8⟩ := X5.out.cells
  obtain ⟨z0, z1, z2, z3, z4, z5, z6, z7, z8⟩ := Z5.out.cells
  obtain ⟨t0, t1, t2, t3, t4, t5, t6, t7, t8⟩ := Z5.out.thaws
  have KZ : Hid (Kp (w.heap.size + 1) w5 (((((((((w5.setCell ⟨w.heap.size + 1, 0, none⟩ (.int .i64 W.turn)).setCell ⟨w.heap.size + 1, 1, none⟩ (.int .i64 W.next)).setCell ⟨w.heap.size + 1, 2, none⟩ (.int .i64 W.wide)).setCell ⟨w.heap.size + 1, 3, none⟩ (.int .i64 W.high)).setCell ⟨w.heap.size + 1, 4, none⟩ (.slice p1 W.gs.length q1)).setCell ⟨w.heap.size + 1, 5, none⟩ (.slice p2 W.os.length q2)).setCell ⟨w.heap.size + 1, 6, none⟩ (.slice p3 W.gold.length q3)).setCell ⟨w.heap.size + 1, 7, none⟩ (.slice p4 W.us.length q4)).setCell ⟨w.heap.size + 1, 8, none⟩ (.slice p5 W.qs.length q5))) := put_kp _ _ _ _ _ _ _ _ _ _ _
  obtain ⟨y0, y1, y2, y3, y4, y5, y6, y7, y8⟩ := (Z5.out.put (.int .i64 W.turn) (.int .i64 W.next) (.int .i64 W.wide) (.int .i64 W.high) (.slice p1 W.gs.length q1) (.slice p2 W.os.length q2) (.slice p3 W.gold.length q3) (.slice p4 W.us.length q4) (.slice p5 W.qs.length q5)).cells
  go_wp2
  clear x0 x1 x2 x3 x4 x5 x6 x7 x8 z0 z1 z2 z3 z4 z5 z6 z7 z8 t0 t1 t2 t3 t4 t5 t6 t7 t8
  have s0 := S5.out
  generalize (((((((((w5.setCell ⟨w.heap.size + 1, 0, none⟩ (.int .i64 W.turn)).setCell ⟨w.heap.size + 1, 1, none⟩ (.int .i64 W.next)).setCell ⟨w.heap.size + 1, 2, none⟩ (.int .i64 W.wide)).setCell ⟨w.heap.size + 1, 3, none⟩ (.int .i64 W.high)).setCell ⟨w.heap.size + 1, 4, none⟩ (.slice p1 W.gs.length q1)).setCell ⟨w.heap.size + 1, 5, none⟩ (.slice p2 W.os.length q2)).setCell ⟨w.heap.size + 1, 6, none⟩ (.slice p3 W.gold.length q3)).setCell ⟨w.heap.size + 1, 7, none⟩ (.slice p4 W.us.length q4)).setCell ⟨w.heap.size + 1, 8, none⟩ (.slice p5 W.qs.length q5)) = w9 at *
  refine bodyPost_ret (v := .agg #[.int .i64 W.turn, .int .i64 W.next, .int .i64 W.wide, .int .i64 W.high, .slice p1 W.gs.length q1, .slice p2 W.os.length q2, .slice p3 W.gold.length q3, .slice p4 W.us.length q4, .slice p5 W.qs.length q5]) (by simp [results, Try.results22, go_sem, y0, y1, y2, y3, y4, y5, y6, y7, y8]) rfl ⟨_, rfl, ⟨_, _, _, _, _, rfl, ⟨(P1_5.out.kp KZ.out (by omega)).mono (by omega), (P2_5.out.kp KZ.out (by omega)).mono (by omega), (P3_5.out.kp KZ.out (by omega)).mono (by omega), (P4_5.out.kp KZ.out (by omega)).mono (by omega), (P5_5.out.kp KZ.out (by omega)).mono (by omega)⟩, D1_2.out, D1_3.out, D1_4.out, D1_5.out, D2_3.out, D2_4.out, D2_5.out, D3_4.out, D3_5.out, D4_5.out⟩, KZ.out.below B5.out B5.out.size (by omega)⟩
end Go.Proofs.Ytagnjmellcibhaa

namespace Go.Proofs.Ytagnjmellcibhaa
open Go.RowKit
set_option linter.unusedVariables false

namespace Wd
/-- what is wrong with a unit that is to be put. -/
def placeFault (ks : List KV) (W : WV) (pl kd at_ : Int) : Int :=
  if 40 ≤ (W.us.length : Int) ∨ 1000000 ≤ W.next then 4
  else if ¬ (0 ≤ pl ∧ pl < (W.gold.length : Int)) ∨ ¬ (0 ≤ kd ∧ kd < (ks.length : Int)) then 1
  else if ¬ (0 ≤ at_ ∧ at_ < (W.gs.length : Int)) then 6
  else match ks[kd.toNat]? with
    | some k => if open_ W.gs W.us at_ k.f = false then 7 else 0
    | none => 1
theorem pf4 {ks : List KV} {W : WV} {pl kd at_ : Int} (h : 40 ≤ (W.us.length : Int) ∨ 1000000 ≤ W.next) : placeFault ks W pl kd at_ = 4 := by unfold placeFault; rw [if_pos h]
theorem pf1 {ks : List KV} {W : WV} {pl kd at_ : Int} (h : ¬ (40 ≤ (W.us.length : Int) ∨ 1000000 ≤ W.next)) (h1 : ¬ (0 ≤ pl ∧ pl < (W.gold.length : Int)) ∨ ¬ (0 ≤ kd ∧ kd < (ks.length : Int))) : placeFault ks W pl kd at_ = 1 := by unfold placeFault; rw [if_neg h, if_pos h1]
theorem pf6 {ks : List KV} {W : WV} {pl kd at_ : Int} (h : ¬ (40 ≤ (W.us.length : Int) ∨ 1000000 ≤ W.next)) (h1 : 0 ≤ pl ∧ pl < (W.gold.length : Int)) (h2 : 0 ≤ kd ∧ kd < (ks.length : Int)) (h3 : ¬ (0 ≤ at_ ∧ at_ < (W.gs.length : Int))) : placeFault ks W pl kd at_ = 6 := by unfold placeFault; rw [if_neg h, if_neg (by omega), if_pos h3]
theorem pfk {ks : List KV} {W : WV} {pl kd at_ : Int} {k : KV} (h : ¬ (40 ≤ (W.us.length : Int) ∨ 1000000 ≤ W.next)) (h1 : 0 ≤ pl ∧ pl < (W.gold.length : Int)) (h2 : 0 ≤ kd ∧ kd < (ks.length : Int)) (h3 : 0 ≤ at_ ∧ at_ < (W.gs.length : Int)) (hk : ks[kd.toNat]? = some k) : placeFault ks W pl kd at_ = if open_ W.gs W.us at_ k.f = false then 7 else 0 := by unfold placeFault; rw [if_neg h, if_neg (by omega), if_neg (by omega), hk]
end Wd
structure WRight (ks : List KV) (W : WV) : Prop where
  kinds : Kd.kindsFault (ks.map KV.k) = 0
  good : ∃ Wn Hn : Nat, W.wide = Wn ∧ W.high = Hn ∧ Fd.Good Wn Hn W.gs W.os
  nums : Wd.numsBad W = false
  ul : W.us.length ≤ 40
  units : Wd.unitsGo ks W 0 W.us = 0
  ql : W.qs.length ≤ 12
  jobs : Wd.jobsGo ks W W.qs = 0
theorem wright_of {ks : List KV} {W : WV} (h : Wd.wfault ks W = 0) : WRight ks W := by
  unfold Wd.wfault at h
  by_cases h0 : Wd.ground ks W = 0
  · rw [if_neg (by rw [h0]; simp)] at h
    cases h1 : Wd.numsBad W with
    | true => rw [h1, if_pos rfl] at h; cases h
    | false =>
      rw [h1, if_neg (by simp)] at h
      by_cases h2 : 40 < W.us.length
      · rw [if_pos h2] at h; cases h
      · rw [if_neg h2] at h
        by_cases h3 : Wd.unitsGo ks W 0 W.us = 0
        · rw [if_neg (by rw [h3]; simp)] at h
          by_cases h4 : 12 < W.qs.length
          · rw [if_pos h4] at h; cases h
          · rw [if_neg h4] at h
            unfold Wd.ground at h0
            by_cases h5 : Kd.kindsFault (ks.map KV.k) = 0
            · rw [if_pos h5] at h0
              exact ⟨h5, Fd.fault_zero h0, h1, by omega, h3, by omega, h⟩
            · rw [if_neg h5] at h0; exact absurd h0 h5
        · rw [if_pos h3] at h; exact absurd h h3
  · rw [if_pos h0] at h; exact absurd h h0
theorem WRight.len {ks : List KV} {W : WV} (h : WRight ks W) : WLen W := by
  obtain ⟨Wn, Hn, -, -, G⟩ := h.good
  have h1 := G.pos
  have h2 := G.gl
  have h3 := G.ol
  have h4 := (nums_ok h.nums).2
  have h5 := h.ul
  have h6 := h.ql
  exact ⟨by omega, by omega, by omega, by omega, by omega⟩
namespace Wd
/-- what is told where a unit is put. -/
def putFault (ks : List KV) (W : WV) (pl kd at_ : Int) : Int := if wfault ks W = 0 then placeFault ks W pl kd at_ else wfault ks W
def newUnit (ks : List KV) (W : WV) (pl kd at_ : Int) : UnV := ⟨W.next, pl, kd, at_, (match ks[kd.toNat]? with | some k => k.n0 | none => 0), 0, 0, 0⟩
/-- the world behind it. -/
def put (ks : List KV) (W : WV) (pl kd at_ : Int) : WV := { W with next := W.next + 1, us := W.us ++ [newUnit ks W pl kd at_] }
def placed (ks : List KV) (W : WV) (pl kd at_ : Int) : WV := if putFault ks W pl kd at_ = 0 then put ks W pl kd at_ else WV.zero
end Wd
theorem placed_bad {ks : List KV} {W : WV} {pl kd at_ : Int} (h : Wd.putFault ks W pl kd at_ ≠ 0) : Wd.placed ks W pl kd at_ = WV.zero := by unfold Wd.placed; rw [if_neg h]
theorem placed_ok {ks : List KV} {W : WV} {pl kd at_ : Int} (h : Wd.putFault ks W pl kd at_ = 0) : Wd.placed ks W pl kd at_ = Wd.put ks W pl kd at_ := by unfold Wd.placed; rw [if_pos h]
theorem zero_wo (w : World) (base : Nat) : Wo w base (.agg #[.int .i64 0, .int .i64 0, .int .i64 0, .int .i64 0, .slice none 0 0, .slice none 0 0, .slice none 0 0, .slice none 0 0, .slice none 0 0]) WV.zero := ⟨_, _, _, _, _, rfl, Ow.nil _ _, Ow.nil _ _, Ow.nil _ _, Uno.nil _ _, Jbo.nil _ _⟩
theorem pf_zero {ks : List KV} {W : WV} {pl kd at_ : Int} (h : Wd.placeFault ks W pl kd at_ = 0) : ¬ (40 ≤ (W.us.length : Int) ∨ 1000000 ≤ W.next) ∧ (0 ≤ pl ∧ pl < (W.gold.length : Int)) ∧ (0 ≤ at_ ∧ at_ < (W.gs.length : Int)) ∧ ∃ kn k, kd = ((kn : Nat) : Int) ∧ kn < ks.length ∧ ks[kn]? = some k ∧ Wd.open_ W.gs W.us at_ k.f = true := by
  unfold Wd.placeFault at h
  split at h
  · cases h
  · rename_i h1
    split at h
    · cases h
    · rename_i h2
      split at h
      · cases h
      · rename_i h3
        split at h
        · rename_i k hk
          split at h
          · cases h
          · rename_i h4
            have hl := (List.getElem?_eq_some_iff.1 hk).1
            exact ⟨h1, by omega, by omega, kd.toNat, k, by omega, hl, hk, by simpa using h4⟩
        · cases h
end Go.Proofs.Ytagnjmellcibhaa

namespace Go.Proofs.Ytagnjmellcibhaa
set_option linter.unusedVariables false
namespace Wd

theorem unitsGo_zero {ks : List KV} {W : WV} : ∀ (l : List UnV) (i : Nat), unitsGo ks W i l = 0 ↔ ∀ (j : Nat) (u : UnV), l[j]? = some u → unitFault ks W (i + j) u = 0
  | [], i => by
    constructor
    · intro _ j u h; simp at h
    · intro _; rfl
  | x :: l, i => by
    unfold unitsGo
    constructor
    · intro h
      split at h
      · rename_i h0
        intro j u hj
        cases j with
        | zero => simp at hj; subst hj; exact h0
        | succ j =>
          have := (unitsGo_zero l (i + 1)).1 h j u (by simpa using hj)
          rwa [show i + 1 + j = i + (j + 1) by omega] at this
      · rename_i h0; exact absurd h h0
    · intro h
      rw [if_pos (show unitFault ks W i x = 0 from h 0 x rfl)]
      refine (unitsGo_zero l (i + 1)).2 fun j u hj => ?_
      have := h (j + 1) u (by simpa using hj)
      rwa [show i + (j + 1) = i + 1 + j by omega] at this
theorem jobsGo_zero {ks : List KV} {W : WV} : ∀ (l : List JbV), jobsGo ks W l = 0 ↔ ∀ j ∈ l, jobFault ks W j = 0
  | [] => by
    constructor
    · intro _ j h; cases h
    · intro _; rfl
  | x :: l => by
    unfold jobsGo
    constructor
    · intro h
      split at h
      · rename_i h0
        intro j hj
        rcases List.mem_cons.1 hj with rfl | hj
        · exact h0
        · exact (jobsGo_zero l).1 h j hj
      · rename_i h0; exact absurd h h0
    · intro h
      rw [if_pos (h x (List.mem_cons_self ..))]
      exact (jobsGo_zero l).2 fun j hj => h j (List.mem_cons_of_mem _ hj)
theorem nor1 {a : Bool} (h : ¬ (!a) = true) : a = true := by cases a <;> simp_all
theorem nor2 {a b : Bool} (h : ¬ (!a || !b) = true) : a = true ∧ b = true := by cases a <;> cases b <;> simp_all
theorem nor3 {a b c : Bool} (h : ¬ (!a || (!b || !c)) = true) : a = true ∧ b = true ∧ c = true := by cases a <;> cases b <;> cases c <;> simp_all
theorem nor6 {a b : Bool} (h : ¬ (!a || b) = true) : a = true ∧ b = false := by cases a <;> cases b <;> simp_all
/-- nothing is wrong with a unit. -/
structure UFine (ks : List KV) (W : WV) (i : Nat) (u : UnV) (k : KV) : Prop where
  id1 : 1 ≤ u.id
  id2 : u.id ≤ W.next - 1
  up : notAbove W.us i u = false
  p : 0 ≤ u.player ∧ u.player < (W.gold.length : Int)
  k0 : 0 ≤ u.kind ∧ u.kind < (ks.length : Int)
  kk : ks[u.kind.toNat]? = some k
  life : 1 ≤ u.life ∧ u.life ≤ k.n0
  load : 0 ≤ u.load ∧ u.load ≤ k.n7
  task : 0 ≤ u.task ∧ u.task ≤ 2
  at_ : 0 ≤ u.at_ ∧ u.at_ < (W.gs.length : Int)
  goal : 0 ≤ u.goal ∧ u.goal < (W.gs.length : Int)
  opn : open_ W.gs (W.us.take i) u.at_ k.f = true
  rest : u.goal = 0 ∨ u.task ≠ 0
theorem unit_fine {ks : List KV} {W : WV} {i : Nat} {u : UnV} : unitFault ks W i u = 0 ↔ ∃ k, UFine ks W i u k := by
  constructor
  · intro h
    unfold unitFault at h
    split at h
    · cases h
    rename_i h1
    split at h
    · cases h
    rename_i h2
    split at h
    · cases h
    rename_i h3
    split at h
    · cases h
    rename_i k hk
    unfold kindPart at h
    split at h
    · cases h
    rename_i h4
    split at h
    · cases h
    rename_i h5
    split at h
    · cases h
    rename_i h6
    have g1 := of_decide_eq_true (nor1 h1)
    have g3 := nor2 h3
    have g4 := nor3 h4
    have g5 := nor2 h5
    have g6 := nor6 h6
    refine ⟨k, ⟨g1.1, g1.2, by simpa using h2, of_decide_eq_true g3.1, of_decide_eq_true g3.2, hk, of_decide_eq_true g4.1, of_decide_eq_true g4.2.1, of_decide_eq_true g4.2.2, of_decide_eq_true g5.1, of_decide_eq_true g5.2, g6.1, ?_⟩⟩
    have g7 := g6.2
    simp only [Bool.and_eq_false_iff, bne_eq_false_iff_eq, beq_eq_false_iff_ne] at g7
    exact g7
  · rintro ⟨k, h⟩
    unfold unitFault
    rw [if_neg (by simp [h.id1, h.id2]), if_neg (by simp [h.up]), if_neg (by simp [has, h.p.1, h.p.2, h.k0.1, h.k0.2]), h.kk]
    show kindPart W (W.us.take i) u k = 0
    unfold kindPart
    rw [if_neg (by simp [h.life.1, h.life.2, h.load.1, h.load.2, h.task.1, h.task.2]), if_neg (by simp [has, h.at_.1, h.at_.2, h.goal.1, h.goal.2]), if_neg]
    simp only [h.opn, Bool.not_true, Bool.false_or, Bool.and_eq_true, bne_iff_ne, beq_iff_eq, ne_eq, not_and]
    intro hg ht
    rcases h.rest with h1 | h1
    · exact hg h1
    · exact h1 ht
/-- a world with which nothing is wrong. -/
theorem wfault_zero {ks : List KV} {W : WV} (hk : Kd.kindsFault (ks.map KV.k) = 0) (hf : Fd.fault W.wide W.high W.gs W.os = 0) (hn : numsBad W = false) (hu : W.us.length ≤ 40) (hus : ∀ (i : Nat) (u : UnV), W.us[i]? = some u → ∃ k, UFine ks W i u k) (hq : W.qs.length ≤ 12) (hqs : ∀ j ∈ W.qs, jobFault ks W j = 0) : wfault ks W = 0 := by
  have h1 : ground ks W = 0 := by unfold ground; rw [if_pos hk, hf]
  have h2 : unitsGo ks W 0 W.us = 0 := (unitsGo_zero W.us 0).2 fun j u hj => by rw [Nat.zero_add]; exact unit_fine.2 (hus j u hj)
  unfold wfault
  rw [if_neg (by rw [h1]; simp), hn, if_neg (by simp), if_neg (by omega), if_neg (by rw [h2]; simp), if_neg (by omega)]
  exact (jobsGo_zero W.qs).2 hqs
end Wd
theorem WRight.fine {ks : List KV} {W : WV} (h : WRight ks W) {i : Nat} {u : UnV} (hu : W.us[i]? = some u) : ∃ k, Wd.UFine ks W i u k := by
  have := (Wd.unitsGo_zero W.us 0).1 h.units i u hu
  rw [Nat.zero_add] at this
  exact Wd.unit_fine.1 this
theorem WRight.job {ks : List KV} {W : WV} (h : WRight ks W) {j : JbV} (hj : j ∈ W.qs) : Wd.jobFault ks W j = 0 := (Wd.jobsGo_zero W.qs).1 h.jobs j hj
theorem WRight.zero {ks : List KV} {W : WV} (h : WRight ks W) : Wd.wfault ks W = 0 := by
  obtain ⟨Wn, Hn, e1, e2, G⟩ := h.good
  exact Wd.wfault_zero h.kinds (by rw [e1, e2]; exact Fd.fault_good G) h.nums h.ul (fun i u hu => h.fine hu) h.ql (fun j hj => h.job hj)
end Go.Proofs.Ytagnjmellcibhaa

namespace Go.Proofs.Ytagnjmellcibhaa
open Go.RowKit
set_option linter.unusedVariables false

theorem kgo_nums : ∀ {l acc : List Kd.K}, Kd.kindsGo acc l = 0 → ∀ k ∈ l, Kd.numsFault k.nums = 0
  | [], _, _, k, hk => by simp at hk
  | x :: l, acc, h, k, hk => by
    unfold Kd.kindsGo at h
    split at h
    · rename_i h0
      rcases List.mem_cons.1 hk with rfl | hk
      · unfold Kd.kindFault at h0
        split at h0
        · split at h0
          · omega
          · exact h0
        · omega
      · exact kgo_nums h k hk
    · rename_i h0
      exact absurd h h0
/-- kinds that are right. -/
theorem kinds_right {ks : List KV} (h : Kd.kindsFault (ks.map KV.k) = 0) : ks.length ≤ 8 ∧ ∀ k ∈ ks, 0 ≤ k.n5 ∧ k.n5 ≤ 1000 ∧ 0 < k.n0 ∧ k.n0 ≤ 1000 := by
  unfold Kd.kindsFault at h
  split at h
  · omega
  · rename_i h8
    refine ⟨by simpa using h8, fun k hk => ?_⟩
    have := kgo_nums h k.k (List.mem_map.2 ⟨k, hk, rfl⟩)
    unfold Kd.numsFault at this
    split at this
    · omega
    · rename_i h1
      rw [Bool.not_eq_true, List.any_eq_false] at h1
      have a := h1 k.n0 (by simp [KV.k])
      have b := h1 k.n5 (by simp [KV.k])
      simp only [decide_eq_true_eq] at a b
      split at this
      · omega
      · rename_i h2
        have : (k.k.nums).getD 0 0 = k.n0 := rfl
        omega

end Go.Proofs.Ytagnjmellcibhaa

namespace Go.Proofs.Ytagnjmellcibhaa
set_option linter.unusedVariables false

theorem kind_nums {ks : List KV} (h : Kd.kindsFault (ks.map KV.k) = 0) {k : KV} (hk : k ∈ ks) : 1 ≤ k.n0 ∧ 0 ≤ k.n7 ∧ 0 ≤ k.n4 ∧ k.n4 ≤ 4 ∧ 0 ≤ k.n1 ∧ k.n1 ≤ 1000 ∧ 0 ≤ k.n2 ∧ k.n2 ≤ 12 ∧ 0 ≤ k.n3 ∧ k.n3 ≤ 12 ∧ k.n0 ≤ 1000 ∧ k.n7 ≤ 1000 := by
  unfold Kd.kindsFault at h
  split at h
  · omega
  · have := kgo_nums h k.k (List.mem_map.2 ⟨k, hk, rfl⟩)
    unfold Kd.numsFault at this
    split at this
    · omega
    · rename_i h1
      rw [Bool.not_eq_true, List.any_eq_false] at h1
      have a := h1 k.n0 (by simp [KV.k])
      have b := h1 k.n7 (by simp [KV.k])
      have c := h1 k.n4 (by simp [KV.k])
      have d := h1 k.n1 (by simp [KV.k])
      have e := h1 k.n2 (by simp [KV.k])
      have f := h1 k.n3 (by simp [KV.k])
      simp only [decide_eq_true_eq] at a b c d e f
      split at this
      · omega
      · rename_i h2
        have e0 : (k.k.nums).getD 0 0 = k.n0 := rfl
        have e4 : (k.k.nums).getD 4 0 = k.n4 := rfl
        have e2 : (k.k.nums).getD 2 0 = k.n2 := rfl
        have e3 : (k.k.nums).getD 3 0 = k.n3 := rfl
        omega
theorem find_more {us : List UnV} {n : UnV} {p : UnV → Bool} {u : UnV} (h : us.find? p = some u) : (us ++ [n]).find? p = some u := by
  rw [List.find?_append, h]; rfl
theorem put_right {ks : List KV} {W : WV} {pl kd at_ : Int} (h : WRight ks W) (hp : Wd.placeFault ks W pl kd at_ = 0) : Wd.wfault ks (Wd.put ks W pl kd at_) = 0 := by
  obtain ⟨h40, hpl, hat, kn, k, rfl, hkl, hkk, hop⟩ := pf_zero hp
  have hnu : Wd.newUnit ks W pl (kn : Nat) at_ = ⟨W.next, pl, (kn : Nat), at_, k.n0, 0, 0, 0⟩ := by unfold Wd.newUnit; rw [Int.toNat_natCast, hkk]
  have hn1 : 1 ≤ W.next := by
    have := (nums_ok h.nums).1
    unfold Wd.off at this
    simp at this
    omega
  have hk := kind_nums h.kinds (List.mem_of_getElem? hkk)
  obtain ⟨Wn, Hn, e1, e2, G⟩ := h.good
  unfold Wd.put
  rw [hnu]
  refine Wd.wfault_zero h.kinds (by show Fd.fault W.wide W.high W.gs W.os = 0; rw [e1, e2]; exact Fd.fault_good G) ?_ ?_ ?_ h.ql ?_
  · have hn := h.nums
    unfold Wd.numsBad at hn ⊢
    simp only [Bool.or_eq_false_iff] at hn ⊢
    refine ⟨hn.1, ?_, hn.2.2⟩
    unfold Wd.off
    simp
    omega
  · show (W.us ++ [_]).length ≤ 40
    rw [List.length_append]
    have := h40
    simp only [List.length_cons, List.length_nil]
    omega
  · intro i u hu
    have hu' : (W.us ++ [(⟨W.next, pl, (kn : Nat), at_, k.n0, 0, 0, 0⟩ : UnV)])[i]? = some u := hu
    rcases Nat.lt_or_ge i W.us.length with hi | hi
    · rw [List.getElem?_append_left hi] at hu'
      obtain ⟨k0, f⟩ := h.fine hu'
      refine ⟨k0, ⟨f.id1, ?_, ?_, f.p, f.k0, f.kk, f.life, f.load, f.task, f.at_, f.goal, ?_, f.rest⟩⟩
      · have := f.id2
        show u.id ≤ W.next + 1 - 1
        omega
      · have := f.up
        show Wd.notAbove (W.us ++ [_]) i u = false
        unfold Wd.notAbove at this ⊢
        cases i with
        | zero => rfl
        | succ j =>
          simp only at this ⊢
          rw [List.getElem?_append_left (by omega)]
          exact this
      · show Wd.open_ W.gs ((W.us ++ [_]).take i) u.at_ k0.f = true
        rw [List.take_append_of_le_length (by omega)]
        exact f.opn
    · rw [List.getElem?_append_right hi] at hu'
      have hil : i = W.us.length := by
        rcases Nat.eq_zero_or_pos (i - W.us.length) with h0 | h0
        · omega
        · rw [List.getElem?_eq_none (by simp; omega)] at hu'; cases hu'
      subst hil
      rw [Nat.sub_self] at hu'
      injection hu' with hu'
      subst hu'
      refine ⟨k, ⟨hn1, ?_, ?_, hpl, ⟨by simp, by simp; omega⟩, by simpa using hkk, ⟨hk.1, Int.le_refl _⟩, ⟨Int.le_refl _, hk.2.1⟩, ⟨by simp, by simp⟩, hat, ⟨by simp, Int.lt_of_le_of_lt hat.1 hat.2⟩, ?_, .inl rfl⟩⟩
      · show W.next ≤ W.next + 1 - 1
        omega
      · show Wd.notAbove (W.us ++ [_]) W.us.length _ = false
        unfold Wd.notAbove
        cases hl : W.us.length with
        | zero => rfl
        | succ j =>
          simp only
          rw [List.getElem?_append_left (by omega)]
          cases hx : W.us[j]? with
          | none => rfl
          | some x =>
            obtain ⟨k0, f⟩ := h.fine hx
            have := f.id2
            simp
            omega
      · show Wd.open_ W.gs ((W.us ++ [_]).take W.us.length) at_ k.f = true
        rw [List.take_left]
        exact hop
  · intro j hj
    have := h.job hj
    unfold Wd.jobFault at this ⊢
    cases hx : W.us.find? (fun u => u.id == j.unit) with
    | none => rw [hx] at this; cases this
    | some u =>
      rw [hx] at this
      have hm := find_more (n := (⟨W.next, pl, (kn : Nat), at_, k.n0, 0, 0, 0⟩ : UnV)) hx
      simp only [hm]
      exact this
/-- whoever comes next finds the cell taken. -/
theorem put_taken {ks : List KV} {W : WV} {pl kd at_ : Int} (h : WRight ks W) (hp : Wd.placeFault ks W pl kd at_ = 0) : Wd.putFault ks (Wd.put ks W pl kd at_) pl kd at_ ≠ 0 := by
  unfold Wd.putFault
  rw [if_pos (put_right h hp)]
  intro h0
  obtain ⟨-, -, -, kn, k, hkd, -, -, hop⟩ := pf_zero h0
  unfold Wd.open_ at hop
  have : (Wd.put ks W pl kd at_).us.any (fun u => u.at_ == at_) = true := by
    refine List.any_eq_true.2 ⟨Wd.newUnit ks W pl kd at_, ?_, by simp [Wd.newUnit]⟩
    show _ ∈ W.us ++ [_]
    simp
  rw [this] at hop
  simp at hop
end Go.Proofs.Ytagnjmellcibhaa

namespace Go.Proofs.Ytagnjmellcibhaa
open Go.RowKit
set_option linter.unusedVariables false

theorem cell_new1 {w : World} {z : Nat} (v : Value) (T : TypeId) (hz : w.heap.size = z) : (w.alloc (.cells #[v] T)).cell? ⟨z, 0, none⟩ = some v := by
  subst hz
  simp
set_option maxRecDepth 100000 in
set_option maxHeartbeats 4000000 in
theorem reaches_any (v : Value) (W H : Nat) (gs os : List Int) (k : KV) (a b : Nat) (w : World) (h : Fl w v W H gs os) (G : Fd.Good W H gs os) (ha : a < W * H) (hb : b < W * H) (s0 : 0 ≤ k.n3) (s1 : k.n3 ≤ 12) :
    Calls Try.prog 38 #[v, k.val, .int .i64 (a : Nat), .int .i64 (b : Nat)] w fun e w' => e = .returned (.bool (seeN W gs k a b)) ∧ Below w.heap.size w w' := by
  have F0 : Hid (Fl w v W H gs os) := h
  have HG : Hid (Fd.Good W H gs os ∧ a < W * H ∧ b < W * H ∧ 0 ≤ k.n3 ∧ k.n3 ≤ 12) := ⟨G, ha, hb, s0, s1⟩
  have hm : W * H ≤ 144 := G.pos.2
  have FE : Hid (∀ r, Ma.Sq r ((((a % W : Nat) : Int) - ((b % W : Nat) : Int)) * (((a % W : Nat) : Int) - ((b % W : Nat) : Int)) + (((a / W : Nat) : Int) - ((b / W : Nat) : Int)) * (((a / W : Nat) : Int) - ((b / W : Nat) : Int))) → farN W a b = r) := fun r hr => farN_eq G.w2 (by omega) (by omega) G.w1 hr
  obtain ⟨ca, hca⟩ : ∃ n, a % W = n := ⟨_, rfl⟩
  obtain ⟨ra, hra⟩ : ∃ n, a / W = n := ⟨_, rfl⟩
  obtain ⟨cb, hcb⟩ : ∃ n, b % W = n := ⟨_, rfl⟩
  obtain ⟨rb, hrb⟩ : ∃ n, b / W = n := ⟨_, rfl⟩
  have hw : ¬ (W : Int) = 0 := by have := G.w1; omega
  have e1 : (a : Int) % (W : Int) = (ca : Nat) := by rw [← hca]; rfl
  have e2 : (a : Int) / (W : Int) = (ra : Nat) := by rw [← hra]; rfl
  have e3 : (b : Int) % (W : Int) = (cb : Nat) := by rw [← hcb]; rfl
  have e4 : (b : Int) / (W : Int) = (rb : Nat) := by rw [← hrb]; rfl
  have l1 : ra ≤ 144 := by rw [← hra]; exact Nat.le_trans (Nat.div_le_self _ _) (by omega)
  have l2 : rb ≤ 144 := by rw [← hrb]; exact Nat.le_trans (Nat.div_le_self _ _) (by omega)
  have l3 : ca ≤ 144 := by rw [← hca]; exact Nat.le_trans (Nat.mod_le _ _) (by omega)
  have l4 : cb ≤ 144 := by rw [← hcb]; exact Nat.le_trans (Nat.mod_le _ _) (by omega)
  have FO : Hid (∀ V, Calls Try.prog 56 #[.int .i64 (ca : Nat), .int .i64 (ra : Nat), .int .i64 (cb : Nat), .int .i64 (rb : Nat)] V fun e w' => e = .returned (.tuple #[.int .i64 (farN W a b), .nilIface]) ∧ w' = V) := fun V => by
    refine (far_ok _ _ _ _ V (small_in6 l3) (small_in6 l1) (small_in6 l4) (small_in6 l2)).mono ?_
    rintro e w' ⟨r, hr, rfl, rfl⟩
    rw [← hca, ← hra, ← hcb, ← hrb] at hr
    rw [FE.out r hr]
    exact ⟨rfl, rfl⟩
  clear hca hra hcb hrb
  obtain ⟨u1, u2, rfl, ⟨a1, c, rfl, c1, c2, ca'⟩, ⟨b1, d, rfl, d1, d2, cb'⟩⟩ := h
  clear ca' cb' G ha hb s0 s1 hm
  have B0 : Hid (Below w.heap.size w ((w.alloc (Obj.cells #[.int .i64 (W : Nat), .int .i64 (H : Nat), .slice a1 gs.length c, .slice b1 os.length d] 25)).alloc (Obj.cells #[.string k.b, .int .i64 k.n0, .int .i64 k.n1, .int .i64 k.n2, .int .i64 k.n3, .int .i64 k.n4, .int .i64 k.n5, .int .i64 k.n6, .int .i64 k.n7, .bool k.f, .bool k.t] 56))) := ((Below.refl _ _).alloc (Nat.le_refl _) _).alloc (by simp) _
  have F1 : Hid (Bf ((w.alloc (Obj.cells #[.int .i64 (W : Nat), .int .i64 (H : Nat), .slice a1 gs.length c, .slice b1 os.length d] 25)).alloc (Obj.cells #[.string k.b, .int .i64 k.n0, .int .i64 k.n1, .int .i64 k.n2, .int .i64 k.n3, .int .i64 k.n4, .int .i64 k.n5, .int .i64 k.n6, .int .i64 k.n7, .bool k.f, .bool k.t] 56)) w.heap.size W H (.slice a1 gs.length c) (.slice b1 os.length d)) := (Bf.mk' _ _ _ _ rfl).below ((Below.refl _ _).alloc (Nat.le_refl _) _) (by simp)
  have K1 : Hid (Kc ((w.alloc (Obj.cells #[.int .i64 (W : Nat), .int .i64 (H : Nat), .slice a1 gs.length c, .slice b1 os.length d] 25)).alloc (Obj.cells #[.string k.b, .int .i64 k.n0, .int .i64 k.n1, .int .i64 k.n2, .int .i64 k.n3, .int .i64 k.n4, .int .i64 k.n5, .int .i64 k.n6, .int .i64 k.n7, .bool k.f, .bool k.t] 56)) ⟨w.heap.size + 1, 0, none⟩ k) := Kc.mk' k (by simp)
  unfold KV.val
  go_enter Try.func38, Try.ntmps38
  go_upto_region 1 with fail
  generalize ((w.alloc (Obj.cells #[.int .i64 (W : Nat), .int .i64 (H : Nat), .slice a1 gs.length c, .slice b1 os.length d] 25)).alloc (Obj.cells #[.string k.b, .int .i64 k.n0, .int .i64 k.n1, .int .i64 k.n2, .int .i64 k.n3, .int .i64 k.n4, .int .i64 k.n5, .int .i64 k.n6, .int .i64 k.n7, .bool k.f, .bool k.t] 56)) = w0 at *
  obtain ⟨f0, f1, f2, f3⟩ := F1.out
  obtain ⟨y0, y1, y2, y3, y4, y5, y6, y7, y8, y9, y10⟩ := K1.out
  obtain ⟨f, hf⟩ : ∃ f, farN W a b = f := ⟨_, rfl⟩
  have HF : Hid (farN W a b = f) := hf
  rw [hf] at FO
  clear hf
  cases hk : k.f with
  | true =>
    have SE : Hid (seeN W gs k a b = decide (f ≤ k.n3)) := by unfold Hid seeN; rw [hk, HF.out]; simp
    rw [hk] at y9
    go_upto_region 2 with fail
    go_quiet ((go_at_call 56; exact Calls.quiet_of_same (FO.out _)))
    go_wp2
    go_ret
    exact ⟨by rw [SE.out]; rfl, ⟨B0.out.os, B0.out.tape, B0.out.output, B0.out.size, B0.out.block⟩⟩
  | false =>
    obtain ⟨z, hz⟩ : ∃ z, (decide (f ≤ k.n3) && !(Fd.line W a b).any (Fd.hide gs a b)) = z := ⟨_, rfl⟩
    have SE : Hid (seeN W gs k a b = z) := by unfold Hid seeN; rw [hk, HF.out, ← hz]; simp
    rw [hk] at y9
    go_upto_region 4 with fail
    go_wp2_with fail
    refine (Sees_ok _ W H gs os a b k.n3 w0 (F0.out.below B0.out) HG.out.1 HG.out.2.1 HG.out.2.2.1 HG.out.2.2.2.1 (by have := HG.out.2.2.2.2; omega)).mono ?_
    rintro e w1 ⟨r, hr, rfl, hb⟩
    have er : f = r := HF.out.symm.trans (FE.out r hr)
    rw [← er, hz]
    have B1 : Hid (Below w.heap.size w w1) := B0.out.trans (hb.mono B0.out.size)
    clear hb hr er hz f0 f1 f2 f3 y0 y1 y2 y3 y4 y5 y6 y7 y8 y9 y10
    cases z <;>
    · go_wp2
      go_ret
      exact ⟨by rw [SE.out]; rfl, B1.out⟩

set_option maxHeartbeats 1000000 in
theorem hasm_any (K : Nat) (eK : ∀ args w, (callFunc K args).run Try.prog w = .ok (.enter K args) w) (u : Value) (cs : Array Value) (ks : List UnV) (p : UnV → Bool) (w : World) (hu : Unl w u ks)
    (hp : ∀ W, Below w.heap.size w W → ∀ k ∈ ks, Calls Try.prog K (#[k.val] ++ cs) W fun e w' => e = .returned (.bool (p k)) ∧ Below W.heap.size W w') :
    Calls Try.prog 39 #[u, .func (Fn.func K) #[] cs] w fun e w' => e = .returned (.bool (ks.any p)) ∧ Below w.heap.size w w' := by
  have H' : Hid (Calls Try.prog 43 #[u, .func (Fn.func K) #[] cs] w fun e w' => ∃ r : Int, e = .returned (.int .i64 r) ∧ FstU p ks r ∧ Below w.heap.size w w') := idxm_any K eK u cs ks p w hu hp
  clear hp
  go_enter Try.func39, Try.ntmps39
  go_wp2_with fail
  refine Calls.mono H'.out ?_
  rintro e w1 ⟨r, rfl, hr, q⟩
  have Hr : Hid (decide (0 ≤ r) = ks.any p) := hr.has
  have Q : Hid (Below w.heap.size w w1) := q
  clear hr q
  go_wp2
  go_ret
  exact ⟨by show Ending.returned (.bool (decide (0 ≤ r))) = _; rw [Hr.out], Q⟩

set_option maxRecDepth 100000 in
set_option maxHeartbeats 4000000 in
theorem see_fg (ks : List KV) (X : WV) (u : UnV) (p : Int) (Wn c bp bw bk ba : Nat) (vk u1 u2 u3 u4 u5 : Value) (w : World) (WR : WRight ks X) (hw : X.wide = (Wn : Nat)) (hc : c < X.gs.length) (hu : u ∈ X.us)
    (hk : Kl w vk ks) (hx : Wl w (.agg #[.int .i64 X.turn, .int .i64 X.next, .int .i64 X.wide, .int .i64 X.high, u1, u2, u3, u4, u5]) X) (hb : Bw w bw X u1 u2 u3 u4 u5)
    (c1 : w.cell? ⟨bp, 0, none⟩ = some (.int .i64 p)) (c2 : w.cell? ⟨bk, 0, none⟩ = some vk) (c3 : w.cell? ⟨ba, 0, none⟩ = some (.int .i64 (c : Nat))) :
    Calls Try.prog 37 (#[u.val] ++ #[.pointer (some ⟨bp, 0, none⟩), .pointer (some ⟨bw, 0, none⟩), .pointer (some ⟨bk, 0, none⟩), .pointer (some ⟨ba, 0, none⟩)]) w fun e w' => e = .returned (.bool (seeU ks Wn X.gs p c u)) ∧ Below w.heap.size w w' := by
  obtain ⟨i, hi⟩ := List.mem_iff_getElem?.1 hu
  obtain ⟨k, fu⟩ := WR.fine hi
  obtain ⟨Wm, Hn, e1, e2, G⟩ := WR.good
  have ew : Wm = Wn := by omega
  subst ew
  obtain ⟨kn, hkn⟩ : ∃ n : Nat, u.kind = n := ⟨u.kind.toNat, by have := fu.k0.1; omega⟩
  obtain ⟨an, han⟩ : ∃ n : Nat, u.at_ = n := ⟨u.at_.toNat, by have := fu.at_.1; omega⟩
  have hkk : ks[kn]? = some k := by have := fu.kk; rw [hkn] at this; exact this
  have hkl : kn < ks.length := (List.getElem?_eq_some_iff.1 hkk).1
  have hN := kind_nums WR.kinds (List.mem_of_getElem? hkk)
  have HE : Hid (u.kind = (kn : Nat) ∧ u.at_ = (an : Nat) ∧ X.wide = (Wm : Nat) ∧ X.high = (Hn : Nat)) := ⟨hkn, han, e1, e2⟩
  have LL : Hid (Fd.Good Wm Hn X.gs X.os ∧ an < Wm * Hn ∧ c < Wm * Hn ∧ 0 ≤ k.n3 ∧ k.n3 ≤ 12) := ⟨G, by have := fu.at_.2; have := G.gl; omega, by have := G.gl; omega, hN.2.2.2.2.2.2.2.2.1, hN.2.2.2.2.2.2.2.2.2.1⟩
  have SE : Hid (seeU ks Wm X.gs p c u = ((u.player == p) && seeN Wm X.gs k an c)) := by
    unfold Hid seeU
    rw [hkn, han, Int.toNat_natCast, Int.toNat_natCast, hkk]
  have XL : Hid (Wl w (.agg #[.int .i64 X.turn, .int .i64 X.next, .int .i64 X.wide, .int .i64 X.high, u1, u2, u3, u4, u5]) X) := hx
  obtain ⟨pk, qk, rfl, ck1, ck2, kc⟩ := hk
  obtain ⟨xk, rfl, hxk, hkc⟩ := kc (by intro h; rw [h] at hkl; simp at hkl)
  have KC : Hid (Kc w (xk.add (kn * 11)) k ∧ (xk.add (kn * 11)).block < w.heap.size) := ⟨hkc kn k hkk, by rw [add_block]; exact hxk⟩
  have CF : Hid (w.cell? ⟨bp, 0, none⟩ = some (.int .i64 p) ∧ w.cell? ⟨bk, 0, none⟩ = some (.slice (some xk) ks.length qk) ∧ w.cell? ⟨ba, 0, none⟩ = some (.int .i64 (c : Nat)) ∧ bp < w.heap.size ∧ bk < w.heap.size ∧ ba < w.heap.size) := ⟨c1, c2, c3, cell_lt c1, cell_lt c2, cell_lt c3⟩
  have BX : Hid (Bw w bw X u1 u2 u3 u4 u5) := hb
  have B0 : Hid (Below w.heap.size w (w.alloc (Obj.cells #[.int .i64 u.id, .int .i64 u.player, .int .i64 u.kind, .int .i64 u.at_, .int .i64 u.life, .int .i64 u.load, .int .i64 u.task, .int .i64 u.goal] 41))) := (Below.refl _ _).alloc (Nat.le_refl _) _
  have O0 : Hid (Unc (w.alloc (Obj.cells #[.int .i64 u.id, .int .i64 u.player, .int .i64 u.kind, .int .i64 u.at_, .int .i64 u.life, .int .i64 u.load, .int .i64 u.task, .int .i64 u.goal] 41)) ⟨w.heap.size, 0, none⟩ u) := Unc.mk' u rfl
  clear kc hkc hxk hx hb c1 c2 c3 hkk fu hi e1 e2 G hN hkn han hc hu WR
  unfold UnV.val
  go_enter Try.func37, Try.ntmps37
  go_upto_region 1 with fail
  generalize (w.alloc (Obj.cells #[.int .i64 u.id, .int .i64 u.player, .int .i64 u.kind, .int .i64 u.at_, .int .i64 u.life, .int .i64 u.load, .int .i64 u.task, .int .i64 u.goal] 41)) = w0 at *
  by_cases hp : u.player = p
  case neg =>
    have hp' : (u.player == p) = false := by rw [beq_eq_false_iff_ne]; exact hp
    have hp2 : decide (u.player = p) = false := decide_eq_false hp
    have S1 : Hid (seeU ks Wm X.gs p c u = false) := by unfold Hid; rw [SE.out, hp']; rfl
    have d1 : w0.cell? ⟨w.heap.size, 1, none⟩ = some (.int .i64 u.player) := by have := O0.out.c1; rw [Nat.zero_add] at this; exact this
    have d2 : w0.cell? ⟨bp, 0, none⟩ = some (.int .i64 p) := by rw [B0.out.cell (p := ⟨bp, 0, none⟩) CF.out.2.2.2.1]; exact CF.out.1
    obtain ⟨q0, q1, q2, q3, q4, q5, q6, q7⟩ := O0.out
    clear hp
    go_quiet (fail)
    go_wp2
    go_ret
    exact ⟨by rw [S1.out]; rfl, ⟨B0.out.os, B0.out.tape, B0.out.output, B0.out.size, B0.out.block⟩⟩
  · have S1 : Hid (seeU ks Wm X.gs p c u = seeN Wm X.gs k an c) := by unfold Hid; rw [SE.out, hp]; simp
    have C1 : Hid (w.cell? ⟨bp, 0, none⟩ = some (.int .i64 u.player)) := by unfold Hid; rw [hp]; exact CF.out.1
    clear hp
    have CB : Hid (∀ V, Below w.heap.size w V → Unc V ⟨w.heap.size, 0, none⟩ u → (V.cell? ⟨w.heap.size, 1, none⟩ = some (.int .i64 u.player) ∧ V.cell? ⟨w.heap.size, 2, none⟩ = some (.int .i64 (kn : Nat)) ∧ V.cell? ⟨w.heap.size, 3, none⟩ = some (.int .i64 (an : Nat)) ∧ V.cell? ⟨bp, 0, none⟩ = some (.int .i64 u.player) ∧ V.cell? ⟨bk, 0, none⟩ = some (.slice (some xk) ks.length qk) ∧ V.cell? ⟨ba, 0, none⟩ = some (.int .i64 (c : Nat)) ∧ Bw V bw X u1 u2 u3 u4 u5 ∧ Kc V (xk.add (kn * 11)) k)) := fun V hb h0 =>
      ⟨by have := h0.c1; rw [Nat.zero_add] at this; exact this, by have := h0.c2; rw [Nat.zero_add, HE.out.1] at this; exact this, by have := h0.c3; rw [Nat.zero_add, HE.out.2.1] at this; exact this,
       by rw [hb.cell (p := ⟨bp, 0, none⟩) CF.out.2.2.2.1]; exact C1.out, by rw [hb.cell (p := ⟨bk, 0, none⟩) CF.out.2.2.2.2.1]; exact CF.out.2.1, by rw [hb.cell (p := ⟨ba, 0, none⟩) CF.out.2.2.2.2.2]; exact CF.out.2.2.1,
       BX.out.below hb BX.out.lt, KC.out.1.below hb KC.out.2⟩
    refine wp_region_two [(true, 0), (true, 1), (true, 2), (true, 3), (true, 4), (true, 5), (true, 6), (true, 7), (true, 8), (true, 9), (true, 10), (true, 11), (true, 12), (true, 13), (true, 14), (false, 15)] [(true, 16), (false, 17)] (fun V => (V.cell? ⟨w.heap.size, 1, none⟩ = some (.int .i64 u.player) ∧ V.cell? ⟨w.heap.size, 2, none⟩ = some (.int .i64 (kn : Nat)) ∧ V.cell? ⟨w.heap.size, 3, none⟩ = some (.int .i64 (an : Nat)) ∧ V.cell? ⟨bp, 0, none⟩ = some (.int .i64 u.player) ∧ V.cell? ⟨bk, 0, none⟩ = some (.slice (some xk) ks.length qk) ∧ V.cell? ⟨ba, 0, none⟩ = some (.int .i64 (c : Nat)) ∧ Bw V bw X u1 u2 u3 u4 u5 ∧ Kc V (xk.add (kn * 11)) k)) (by kernel_rfl) (by kernel_rfl) (by kernel_rfl) (by decide +kernel) (by decide +kernel) (CB.out _ B0.out.drew (O0.out.below ((Below.refl _ _).drew) O0.out.lt)) ?_
    have B1 : Hid (Below w.heap.size w { w0 with drawn := w0.drawn + 1 }) := B0.out.drew
    have O1 : Hid (Unc { w0 with drawn := w0.drawn + 1 } ⟨w.heap.size, 0, none⟩ u) := O0.out.below ((Below.refl _ _).drew) O0.out.lt
    generalize ({ w0 with drawn := w0.drawn + 1 } : World) = w1 at *
    clear B0 O0
    refine headT_read rfl (.pointer (some ⟨w.heap.size, 1, none⟩)) (by go_simp) (fun V hV => by go_simp) ?_
    go_simp
    refine headT_read rfl (.int .i64 u.player) (by go_simp) (fun V hV => by obtain ⟨d1, d2, d3, d4, d5, d6, ⟨x0, x1, x2, x3, x4, x5, x6, x7, x8⟩, ⟨y0, y1, y2, y3, y4, y5, y6, y7, y8, y9, y10⟩⟩ := hV; go_simp) ?_
    go_simp
    refine headT_read rfl (.int .i64 u.player) (by go_simp) (fun V hV => by obtain ⟨d1, d2, d3, d4, d5, d6, ⟨x0, x1, x2, x3, x4, x5, x6, x7, x8⟩, ⟨y0, y1, y2, y3, y4, y5, y6, y7, y8, y9, y10⟩⟩ := hV; go_simp) ?_
    go_simp
    refine headT_read rfl (.bool true) (by go_simp) (fun V hV => by go_simp) ?_
    go_simp
    refine headT_read rfl (.bool true) (by go_simp) (fun V hV => by go_simp) ?_
    go_simp
    refine headT_read rfl (.pointer (some ⟨bw, 2, none⟩)) (by go_simp) (fun V hV => by go_simp) ?_
    go_simp
    refine headT_read rfl (.agg #[.int .i64 X.wide, .int .i64 X.high, u1, u2]) (by go_simp) (fun V hV => by obtain ⟨d1, d2, d3, d4, d5, d6, ⟨x0, x1, x2, x3, x4, x5, x6, x7, x8⟩, ⟨y0, y1, y2, y3, y4, y5, y6, y7, y8, y9, y10⟩⟩ := hV; go_simp) ?_
    go_simp
    refine headT_read rfl (.slice (some xk) ks.length qk) (by go_simp) (fun V hV => by obtain ⟨d1, d2, d3, d4, d5, d6, ⟨x0, x1, x2, x3, x4, x5, x6, x7, x8⟩, ⟨y0, y1, y2, y3, y4, y5, y6, y7, y8, y9, y10⟩⟩ := hV; go_simp) ?_
    go_simp
    refine headT_read rfl (.pointer (some ⟨w.heap.size, 2, none⟩)) (by go_simp) (fun V hV => by go_simp) ?_
    go_simp
    refine headT_read rfl (.int .i64 (kn : Nat)) (by go_simp) (fun V hV => by obtain ⟨d1, d2, d3, d4, d5, d6, ⟨x0, x1, x2, x3, x4, x5, x6, x7, x8⟩, ⟨y0, y1, y2, y3, y4, y5, y6, y7, y8, y9, y10⟩⟩ := hV; go_simp) ?_
    go_simp
    refine headT_read rfl (.pointer (some (xk.add (kn * 11)))) (by go_simp) (fun V hV => by go_simp) ?_
    go_simp
    refine headT_read rfl (.agg #[.string k.b, .int .i64 k.n0, .int .i64 k.n1, .int .i64 k.n2, .int .i64 k.n3, .int .i64 k.n4, .int .i64 k.n5, .int .i64 k.n6, .int .i64 k.n7, .bool k.f, .bool k.t]) (by go_simp) (fun V hV => by obtain ⟨d1, d2, d3, d4, d5, d6, ⟨x0, x1, x2, x3, x4, x5, x6, x7, x8⟩, ⟨y0, y1, y2, y3, y4, y5, y6, y7, y8, y9, y10⟩⟩ := hV; go_simp) ?_
    go_simp
    refine headT_read rfl (.pointer (some ⟨w.heap.size, 3, none⟩)) (by go_simp) (fun V hV => by go_simp) ?_
    go_simp
    refine headT_read rfl (.int .i64 (an : Nat)) (by go_simp) (fun V hV => by obtain ⟨d1, d2, d3, d4, d5, d6, ⟨x0, x1, x2, x3, x4, x5, x6, x7, x8⟩, ⟨y0, y1, y2, y3, y4, y5, y6, y7, y8, y9, y10⟩⟩ := hV; go_simp) ?_
    go_simp
    refine headT_read rfl (.int .i64 (c : Nat)) (by go_simp) (fun V hV => by obtain ⟨d1, d2, d3, d4, d5, d6, ⟨x0, x1, x2, x3, x4, x5, x6, x7, x8⟩, ⟨y0, y1, y2, y3, y4, y5, y6, y7, y8, y9, y10⟩⟩ := hV; go_simp) ?_
    go_simp
    refine headT_call rfl 38 #[.agg #[.int .i64 X.wide, .int .i64 X.high, u1, u2], .agg #[.string k.b, .int .i64 k.n0, .int .i64 k.n1, .int .i64 k.n2, .int .i64 k.n3, .int .i64 k.n4, .int .i64 k.n5, .int .i64 k.n6, .int .i64 k.n7, .bool k.f, .bool k.t], .int .i64 (an : Nat), .int .i64 (c : Nat)] (by go_simp) (by go_simp) ?_
    have FLD := fl_of (XL.out.below B1.out)
    rw [HE.out.2.2.1, HE.out.2.2.2] at FLD ⊢
    refine (reaches_any _ Wm Hn X.gs X.os k an c w1 FLD LL.out.1 LL.out.2.1 LL.out.2.2.1 LL.out.2.2.2.1 LL.out.2.2.2.2).mono ?_
    rintro e w2 ⟨rfl, hb⟩
    have B2 : Hid (Below w.heap.size w w2) := B1.out.trans (hb.mono B1.out.size)
    refine ⟨_, rfl, CB.out _ B2.out (O1.out.below hb O1.out.lt), ?_⟩
    clear hb B1 O1 FLD
    go_simp
    obtain ⟨t, ht⟩ : ∃ t, seeN Wm X.gs k an c = t := ⟨_, rfl⟩
    rw [ht] at S1 ⊢
    clear ht
    refine sched_read rfl (.bool t) (by go_simp) (fun V hV => by go_simp) ?_
    go_simp
    refine sched_value rfl (.bool t) w2 (by go_simp) (by go_simp) trivial ?_
    go_simp
    unfold wpSched
    go_wp2
    go_ret
    exact ⟨by rw [S1.out]; rfl, B2.out⟩

set_option maxRecDepth 100000 in
set_option maxHeartbeats 4000000 in
theorem doesSee_any (vk vw : Value) (ks : List KV) (X : WV) (p : Int) (Wn c : Nat) (w : World) (WR : WRight ks X) (hw : X.wide = (Wn : Nat)) (hc : c < X.gs.length) (hk : Kl w vk ks) (hx : Wl w vw X) :
    Calls Try.prog 19 #[vk, vw, .int .i64 p, .int .i64 (c : Nat)] w fun e w' => e = .returned (.bool (seesP ks Wn X.gs X.us p c)) ∧ Below w.heap.size w w' := by
  have HR : Hid (WRight ks X ∧ X.wide = (Wn : Nat) ∧ c < X.gs.length) := ⟨WR, hw, hc⟩
  have K : Hid (Kl w vk ks) := hk
  have XL : Hid (Wl w vw X) := hx
  obtain ⟨p1, q1, p2, q2, p3, q3, p4, q4, p5, q5, rfl⟩ := wl_shape9 hx
  obtain ⟨pk, qk, rfl, -⟩ := hk
  clear hx hw hc WR
  have B0 : Hid (Below w.heap.size w ((((w.alloc (Obj.cells #[.slice pk ks.length qk] 22)).alloc (Obj.cells #[.int .i64 X.turn, .int .i64 X.next, .int .i64 X.wide, .int .i64 X.high, .slice p1 X.gs.length q1, .slice p2 X.os.length q2, .slice p3 X.gold.length q3, .slice p4 X.us.length q4, .slice p5 X.qs.length q5] 29)).alloc (Obj.cells #[.int .i64 p] 3)).alloc (Obj.cells #[.int .i64 (c : Nat)] 3))) := ((((Below.refl _ _).alloc (Nat.le_refl _) _).alloc (by simp) _).alloc (by simp; omega) _).alloc (by simp; omega) _
  have K0 : Hid (((((w.alloc (Obj.cells #[.slice pk ks.length qk] 22)).alloc (Obj.cells #[.int .i64 X.turn, .int .i64 X.next, .int .i64 X.wide, .int .i64 X.high, .slice p1 X.gs.length q1, .slice p2 X.os.length q2, .slice p3 X.gold.length q3, .slice p4 X.us.length q4, .slice p5 X.qs.length q5] 29)).alloc (Obj.cells #[.int .i64 p] 3)).alloc (Obj.cells #[.int .i64 (c : Nat)] 3)).cell? ⟨w.heap.size, 0, none⟩ = some (.slice pk ks.length qk) ∧ ((((w.alloc (Obj.cells #[.slice pk ks.length qk] 22)).alloc (Obj.cells #[.int .i64 X.turn, .int .i64 X.next, .int .i64 X.wide, .int .i64 X.high, .slice p1 X.gs.length q1, .slice p2 X.os.length q2, .slice p3 X.gold.length q3, .slice p4 X.us.length q4, .slice p5 X.qs.length q5] 29)).alloc (Obj.cells #[.int .i64 p] 3)).alloc (Obj.cells #[.int .i64 (c : Nat)] 3)).cell? ⟨w.heap.size + 1 + 1, 0, none⟩ = some (.int .i64 p) ∧ ((((w.alloc (Obj.cells #[.slice pk ks.length qk] 22)).alloc (Obj.cells #[.int .i64 X.turn, .int .i64 X.next, .int .i64 X.wide, .int .i64 X.high, .slice p1 X.gs.length q1, .slice p2 X.os.length q2, .slice p3 X.gold.length q3, .slice p4 X.us.length q4, .slice p5 X.qs.length q5] 29)).alloc (Obj.cells #[.int .i64 p] 3)).alloc (Obj.cells #[.int .i64 (c : Nat)] 3)).cell? ⟨w.heap.size + 1 + 1 + 1, 0, none⟩ = some (.int .i64 (c : Nat))) := by
    refine ⟨?_, ?_, ?_⟩
    · rw [cell_alloc (p := ⟨w.heap.size, 0, none⟩) (by simp; omega), cell_alloc (p := ⟨w.heap.size, 0, none⟩) (by simp; omega), cell_alloc (p := ⟨w.heap.size, 0, none⟩) (by simp)]
      simp
    · rw [cell_alloc (p := ⟨w.heap.size + 1 + 1, 0, none⟩) (by simp)]
      exact cell_new1 _ _ (by simp)
    · exact cell_new1 _ _ (by simp)
  have X0 : Hid (Bw ((((w.alloc (Obj.cells #[.slice pk ks.length qk] 22)).alloc (Obj.cells #[.int .i64 X.turn, .int .i64 X.next, .int .i64 X.wide, .int .i64 X.high, .slice p1 X.gs.length q1, .slice p2 X.os.length q2, .slice p3 X.gold.length q3, .slice p4 X.us.length q4, .slice p5 X.qs.length q5] 29)).alloc (Obj.cells #[.int .i64 p] 3)).alloc (Obj.cells #[.int .i64 (c : Nat)] 3)) (w.heap.size + 1) X (.slice p1 X.gs.length q1) (.slice p2 X.os.length q2) (.slice p3 X.gold.length q3) (.slice p4 X.us.length q4) (.slice p5 X.qs.length q5)) := ((Bw.mk' X _ _ _ _ _ (by simp)).below ((Below.refl _ _).alloc (Nat.le_refl _) _) (by simp)).below ((Below.refl _ _).alloc (Nat.le_refl _) _) (by simp)
  go_enter Try.func19, Try.ntmps19
  go_upto_region 1 with fail
  generalize ((((w.alloc (Obj.cells #[.slice pk ks.length qk] 22)).alloc (Obj.cells #[.int .i64 X.turn, .int .i64 X.next, .int .i64 X.wide, .int .i64 X.high, .slice p1 X.gs.length q1, .slice p2 X.os.length q2, .slice p3 X.gold.length q3, .slice p4 X.us.length q4, .slice p5 X.qs.length q5] 29)).alloc (Obj.cells #[.int .i64 p] 3)).alloc (Obj.cells #[.int .i64 (c : Nat)] 3)) = w0 at *
  obtain ⟨x0, x1, x2, x3, x4, x5, x6, x7, x8⟩ := X0.out
  go_wp2_with fail
  refine (hasm_any 37 (by intro args w; go_simp) _ #[.pointer (some ⟨w.heap.size + 1 + 1, 0, none⟩), .pointer (some ⟨w.heap.size + 1, 0, none⟩), .pointer (some ⟨w.heap.size, 0, none⟩), .pointer (some ⟨w.heap.size + 1 + 1 + 1, 0, none⟩)] X.us (seeU ks Wn X.gs p c) w0 (XL.out.below B0.out).slices.2.2.2.1 (fun V hV u hu => see_fg ks X u p Wn c _ _ _ _ _ _ _ _ _ _ V HR.out.1 HR.out.2.1 HR.out.2.2 hu (K.out.below (B0.out.trans (hV.mono B0.out.size))) (XL.out.below (B0.out.trans (hV.mono B0.out.size))) (X0.out.below hV X0.out.lt) (by rw [hV.cell (p := ⟨w.heap.size + 1 + 1, 0, none⟩) (cell_lt K0.out.2.1)]; exact K0.out.2.1) (by rw [hV.cell (p := ⟨w.heap.size, 0, none⟩) (cell_lt K0.out.1)]; exact K0.out.1) (by rw [hV.cell (p := ⟨w.heap.size + 1 + 1 + 1, 0, none⟩) (cell_lt K0.out.2.2)]; exact K0.out.2.2))).mono ?_
  rintro e w1 ⟨rfl, hb⟩
  have B1 : Hid (Below w.heap.size w w1) := B0.out.trans (hb.mono B0.out.size)
  obtain ⟨t, ht⟩ : ∃ t, X.us.any (seeU ks Wn X.gs p c) = t := ⟨_, rfl⟩
  have ST : Hid (seesP ks Wn X.gs X.us p c = t) := ht
  rw [ht]
  clear hb ht x0 x1 x2 x3 x4 x5 x6 x7 x8
  go_wp2
  go_ret
  exact ⟨by rw [ST.out]; rfl, B1.out⟩
end Go.Proofs.Ytagnjmellcibhaa

namespace Go.Proofs.Ytagnjmellcibhaa
open Go.RowKit

def intCells (ds : List Int) : List Value := ds.map fun d => .int .i64 d

/-- block b holds the integers ds, and some cells behind. -/
def Bk (w : World) (b : Nat) (ds : List Int) (r : Array Value) : Prop := w.heap[b]? = some (.cells ((intCells ds).toArray ++ r) 3 (0, 0))

theorem Bk.cell {w : World} {b : Nat} {ds : List Int} {r : Array Value} (h : Bk w b ds r) {i : Nat} {d : Int} (hd : ds[i]? = some d) : w.cell? ⟨b, i, none⟩ = some (.int .i64 d) := by
  have hi : i < ds.length := (List.getElem?_eq_some_iff.1 hd).1
  unfold Bk at h
  simp only [World.cell?, h]
  simp [intCells, Array.getElem?_append, hi]
  exact (List.getElem?_eq_some_iff.1 hd).2
theorem Bk.thaw {w : World} {b : Nat} {ds : List Int} {r : Array Value} (h : Bk w b ds r) (i : Nat) : w.frozen? ⟨b, i, none⟩ = false := by
  unfold Bk at h
  simp [World.frozen?, h]
theorem Bk.set {w : World} {b : Nat} {ds : List Int} {r : Array Value} (h : Bk w b ds r) (i : Nat) (d : Int) (hi : i < ds.length) : Bk (w.setCell ⟨b, i, none⟩ (.int .i64 d)) b (ds.set i d) r := by
  unfold Bk at *
  rw [heap_setCell_same w b i _ _ _ h]
  have e : (intCells (ds.set i d)).toArray = (intCells ds).toArray.setIfInBounds i (.int .i64 d) := by
    simp [intCells, List.map_set]
  rw [e]
  have hl : i < (intCells ds).toArray.size := by simpa [intCells] using hi
  rw [Array.setIfInBounds_append_left hl]
theorem Bk.drewN {w : World} {b : Nat} {ds : List Int} {r : Array Value} (h : Bk w b ds r) (n : Nat) : Bk (w.drewN n) b ds r := h
theorem Bk.kp {w w' : World} {b z : Nat} {ds : List Int} {r : Array Value} (h : Bk w b ds r) (hk : Kp z w w') (hne : b ≠ z) : Bk w' b ds r := by
  unfold Bk at *
  rw [hk.block b (lt_of_block h) hne]; exact h
theorem Bk.below {w w' : World} {b : Nat} {ds : List Int} {r : Array Value} (h : Bk w b ds r) (hb : Below w.heap.size w w') : Bk w' b ds r := by
  unfold Bk at *
  rw [hb.block b (lt_of_block h)]; exact h
theorem Bk.lt {w : World} {b : Nat} {ds : List Int} {r : Array Value} (h : Bk w b ds r) : b < w.heap.size := lt_of_block h
theorem Bk.ro {w : World} {b c : Nat} {ds : List Int} {r : Array Value} (h : Bk w b ds r) (h1 : ds.length ≤ c) (h2 : c ≤ 9223372036854775807) : Ro w (.slice (some ⟨b, 0, none⟩) ds.length c) ds :=
  ⟨_, c, rfl, h1, h2, fun _ => ⟨_, rfl, h.lt, fun i d hd => by rw [Addr.add_lit, Nat.zero_add]; exact h.cell hd⟩⟩
/-- another cell, another block. -/
theorem Bk.other {w : World} {b : Nat} {ds : List Int} {r : Array Value} (h : Bk w b ds r) {g : Nat} (hne : b ≠ g) (i : Nat) (u : Value) : Bk (w.setCell ⟨g, i, none⟩ u) b ds r := by
  unfold Bk at *
  rw [Below.heap_setCell _ _ _ _ hne]; exact h
theorem Bk.low {w w' : World} {b B : Nat} {ds : List Int} {r : Array Value} (h : Bk w b ds r) (hb : Below B w w') (hB : b < B) : Bk w' b ds r := by
  unfold Bk at *
  rw [hb.block b hB]; exact h
end Go.Proofs.Ytagnjmellcibhaa

namespace Go.Proofs.Ytagnjmellcibhaa
open Go.RowKit
set_option linter.unusedVariables false

/-- v is a slice of the bools xs. -/
def Bl (w : World) (v : Value) (xs : List Bool) : Prop := ∃ (a : Option Addr) (c : Nat), v = .slice a xs.length c ∧ xs.length ≤ c ∧ c ≤ 9223372036854775807 ∧ (xs ≠ [] → ∃ x, a = some x ∧ x.block < w.heap.size ∧ ∀ i d, xs[i]? = some d → w.cell? (x.add i) = some (.bool d))
theorem Bl.below {w w' : World} {v : Value} {xs : List Bool} (h : Bl w v xs) (hb : Below w.heap.size w w') : Bl w' v xs := by
  obtain ⟨a, c, h1, h2, h3, h4⟩ := h
  refine ⟨a, c, h1, h2, h3, fun hx => ?_⟩
  obtain ⟨x, ha, hl, hc⟩ := h4 hx
  refine ⟨x, ha, Nat.lt_of_lt_of_le hl hb.size, fun i d hd => ?_⟩
  rw [hb.cell (p := x.add i) (by rw [add_block]; exact hl)]
  exact hc i d hd
theorem Bl.nil (w : World) : Bl w (.slice none 0 0) [] := ⟨none, 0, rfl, Nat.le_refl _, by omega, fun h => absurd rfl h⟩
theorem Bl.len {w : World} {v : Value} {xs : List Bool} (h : Bl w v xs) : ∃ a c, v = .slice a xs.length c := by
  obtain ⟨a, c, h, -⟩ := h
  exact ⟨a, c, h⟩
def boolCells (ds : List Bool) : List Value := ds.map fun d => .bool d
/-- block b holds the bools ds. -/
def Bb (w : World) (b : Nat) (ds : List Bool) : Prop := w.heap[b]? = some (.cells (boolCells ds).toArray 4 (0, 0))
theorem Bb.cell {w : World} {b : Nat} {ds : List Bool} (h : Bb w b ds) {i : Nat} {d : Bool} (hd : ds[i]? = some d) : w.cell? ⟨b, i, none⟩ = some (.bool d) := by
  have hi : i < ds.length := (List.getElem?_eq_some_iff.1 hd).1
  unfold Bb at h
  simp only [World.cell?, h]
  simp [boolCells, hi]
  exact (List.getElem?_eq_some_iff.1 hd).2
theorem Bb.thaw {w : World} {b : Nat} {ds : List Bool} (h : Bb w b ds) (i : Nat) : w.frozen? ⟨b, i, none⟩ = false := by
  unfold Bb at h
  simp [World.frozen?, h]
theorem Bb.set {w : World} {b : Nat} {ds : List Bool} (h : Bb w b ds) (i : Nat) (d : Bool) : Bb (w.setCell ⟨b, i, none⟩ (.bool d)) b (ds.set i d) := by
  unfold Bb at *
  rw [heap_setCell_same w b i _ _ _ h]
  have e : (boolCells (ds.set i d)).toArray = (boolCells ds).toArray.setIfInBounds i (.bool d) := by
    simp [boolCells, List.map_set]
  rw [e]
theorem Bb.lt {w : World} {b : Nat} {ds : List Bool} (h : Bb w b ds) : b < w.heap.size := lt_of_block h
theorem Bb.low {w w' : World} {b B : Nat} {ds : List Bool} (h : Bb w b ds) (hb : Below B w w') (hB : b < B) : Bb w' b ds := by
  unfold Bb at *
  rw [hb.block b hB]; exact h
theorem Bb.bl {w : World} {b c : Nat} {ds : List Bool} (h : Bb w b ds) (h1 : ds.length ≤ c) (h2 : c ≤ 9223372036854775807) : Bl w (.slice (some ⟨b, 0, none⟩) ds.length c) ds :=
  ⟨_, c, rfl, h1, h2, fun _ => ⟨_, rfl, h.lt, fun i d hd => by rw [Addr.add_lit, Nat.zero_add]; exact h.cell hd⟩⟩
theorem info_bool : (Try.prog.info? 4).map (fun i => (i.zero, i.size, i.bytes)) = some (some (.bool false), 1, 1) := by kernel_rfl
theorem made_bools (n : Nat) : madeCells #[Value.bool false] n = (boolCells (List.replicate n false)).toArray := by
  apply Array.ext_getElem?
  intro i
  unfold madeCells boolCells
  by_cases h : i < n
  · simp [h, Nat.mod_one]
  · simp [h]
theorem makeB (n : Nat) (w : World) (h : n ≤ 1000000) : ∃ w', (Instr.makeSlice 37 (.int .i64 (n : Nat)) (.int .i64 (n : Nat))).run Try.prog w = .ok (.slice (some ⟨w.heap.size, 0, none⟩) n n) w' ∧ Bb w' w.heap.size (List.replicate n false) ∧ Below w.heap.size w w' ∧ w'.heap.size = w.heap.size + 1 := by
  obtain ⟨i0, hi, hz0, hz1, hz2⟩ := info_parts info_bool
  have hr := run_make (P := Try.prog) w 37 4 i0 (.bool false) Try.underlying37 hi hz0 .i64 .i64 (n : Nat) (n : Nat) (by omega) (Int.le_refl _) (by rw [hz2]; omega) (by omega)
  refine ⟨_, hr, ?_, (Below.refl _ _).alloc (Nat.le_refl _) _, by simp⟩
  unfold Bb
  rw [hz1, Int.toNat_natCast, Nat.mul_one, heap_alloc_new]
  have e : (Value.bool false).cells = #[Value.bool false] := rfl
  rw [e, made_bools]
end Go.Proofs.Ytagnjmellcibhaa

namespace Go.Proofs.Ytagnjmellcibhaa
open Go.RowKit
set_option linter.unusedVariables false

/-- what is wrong with a world, or a player of it. -/
def pfault (ks : List KV) (X : WV) (p : Int) : Int := if Wd.wfault ks X = 0 then (if 0 ≤ p ∧ p < (X.gold.length : Int) then 0 else 1) else Wd.wfault ks X
/-- what is wrong with a world, or a cell of it. -/
def cfault (ks : List KV) (X : WV) (c : Int) : Int := if Wd.wfault ks X = 0 then (if 0 ≤ c ∧ c < (X.gs.length : Int) then 0 else 6) else Wd.wfault ks X
theorem pfault_zero {ks : List KV} {X : WV} {p : Int} (h : pfault ks X p = 0) : Wd.wfault ks X = 0 ∧ 0 ≤ p ∧ p < (X.gold.length : Int) := by
  unfold pfault at h
  split at h
  · rename_i h1
    split at h
    · rename_i h2; exact ⟨h1, h2⟩
    · cases h
  · rename_i h1; exact absurd h h1
theorem cfault_zero {ks : List KV} {X : WV} {c : Int} (h : cfault ks X c = 0) : Wd.wfault ks X = 0 ∧ 0 ≤ c ∧ c < (X.gs.length : Int) := by
  unfold cfault at h
  split at h
  · rename_i h1
    split at h
    · rename_i h2; exact ⟨h1, h2⟩
    · cases h
  · rename_i h1; exact absurd h h1
/-- what is seen of the first cells. -/
def seenUp (ks : List KV) (W : Nat) (X : WV) (p : Int) (n : Nat) : List Bool := (List.range X.gs.length).map (fun i => decide (i < n) && seesP ks W X.gs X.us p i)
theorem seenUp_len (ks : List KV) (W : Nat) (X : WV) (p : Int) (n : Nat) : (seenUp ks W X p n).length = X.gs.length := by unfold seenUp; simp
theorem seenUp_zero (ks : List KV) (W : Nat) (X : WV) (p : Int) : seenUp ks W X p 0 = List.replicate X.gs.length false := by
  unfold seenUp
  apply List.ext_getElem
  · simp
  · intro i h1 h2
    simp
theorem seenUp_all (ks : List KV) (W : Nat) (X : WV) (p : Int) : seenUp ks W X p X.gs.length = seenL ks W X p := by
  unfold seenUp seenL
  apply List.map_congr_left
  intro i hi
  simp [List.mem_range.1 hi]
theorem seenUp_next (ks : List KV) (W : Nat) (X : WV) (p : Int) (n : Nat) : seenUp ks W X p (n + 1) = (seenUp ks W X p n).set n (seesP ks W X.gs X.us p n) := by
  unfold seenUp
  apply List.ext_getElem
  · simp
  · intro i h1 h2
    rw [List.getElem_set]
    simp only [List.getElem_map, List.getElem_range]
    by_cases e : n = i
    · subst e; simp
    · rw [if_neg e]
      have : decide (i < n + 1) = decide (i < n) := decide_eq_decide.2 (by omega)
      rw [this]

set_option maxRecDepth 100000 in
set_option maxHeartbeats 4000000 in
theorem checkPlayer_any (vk vw : Value) (ks : List KV) (X : WV) (p : Int) (w : World) (hk : Kl w vk ks) (hb : ∀ k ∈ ks, k.b.size ≤ 9223372036854775807) (hw : Wl w vw X) :
    Calls Try.prog 20 #[vk, vw, .int .i64 p] w fun e w' => ∃ r, e = .returned r ∧ Er r (pfault ks X p) ∧ Below w.heap.size w w' := by
  have K : Hid (Kl w vk ks ∧ ∀ k ∈ ks, k.b.size ≤ 9223372036854775807) := ⟨hk, hb⟩
  have H : Hid (Wl w vw X) := hw
  obtain ⟨p1, q1, p2, q2, p3, q3, p4, q4, p5, q5, rfl⟩ := wl_shape9 hw
  obtain ⟨pk, qk, rfl, -⟩ := hk
  clear hb hw
  have B0 : Hid (Below w.heap.size w (w.alloc (Obj.cells #[.int .i64 X.turn, .int .i64 X.next, .int .i64 X.wide, .int .i64 X.high, .slice p1 X.gs.length q1, .slice p2 X.os.length q2, .slice p3 X.gold.length q3, .slice p4 X.us.length q4, .slice p5 X.qs.length q5] 29))) := (Below.refl _ _).alloc (Nat.le_refl _) _
  have X0 : Hid (Bw (w.alloc (Obj.cells #[.int .i64 X.turn, .int .i64 X.next, .int .i64 X.wide, .int .i64 X.high, .slice p1 X.gs.length q1, .slice p2 X.os.length q2, .slice p3 X.gold.length q3, .slice p4 X.us.length q4, .slice p5 X.qs.length q5] 29)) w.heap.size X (.slice p1 X.gs.length q1) (.slice p2 X.os.length q2) (.slice p3 X.gold.length q3) (.slice p4 X.us.length q4) (.slice p5 X.qs.length q5)) := Bw.mk' X _ _ _ _ _ rfl
  go_enter Try.func20, Try.ntmps20
  go_upto_region 1 with fail
  generalize (w.alloc (Obj.cells #[.int .i64 X.turn, .int .i64 X.next, .int .i64 X.wide, .int .i64 X.high, .slice p1 X.gs.length q1, .slice p2 X.os.length q2, .slice p3 X.gold.length q3, .slice p4 X.us.length q4, .slice p5 X.qs.length q5] 29)) = w0 at *
  obtain ⟨x0, x1, x2, x3, x4, x5, x6, x7, x8⟩ := X0.out
  go_wp2_with fail
  refine (wcheck_any _ _ ks X w0 (K.out.1.below B0.out) K.out.2 (H.out.below B0.out)).mono ?_
  rintro e w1 ⟨r, rfl, hr, hb⟩
  obtain ⟨fw, hfw⟩ : ∃ f, Wd.wfault ks X = f := ⟨_, rfl⟩
  have FW : Hid (Wd.wfault ks X = fw) := hfw
  rw [hfw] at hr
  have B1 : Hid (Below w.heap.size w w1) := B0.out.trans (hb.mono B0.out.size)
  have X1 : Hid (Bw w1 w.heap.size X (.slice p1 X.gs.length q1) (.slice p2 X.os.length q2) (.slice p3 X.gold.length q3) (.slice p4 X.us.length q4) (.slice p5 X.qs.length q5)) := X0.out.below hb X0.out.lt
  clear hb hfw x0 x1 x2 x3 x4 x5 x6 x7 x8 X0 B0
  rcases hr with ⟨rfl, rfl⟩ | ⟨hf, rfl⟩
  case inr =>
    have HF : Hid (fw ≠ 0) := hf
    clear hf
    have PF : Hid (pfault ks X p = fw) := by unfold Hid pfault; rw [FW.out, if_neg HF.out]
    go_wp2
    go_ret
    exact ⟨_, rfl, by rw [PF.out]; exact Er.no HF.out, B1.out⟩
  obtain ⟨x0, x1, x2, x3, x4, x5, x6, x7, x8⟩ := X1.out
  by_cases hi0 : p < 0
  · have PF : Hid (pfault ks X p = 1) := by unfold Hid pfault; rw [FW.out, if_pos rfl, if_neg (by omega)]
    go_wp2
    go_ret
    exact ⟨_, rfl, by rw [PF.out]; exact Er.no (by decide), B1.out⟩
  by_cases hi1 : (X.gold.length : Int) ≤ p
  · have PF : Hid (pfault ks X p = 1) := by unfold Hid pfault; rw [FW.out, if_pos rfl, if_neg (by omega)]
    go_wp2
    go_ret
    exact ⟨_, rfl, by rw [PF.out]; exact Er.no (by decide), B1.out⟩
  have PF : Hid (pfault ks X p = 0) := by unfold Hid pfault; rw [FW.out, if_pos rfl, if_pos (by omega)]
  go_wp2
  go_ret
  exact ⟨_, rfl, by rw [PF.out]; exact Er.nil, B1.out⟩

set_option maxRecDepth 100000 in
set_option maxHeartbeats 4000000 in
theorem seen_any (vk vw : Value) (ks : List KV) (X : WV) (p : Int) (Wn : Nat) (w : World) (WR : WRight ks X) (hww : X.wide = (Wn : Nat)) (hk : Kl w vk ks) (hb : ∀ k ∈ ks, k.b.size ≤ 9223372036854775807) (hw : Wl w vw X) :
    Calls Try.prog 21 #[vk, vw, .int .i64 p] w fun e w' => ∃ b, e = .returned (.slice (some ⟨b, 0, none⟩) X.gs.length X.gs.length) ∧ Bb w' b (seenL ks Wn X p) ∧ w.heap.size < b ∧ Below w.heap.size w w' := by
  have HR : Hid (WRight ks X ∧ X.wide = (Wn : Nat)) := ⟨WR, hww⟩
  have GL : X.gs.length ≤ 144 := by obtain ⟨_, _, -, -, G⟩ := WR.good; rw [G.gl]; exact G.pos.2
  clear WR hww
  have K : Hid (Kl w vk ks ∧ ∀ k ∈ ks, k.b.size ≤ 9223372036854775807) := ⟨hk, hb⟩
  have H : Hid (Wl w vw X) := hw
  obtain ⟨p1, q1, p2, q2, p3, q3, p4, q4, p5, q5, rfl⟩ := wl_shape9 hw
  obtain ⟨pk, qk, rfl, -⟩ := hk
  clear hb hw
  have B0 : Hid (Below w.heap.size w (w.alloc (Obj.cells #[.int .i64 X.turn, .int .i64 X.next, .int .i64 X.wide, .int .i64 X.high, .slice p1 X.gs.length q1, .slice p2 X.os.length q2, .slice p3 X.gold.length q3, .slice p4 X.us.length q4, .slice p5 X.qs.length q5] 29))) := (Below.refl _ _).alloc (Nat.le_refl _) _
  have X0 : Hid (Bw (w.alloc (Obj.cells #[.int .i64 X.turn, .int .i64 X.next, .int .i64 X.wide, .int .i64 X.high, .slice p1 X.gs.length q1, .slice p2 X.os.length q2, .slice p3 X.gold.length q3, .slice p4 X.us.length q4, .slice p5 X.qs.length q5] 29)) w.heap.size X (.slice p1 X.gs.length q1) (.slice p2 X.os.length q2) (.slice p3 X.gold.length q3) (.slice p4 X.us.length q4) (.slice p5 X.qs.length q5)) := Bw.mk' X _ _ _ _ _ rfl
  go_enter Try.func21, Try.ntmps21
  go_upto_region 1 with fail
  generalize (w.alloc (Obj.cells #[.int .i64 X.turn, .int .i64 X.next, .int .i64 X.wide, .int .i64 X.high, .slice p1 X.gs.length q1, .slice p2 X.os.length q2, .slice p3 X.gold.length q3, .slice p4 X.us.length q4, .slice p5 X.qs.length q5] 29)) = w0 at *
  have x4 := X0.out.c4
  obtain ⟨w1, hmk, hbk, hb1, hs1⟩ := makeB X.gs.length w0 (by omega)
  go_upto_region 2 with fail
  have BK : Hid (Bb w1 w0.heap.size (seenUp ks Wn X p 0)) := by unfold Hid; rw [seenUp_zero]; exact hbk
  have B1 : Hid (Below w.heap.size w w1) := B0.out.trans (hb1.mono B0.out.size)
  have X1 : Hid (Bw w1 w.heap.size X (.slice p1 X.gs.length q1) (.slice p2 X.os.length q2) (.slice p3 X.gold.length q3) (.slice p4 X.us.length q4) (.slice p5 X.qs.length q5)) := X0.out.below hb1 X0.out.lt
  obtain ⟨lb, hlb⟩ : ∃ z, w0.heap.size = z := ⟨_, rfl⟩
  have LB : Hid (w.heap.size < lb) := by unfold Hid; rw [← hlb]; exact X0.out.lt
  rw [hlb] at BK ⊢
  clear hmk hbk hb1 hs1 x4 hlb B0 X0
  go_wp2_with fail
  go_loopw [16] (fun i V => ∃ n : Nat, i = .int .i64 (n : Nat) ∧ n ≤ X.gs.length ∧ Bb V lb (seenUp ks Wn X p n) ∧ Bw V w.heap.size X (.slice p1 X.gs.length q1) (.slice p2 X.os.length q2) (.slice p3 X.gold.length q3) (.slice p4 X.us.length q4) (.slice p5 X.qs.length q5) ∧ Below w.heap.size w V) (fun i _ => X.gs.length - (intOf i).toNat)
  case atStart => exact ⟨0, rfl, Nat.zero_le _, BK.out, X1.out, B1.out⟩
  case round =>
    obtain ⟨n, rfl, hn, hbb, hx, hb⟩ := hrel
    clear BK X1 B1
    have BK : Hid (Bb wr lb (seenUp ks Wn X p n)) := hbb
    have X1 : Hid (Bw wr w.heap.size X (.slice p1 X.gs.length q1) (.slice p2 X.os.length q2) (.slice p3 X.gold.length q3) (.slice p4 X.us.length q4) (.slice p5 X.qs.length q5)) := hx
    have B1 : Hid (Below w.heap.size w wr) := hb
    clear hbb hx hb
    by_cases h0 : n = X.gs.length
    · subst h0
      go_wp2
      go_ret
      exact ⟨lb, rfl, by have := BK.out; rw [seenUp_all] at this; exact this, LB.out, B1.out⟩
    · have hnl : n < X.gs.length := by omega
      have hni : ((n : Nat) : Int) < (X.gs.length : Nat) := by omega
      have hnl2 : Hid (n < X.gs.length) := hnl
      have WN : IntKind.i64.wrap ((n : Nat) + 1 : Int) = ((n : Nat) : Int) + 1 := by rw [IntKind.wrap_i64]; omega
      obtain ⟨x0, x1, x2, x3, x4, x5, x6, x7, x8⟩ := X1.out
      go_wp2_with fail
      refine (doesSee_any _ _ ks X p Wn n wr HR.out.1 HR.out.2 hnl2.out (K.out.1.below B1.out) (H.out.below B1.out)).mono ?_
      rintro e w2 ⟨rfl, hb⟩
      have B2 : Hid (Below w.heap.size w w2) := B1.out.trans (hb.mono B1.out.size)
      have X2 : Hid (Bw w2 w.heap.size X (.slice p1 X.gs.length q1) (.slice p2 X.os.length q2) (.slice p3 X.gold.length q3) (.slice p4 X.us.length q4) (.slice p5 X.qs.length q5)) := X1.out.below hb X1.out.lt
      have BK2 : Hid (Bb w2 lb (seenUp ks Wn X p n)) := BK.out.low hb BK.out.lt
      obtain ⟨t, ht⟩ : ∃ t, seesP ks Wn X.gs X.us p n = t := ⟨_, rfl⟩
      have NX : Hid (seenUp ks Wn X p (n + 1) = (seenUp ks Wn X p n).set n t) := by unfold Hid; rw [seenUp_next, ht]
      obtain ⟨y, hy⟩ : ∃ y, (seenUp ks Wn X p n)[n]? = some y := ⟨_, List.getElem?_eq_getElem (by rw [seenUp_len]; exact hnl2.out)⟩
      have cy := BK2.out.cell hy
      have ty := BK2.out.thaw n
      rw [ht]
      clear hb ht hy x0 x1 x2 x3 x4 x5 x6 x7 x8 BK B1 X1
      have K3 : Hid (Kp lb w2 (w2.setCell ⟨lb, n, none⟩ (.bool t))) := Kp.set _ _ _
      have BK3 : Hid (Bb (w2.setCell ⟨lb, n, none⟩ (.bool t)) lb ((seenUp ks Wn X p n).set n t)) := BK2.out.set n t
      go_wp2
      generalize (w2.setCell ⟨lb, n, none⟩ (.bool t)) = w3 at *
      go_round
      case rel => exact ⟨n + 1, by go_num, by have := hnl2.out; omega, by rw [NX.out]; exact BK3.out, X2.out.kp9 K3.out (by have := LB.out; omega), K3.out.below B2.out B2.out.size (by have := LB.out; omega)⟩
      case measure => simp [intOf]; omega

/-- what Seen tells. -/
def SeenSays (ks : List KV) (X : WV) (p : Int) (w' : World) (v : Value) : Prop :=
  (pfault ks X p ≠ 0 ∧ v = .slice none 0 0) ∨ (pfault ks X p = 0 ∧ ∃ Wn : Nat, X.wide = (Wn : Nat) ∧ Bl w' v (seenL ks Wn X p))
set_option maxRecDepth 100000 in
set_option maxHeartbeats 4000000 in
theorem Seen_any (vk vw : Value) (ks : List KV) (X : WV) (p : Int) (w : World) (hk : Kl w vk ks) (hb : ∀ k ∈ ks, k.b.size ≤ 9223372036854775807) (hw : Wl w vw X) :
    Calls Try.prog 8 #[vk, vw, .int .i64 p] w fun e w' => ∃ v r, e = .returned (.tuple #[v, r]) ∧ Er r (pfault ks X p) ∧ SeenSays ks X p w' v ∧ Below w.heap.size w w' := by
  have K : Hid (Kl w vk ks ∧ ∀ k ∈ ks, k.b.size ≤ 9223372036854775807) := ⟨hk, hb⟩
  have H : Hid (Wl w vw X) := hw
  obtain ⟨p1, q1, p2, q2, p3, q3, p4, q4, p5, q5, rfl⟩ := wl_shape9 hw
  obtain ⟨pk, qk, rfl, -⟩ := hk
  clear hb hw
  have B0 : Hid (Below w.heap.size w (w.alloc (Obj.cells #[.int .i64 X.turn, .int .i64 X.next, .int .i64 X.wide, .int .i64 X.high, .slice p1 X.gs.length q1, .slice p2 X.os.length q2, .slice p3 X.gold.length q3, .slice p4 X.us.length q4, .slice p5 X.qs.length q5] 29))) := (Below.refl _ _).alloc (Nat.le_refl _) _
  have X0 : Hid (Bw (w.alloc (Obj.cells #[.int .i64 X.turn, .int .i64 X.next, .int .i64 X.wide, .int .i64 X.high, .slice p1 X.gs.length q1, .slice p2 X.os.length q2, .slice p3 X.gold.length q3, .slice p4 X.us.length q4, .slice p5 X.qs.length q5] 29)) w.heap.size X (.slice p1 X.gs.length q1) (.slice p2 X.os.length q2) (.slice p3 X.gold.length q3) (.slice p4 X.us.length q4) (.slice p5 X.qs.length q5)) := Bw.mk' X _ _ _ _ _ rfl
  go_enter Try.func8, Try.ntmps8
  go_upto_region 1 with fail
  generalize (w.alloc (Obj.cells #[.int .i64 X.turn, .int .i64 X.next, .int .i64 X.wide, .int .i64 X.high, .slice p1 X.gs.length q1, .slice p2 X.os.length q2, .slice p3 X.gold.length q3, .slice p4 X.us.length q4, .slice p5 X.qs.length q5] 29)) = w0 at *
  obtain ⟨x0, x1, x2, x3, x4, x5, x6, x7, x8⟩ := X0.out
  go_wp2_with fail
  refine (checkPlayer_any _ _ ks X p w0 (K.out.1.below B0.out) K.out.2 (H.out.below B0.out)).mono ?_
  rintro e w1 ⟨r, rfl, hr, hb⟩
  obtain ⟨fw, hfw⟩ : ∃ f, pfault ks X p = f := ⟨_, rfl⟩
  have FW : Hid (pfault ks X p = fw) := hfw
  rw [hfw] at hr
  have B1 : Hid (Below w.heap.size w w1) := B0.out.trans (hb.mono B0.out.size)
  have X1 : Hid (Bw w1 w.heap.size X (.slice p1 X.gs.length q1) (.slice p2 X.os.length q2) (.slice p3 X.gold.length q3) (.slice p4 X.us.length q4) (.slice p5 X.qs.length q5)) := X0.out.below hb X0.out.lt
  clear hb hfw x0 x1 x2 x3 x4 x5 x6 x7 x8 X0 B0
  rcases hr with ⟨rfl, rfl⟩ | ⟨hf, rfl⟩
  case inr =>
    have HF : Hid (fw ≠ 0) := hf
    clear hf
    go_wp2
    go_ret2
    exact ⟨_, _, rfl, by rw [FW.out]; exact Er.no HF.out, .inl ⟨by rw [FW.out]; exact HF.out, rfl⟩, B1.out⟩
  have WR : Hid (WRight ks X) := wright_of (pfault_zero FW.out).1
  obtain ⟨Wn, Hn, e1, e2, G⟩ := WR.out.good
  have GD : Hid (X.wide = (Wn : Nat) ∧ X.gs.length ≤ 144) := ⟨e1, by rw [G.gl]; exact G.pos.2⟩
  clear e1 e2 G
  obtain ⟨x0, x1, x2, x3, x4, x5, x6, x7, x8⟩ := X1.out
  go_wp2_with fail
  refine (seen_any _ _ ks X p Wn w1 WR.out GD.out.1 (K.out.1.below B1.out) K.out.2 (H.out.below B1.out)).mono ?_
  rintro e w2 ⟨b, rfl, hbb, -, hb⟩
  have B2 : Hid (Below w.heap.size w w2) := B1.out.trans (hb.mono B1.out.size)
  have BL : Hid (Bl w2 (.slice (some ⟨b, 0, none⟩) X.gs.length X.gs.length) (seenL ks Wn X p)) := by
    have h := hbb.bl (c := X.gs.length) (by rw [seen_len]; exact Nat.le_refl _) (by have := GD.out.2; omega)
    rw [seen_len] at h
    exact h
  clear hb hbb x0 x1 x2 x3 x4 x5 x6 x7 x8
  go_wp2
  go_ret2
  exact ⟨_, _, rfl, by rw [FW.out]; exact Er.nil, .inr ⟨FW.out, Wn, GD.out.1, BL.out⟩, B2.out⟩

/-- what Seers tells. -/
def SeersSays (ks : List KV) (X : WV) (c : Int) (w' : World) (v : Value) : Prop :=
  (cfault ks X c ≠ 0 ∧ v = .slice none 0 0) ∨ (cfault ks X c = 0 ∧ ∃ Wn : Nat, X.wide = (Wn : Nat) ∧ Ro w' v (seersL ks Wn X c.toNat))
set_option maxRecDepth 100000 in
set_option maxHeartbeats 4000000 in
theorem Seers_any (vk vw : Value) (ks : List KV) (X : WV) (c : Int) (w : World) (hk : Kl w vk ks) (hb : ∀ k ∈ ks, k.b.size ≤ 9223372036854775807) (hw : Wl w vw X) :
    Calls Try.prog 6 #[vk, vw, .int .i64 c] w fun e w' => ∃ v r, e = .returned (.tuple #[v, r]) ∧ Er r (cfault ks X c) ∧ SeersSays ks X c w' v ∧ Below w.heap.size w w' := by
  have K : Hid (Kl w vk ks ∧ ∀ k ∈ ks, k.b.size ≤ 9223372036854775807) := ⟨hk, hb⟩
  have H : Hid (Wl w vw X) := hw
  obtain ⟨p1, q1, p2, q2, p3, q3, p4, q4, p5, q5, rfl⟩ := wl_shape9 hw
  obtain ⟨pk, qk, rfl, -⟩ := hk
  clear hb hw
  have B0 : Hid (Below w.heap.size w (w.alloc (Obj.cells #[.int .i64 X.turn, .int .i64 X.next, .int .i64 X.wide, .int .i64 X.high, .slice p1 X.gs.length q1, .slice p2 X.os.length q2, .slice p3 X.gold.length q3, .slice p4 X.us.length q4, .slice p5 X.qs.length q5] 29))) := (Below.refl _ _).alloc (Nat.le_refl _) _
  have X0 : Hid (Bw (w.alloc (Obj.cells #[.int .i64 X.turn, .int .i64 X.next, .int .i64 X.wide, .int .i64 X.high, .slice p1 X.gs.length q1, .slice p2 X.os.length q2, .slice p3 X.gold.length q3, .slice p4 X.us.length q4, .slice p5 X.qs.length q5] 29)) w.heap.size X (.slice p1 X.gs.length q1) (.slice p2 X.os.length q2) (.slice p3 X.gold.length q3) (.slice p4 X.us.length q4) (.slice p5 X.qs.length q5)) := Bw.mk' X _ _ _ _ _ rfl
  go_enter Try.func6, Try.ntmps6
  go_upto_region 1 with fail
  generalize (w.alloc (Obj.cells #[.int .i64 X.turn, .int .i64 X.next, .int .i64 X.wide, .int .i64 X.high, .slice p1 X.gs.length q1, .slice p2 X.os.length q2, .slice p3 X.gold.length q3, .slice p4 X.us.length q4, .slice p5 X.qs.length q5] 29)) = w0 at *
  obtain ⟨x0, x1, x2, x3, x4, x5, x6, x7, x8⟩ := X0.out
  go_wp2_with fail
  refine (wcheck_any _ _ ks X w0 (K.out.1.below B0.out) K.out.2 (H.out.below B0.out)).mono ?_
  rintro e w1 ⟨r, rfl, hr, hb⟩
  obtain ⟨fw, hfw⟩ : ∃ f, Wd.wfault ks X = f := ⟨_, rfl⟩
  have FW : Hid (Wd.wfault ks X = fw) := hfw
  rw [hfw] at hr
  have B1 : Hid (Below w.heap.size w w1) := B0.out.trans (hb.mono B0.out.size)
  have X1 : Hid (Bw w1 w.heap.size X (.slice p1 X.gs.length q1) (.slice p2 X.os.length q2) (.slice p3 X.gold.length q3) (.slice p4 X.us.length q4) (.slice p5 X.qs.length q5)) := X0.out.below hb X0.out.lt
  clear hb hfw x0 x1 x2 x3 x4 x5 x6 x7 x8 X0 B0
  rcases hr with ⟨rfl, rfl⟩ | ⟨hf, rfl⟩
  case inr =>
    have HF : Hid (fw ≠ 0) := hf
    clear hf
    have PF : Hid (cfault ks X c = fw) := by unfold Hid cfault; rw [FW.out, if_neg HF.out]
    go_wp2
    go_ret2
    exact ⟨_, _, rfl, by rw [PF.out]; exact Er.no HF.out, .inl ⟨by rw [PF.out]; exact HF.out, rfl⟩, B1.out⟩
  obtain ⟨x0, x1, x2, x3, x4, x5, x6, x7, x8⟩ := X1.out
  by_cases hi0 : c < 0
  · have PF : Hid (cfault ks X c = 6) := by unfold Hid cfault; rw [FW.out, if_pos rfl, if_neg (by omega)]
    go_wp2
    go_ret2
    exact ⟨_, _, rfl, by rw [PF.out]; exact Er.no (by decide), .inl ⟨by rw [PF.out]; decide, rfl⟩, B1.out⟩
  by_cases hi1 : (X.gs.length : Int) ≤ c
  · have PF : Hid (cfault ks X c = 6) := by unfold Hid cfault; rw [FW.out, if_pos rfl, if_neg (by omega)]
    go_wp2
    go_ret2
    exact ⟨_, _, rfl, by rw [PF.out]; exact Er.no (by decide), .inl ⟨by rw [PF.out]; decide, rfl⟩, B1.out⟩
  have PF : Hid (cfault ks X c = 0) := by unfold Hid cfault; rw [FW.out, if_pos rfl, if_pos (by omega)]
  obtain ⟨c, rfl⟩ : ∃ n : Nat, c = n := ⟨c.toNat, by omega⟩
  have hcl : Hid (c < X.gs.length) := by unfold Hid; omega
  have WR : Hid (WRight ks X) := wright_of FW.out
  obtain ⟨Wn, Hn, e1, e2, G⟩ := WR.out.good
  have GD : Hid (X.wide = (Wn : Nat)) := e1
  have GO : Hid (X.gold.length ≤ 4) := by have := (nums_ok WR.out.nums).2; unfold Hid; omega
  have hj0 : decide (((c : Nat) : Int) < 0) = false := decide_eq_false hi0
  have hj1 : decide (X.gs.length ≤ c) = false := decide_eq_false (by omega)
  clear e1 e2 G
  go_wp2_with fail
  clear hi0 hi1 hj0 hj1 x0 x1 x2 x3 x4 x5 x6 x7 x8
  obtain ⟨b1, hb1⟩ : ∃ z, w1.heap.size = z := ⟨_, rfl⟩
  have LB : Hid (w.heap.size < b1) := by unfold Hid; rw [← hb1]; exact X1.out.lt
  have SZ : Hid (b1 ≤ w1.heap.size) := by unfold Hid; rw [hb1]; exact Nat.le_refl _
  clear hb1
  go_loopw [9, 31] (fun l i V => ∃ (n : Nat) (lv : Value), i = .int .i64 (n : Nat) ∧ lv = l ∧ n ≤ X.gold.length ∧ Ow V b1 lv (seersUp ks Wn X c n) ∧ Below b1 w1 V) (fun _ i _ => X.gold.length - (intOf i).toNat)
  case atStart => exact ⟨0, _, rfl, rfl, Nat.zero_le _, Ow.nil _ _, Below.refl _ _⟩
  case round =>
    obtain ⟨n, lv, rfl, rfl, hn, ho, hb⟩ := hrel
    have OW : Hid (Ow wr b1 lv (seersUp ks Wn X c n)) := ho
    have BB : Hid (Below b1 w1 wr) := hb
    have B2 : Hid (Below w.heap.size w wr) := B1.out.trans (hb.mono (Nat.le_of_lt LB.out))
    have X2 : Hid (Bw wr w.heap.size X (.slice p1 X.gs.length q1) (.slice p2 X.os.length q2) (.slice p3 X.gold.length q3) (.slice p4 X.us.length q4) (.slice p5 X.qs.length q5)) := X1.out.below hb LB.out
    clear ho hb
    by_cases h0 : n = X.gold.length
    · subst h0
      go_wp2
      go_ret2
      exact ⟨_, _, rfl, by rw [PF.out]; exact Er.nil, .inr ⟨PF.out, Wn, GD.out, OW.out.ro⟩, B2.out⟩
    · have hnl : n < X.gold.length := by omega
      have hni : ((n : Nat) : Int) < (X.gold.length : Nat) := by omega
      have HN : Hid (n < X.gold.length) := hnl
      have WN : IntKind.i64.wrap ((n : Nat) + 1 : Int) = ((n : Nat) : Int) + 1 := by have := GO.out; rw [IntKind.wrap_i64]; omega
      obtain ⟨xs, hxs⟩ : ∃ l, seersUp ks Wn X c n = l := ⟨_, rfl⟩
      have LX : Hid (xs.length ≤ 4) := by have h1 := seersUp_len ks Wn X c n; have := GO.out; unfold Hid; rw [← hxs]; omega
      have NX := seers_next ks Wn X c n
      rw [hxs] at OW NX
      clear hxs
      obtain ⟨x0, x1, x2, x3, x4, x5, x6, x7, x8⟩ := X2.out
      go_wp2_with fail
      refine (doesSee_any _ _ ks X (n : Nat) Wn c wr WR.out GD.out hcl.out (K.out.1.below B2.out) (H.out.below B2.out)).mono ?_
      rintro e w2 ⟨rfl, hb⟩
      have BB2 : Hid (Below b1 w1 w2) := BB.out.trans (hb.mono (Nat.le_trans SZ.out BB.out.size))
      have OW2 : Hid (Ow w2 b1 lv xs) := OW.out.below hb
      have S2 : Hid (b1 ≤ w2.heap.size) := Nat.le_trans SZ.out BB2.out.size
      obtain ⟨t, ht⟩ : ∃ t, seesP ks Wn X.gs X.us (n : Nat) c = t := ⟨_, rfl⟩
      rw [ht] at NX ⊢
      clear hb ht x0 x1 x2 x3 x4 x5 x6 x7 x8 BB OW B2 X2
      cases t with
      | false =>
        have NY : Hid (seersUp ks Wn X c (n + 1) = xs) := by unfold Hid; rw [NX]; simp
        clear NX
        go_wp2
        go_round
        case rel => exact ⟨n + 1, _, by go_num, rfl, by have := HN.out; omega, by rw [NY.out]; exact OW2.out, BB2.out⟩
        case measure => simp [intOf]; omega
      | true =>
        have NY : Hid (seersUp ks Wn X c (n + 1) = xs ++ [((n : Nat) : Int)]) := by unfold Hid; rw [NX]; simp
        clear NX
        go_wp2_with (at_builtin; refine app_int _ rfl _ _ rfl b1 _ xs rfl (OW2.out.alloc _) ⟨w2.heap.size, 0, none⟩ (n : Nat) rfl (by simp) (by have := LX.out; omega) (by have := S2.out; simp; omega) ?_)
        intro g cap w6 o6 g6 _ _
        have O6 : Hid (Ow w6 b1 (.slice (some ⟨g, 0, none⟩) (xs.length + 1) cap) (xs ++ [((n : Nat) : Int)])) := o6
        have hob : ∀ k, lv.ownBlock = some k → b1 ≤ k := fun k hk => (OW2.out.block k hk).1
        have B6 : Hid (Below b1 w1 w6) := BB2.out.trans (((Below.refl _ _).alloc S2.out _).grown g6 (by have := S2.out; simp; omega) hob)
        clear o6 g6 hob OW2 BB2 S2
        go_wp2
        go_round
        case rel => exact ⟨n + 1, _, by go_num, rfl, by have := HN.out; omega, by rw [NY.out]; exact O6.out, B6.out⟩
        case measure => simp [intOf]; omega
end Go.Proofs.Ytagnjmellcibhaa

namespace Go.Proofs.Ytagnjmellcibhaa
open Go.RowKit
set_option linter.unusedVariables false

theorem farN_self (W a : Nat) : farN W a a = 0 := by
  unfold farN
  rw [Int.sub_self, Int.sub_self]
  decide
theorem line_self (W a : Nat) : Fd.line W a a = [(a : Int)] := by
  unfold Fd.line
  rw [if_pos (by unfold Fd.span; simp)]
theorem see_self {W : Nat} {gs : List Int} {k : KV} {a : Nat} (h : 0 ≤ k.n3) : seeN W gs k a a = true := by
  unfold seeN
  rw [farN_self, line_self]
  simp [Fd.hide, h]
theorem own_sees {ks : List KV} {X : WV} {W i : Nat} {p : Int} {u : UnV} (WR : WRight ks X) (hu : X.us[i]? = some u) (hp : u.player = p) : seesP ks W X.gs X.us p u.at_.toNat = true := by
  obtain ⟨k, f⟩ := WR.fine hu
  have hN := kind_nums WR.kinds (List.mem_of_getElem? f.kk)
  refine List.any_eq_true.2 ⟨u, List.mem_of_getElem? hu, ?_⟩
  unfold seeU
  rw [f.kk, hp]
  simp [see_self (W := W) (gs := X.gs) (a := u.at_.toNat) hN.2.2.2.2.2.2.2.2.1]
theorem sees_has {ks : List KV} {gs : List Int} {us : List UnV} {W c : Nat} {p : Int} (h : seesP ks W gs us p c = true) : us.any (fun u => u.player == p) = true := by
  obtain ⟨u, hu, h⟩ := List.any_eq_true.1 h
  unfold seeU at h
  exact List.any_eq_true.2 ⟨u, hu, (Bool.and_eq_true_iff.1 h).1⟩
theorem seers_more (ks : List KV) (W : Nat) (X : WV) (c m : Nat) : ∀ d, ∃ t, seersUp ks W X c (m + d) = seersUp ks W X c m ++ t
  | 0 => ⟨[], by simp⟩
  | d + 1 => by
    obtain ⟨t, ht⟩ := seers_more ks W X c m d
    rw [← Nat.add_assoc, seers_next, ht, List.append_assoc]
    exact ⟨_, rfl⟩
theorem seers_at {ks : List KV} {W : Nat} {X : WV} {c p : Nat} (hp : p < X.gold.length) (h : seesP ks W X.gs X.us (p : Nat) c = true) : (seersL ks W X c)[(seersUp ks W X c p).length]? = some ((p : Nat) : Int) := by
  obtain ⟨t, ht⟩ := seers_more ks W X c (p + 1) (X.gold.length - (p + 1))
  have e : p + 1 + (X.gold.length - (p + 1)) = X.gold.length := by omega
  unfold seersL
  rw [e] at ht
  rw [ht, seers_next, h, if_pos rfl]
  simp
theorem seers_some {ks : List KV} {W : Nat} {X : WV} {c p : Nat} (h : seesP ks W X.gs X.us (p : Nat) c = true) : (seersUp ks W X c (p + 1)).length = (seersUp ks W X c p).length + 1 := by
  rw [seers_next, h, if_pos rfl]
  simp
theorem seers_none {ks : List KV} {W : Nat} {X : WV} {c p : Nat} (h : seesP ks W X.gs X.us (p : Nat) c = false) : (seersUp ks W X c (p + 1)).length = (seersUp ks W X c p).length := by
  rw [seers_next, h]
  simp
theorem pfault_ok {ks : List KV} {X : WV} {p : Int} (h : Wd.wfault ks X = 0) (h1 : 0 ≤ p) (h2 : p < (X.gold.length : Int)) : pfault ks X p = 0 := by
  unfold pfault
  rw [if_pos h, if_pos ⟨h1, h2⟩]
theorem seen_of {ks : List KV} {X : WV} {p : Int} {w : World} {v : Value} {Wn : Nat} (h : SeenSays ks X p w v) (h0 : pfault ks X p = 0) (hw : X.wide = (Wn : Nat)) : Bl w v (seenL ks Wn X p) := by
  rcases h with ⟨h, -⟩ | ⟨-, Wm, h1, h2⟩
  · exact absurd h0 h
  · obtain rfl : Wm = Wn := by omega
    exact h2
end Go.Proofs.Ytagnjmellcibhaa

namespace Go.Proofs.Ytagnjmellcibhaa
open Go.RowKit
set_option linter.unusedVariables false

/-- block g has these jobs, and more behind them. -/
def Jk (w : World) (g : Nat) (ks : List JbV) (rest : List Value) : Prop := w.heap[g]? = some (.cells (ks.flatMap JbV.cs ++ rest).toArray 64 (0, 0))
theorem Jk.lt {w : World} {g : Nat} {ks : List JbV} {rest : List Value} (h : Jk w g ks rest) : g < w.heap.size := lt_of_block h
theorem Jk.thaw {w : World} {g : Nat} {ks : List JbV} {rest : List Value} (h : Jk w g ks rest) (i : Nat) : w.frozen? ⟨g, i, none⟩ = false := by
  unfold Jk at h
  simp [World.frozen?, h]
theorem Jk.below {w w' : World} {g B : Nat} {ks : List JbV} {rest : List Value} (h : Jk w g ks rest) (hb : Below B w w') (hB : g < B) : Jk w' g ks rest := by
  unfold Jk at *
  rw [hb.block g hB]; exact h
theorem Jk.at_ {w : World} {g : Nat} {ks : List JbV} {rest : List Value} (h : Jk w g ks rest) {i : Nat} {o : JbV} (ho : ks[i]? = some o) {j : Nat} (hj : j < 4) : w.cell? ⟨g, i * 4 + j, none⟩ = o.cs[j]? := by
  unfold Jk at h
  have hi : i < ks.length := (List.getElem?_eq_some_iff.1 ho).1
  simp only [World.cell?, h]
  have e : (ks.flatMap JbV.cs ++ rest).toArray[i * 4 + j]? = o.cs[j]? := by
    rw [List.getElem?_toArray, List.getElem?_append_left (by rw [len_jb]; omega), flat_jb ks i j o ho hj]
  simp only [e]
  simp
theorem Jk.jbc {w : World} {g : Nat} {ks : List JbV} {rest : List Value} (h : Jk w g ks rest) {i : Nat} {o : JbV} (ho : ks[i]? = some o) : Jbc w ⟨g, i * 4, none⟩ o :=
  ⟨h.at_ ho (j := 0) (by decide), h.at_ ho (j := 1) (by decide), h.at_ ho (j := 2) (by decide), h.at_ ho (j := 3) (by decide)⟩
theorem jflat_set : ∀ (ks : List JbV) (i : Nat) (o : JbV) (rest : List Value), i < ks.length →
    (ks.set i o).flatMap JbV.cs ++ rest = ((((ks.flatMap JbV.cs ++ rest).set (i * 4) (.int .i64 o.player)).set (i * 4 + 1) (.int .i64 o.unit)).set (i * 4 + 2) (.int .i64 o.kind)).set (i * 4 + 3) (.int .i64 o.left)
  | [], i, o, rest, h => by simp at h
  | k :: ks, 0, o, rest, _ => by
    simp [JbV.cs]
  | k :: ks, i + 1, o, rest, h => by
    have ih := jflat_set ks i o rest (by simpa using h)
    rw [show (i + 1) * 4 = i * 4 + 4 by omega, show i * 4 + 4 + 1 = i * 4 + 1 + 4 by omega, show i * 4 + 4 + 2 = i * 4 + 2 + 4 by omega, show i * 4 + 4 + 3 = i * 4 + 3 + 4 by omega, List.set_cons_succ, List.flatMap_cons, List.append_assoc, ih, List.flatMap_cons]
    simp [JbV.cs]
theorem Jk.put {w : World} {g : Nat} {ks : List JbV} {rest : List Value} (h : Jk w g ks rest) {i : Nat} (hi : i < ks.length) (o : JbV) :
    Jk ((((w.setCell ⟨g, i * 4, none⟩ (.int .i64 o.player)).setCell ⟨g, i * 4 + 1, none⟩ (.int .i64 o.unit)).setCell ⟨g, i * 4 + 2, none⟩ (.int .i64 o.kind)).setCell ⟨g, i * 4 + 3, none⟩ (.int .i64 o.left)) g (ks.set i o) rest := by
  unfold Jk at *
  have h0 := heap_setCell_same w g (i * 4) _ _ (.int .i64 o.player) h
  have h1 := heap_setCell_same _ g (i * 4 + 1) _ _ (.int .i64 o.unit) h0
  have h2 := heap_setCell_same _ g (i * 4 + 2) _ _ (.int .i64 o.kind) h1
  have h3 := heap_setCell_same _ g (i * 4 + 3) _ _ (.int .i64 o.left) h2
  rw [h3, jflat_set ks i o rest hi]
  simp
theorem jk_below {B g : Nat} {w W : World} {i : Nat} (o : JbV) (h : Below B w W) (hb : B ≤ g) : Below B w ((((W.setCell ⟨g, i * 4, none⟩ (.int .i64 o.player)).setCell ⟨g, i * 4 + 1, none⟩ (.int .i64 o.unit)).setCell ⟨g, i * 4 + 2, none⟩ (.int .i64 o.kind)).setCell ⟨g, i * 4 + 3, none⟩ (.int .i64 o.left)) :=
  (((h.setCell (p := ⟨g, i * 4, none⟩) hb _).setCell (p := ⟨g, i * 4 + 1, none⟩) hb _).setCell (p := ⟨g, i * 4 + 2, none⟩) hb _).setCell (p := ⟨g, i * 4 + 3, none⟩) hb _
theorem jflat_set3 : ∀ (ks : List JbV) (i : Nat) (o : JbV) (a : Int) (rest : List Value), ks[i]? = some o → (ks.set i { o with left := a }).flatMap JbV.cs ++ rest = (ks.flatMap JbV.cs ++ rest).set (i * 4 + 3) (.int .i64 a)
  | [], i, o, a, rest, h => by simp at h
  | k :: ks, 0, o, a, rest, h => by
    simp at h
    subst h
    simp [JbV.cs]
  | k :: ks, i + 1, o, a, rest, h => by
    have ih := jflat_set3 ks i o a rest (by simpa using h)
    rw [show (i + 1) * 4 + 3 = i * 4 + 3 + 4 by omega, List.set_cons_succ, List.flatMap_cons, List.append_assoc, ih, List.flatMap_cons]
    simp [JbV.cs]
theorem Jk.set3 {w : World} {g : Nat} {ks : List JbV} {rest : List Value} (h : Jk w g ks rest) {i : Nat} {o : JbV} (ho : ks[i]? = some o) (a : Int) : Jk (w.setCell ⟨g, i * 4 + 3, none⟩ (.int .i64 a)) g (ks.set i { o with left := a }) rest := by
  unfold Jk at *
  have h0 := heap_setCell_same w g (i * 4 + 3) _ _ (.int .i64 a) h
  rw [h0, jflat_set3 ks i o a rest ho]
  simp
/-- a list of its own, as a block. -/
theorem Jbo.jk {w : World} {base : Nat} {v : Value} {ks : List JbV} (h : Jbo w base v ks) : (v = .slice none 0 0 ∧ ks = []) ∨ ∃ g cap rest, v = .slice (some ⟨g, 0, none⟩) ks.length cap ∧ base ≤ g ∧ ks.length ≤ cap ∧ cap ≤ maxLen ∧ ks.length * 4 + rest.length = cap * 4 ∧ Jk w g ks rest := by
  rcases h.2 with ⟨h1, h2⟩ | ⟨g, cap, cur, h1, h2, h3, h4, h5, h6, h7⟩
  · exact .inl ⟨h1, List.length_eq_zero_iff.1 h2⟩
  · refine .inr ⟨g, cap, cur.toList.drop (ks.length * 4), h1, h2, h4, h5, ?_, ?_⟩
    · have e6 : cur.toList.length = cap * 4 := by simpa using h6
      rw [List.length_drop, e6]
      have : ks.length * 4 ≤ cap * 4 := Nat.mul_le_mul_right _ h4
      omega
    · unfold Jk
      rw [← h7, List.take_append_drop, Array.toArray_toList]
      exact h3
theorem Jk.jbo {w : World} {base g cap : Nat} {ks : List JbV} {rest : List Value} (h : Jk w g ks rest) (hb : base ≤ g) (h1 : ks.length ≤ cap) (h2 : cap ≤ maxLen) (h3 : ks.length * 4 + rest.length = cap * 4) : Jbo w base (.slice (some ⟨g, 0, none⟩) ks.length cap) ks := by
  refine ⟨len_jb ks, .inr ⟨g, cap, _, rfl, hb, h, h1, h2, ?_, ?_⟩⟩
  · simp only [List.size_toArray, List.length_append, len_jb]; omega
  · show (ks.flatMap JbV.cs ++ rest).take (ks.length * 4) = _
    rw [List.take_append_of_le_length (by rw [len_jb]; exact Nat.le_refl _), List.take_of_length_le (by rw [len_jb]; exact Nat.le_refl _)]
/-- the first m of them, and the others behind. -/
theorem Jk.take {w : World} {g : Nat} {ks : List JbV} {rest : List Value} (h : Jk w g ks rest) (m : Nat) : Jk w g (ks.take m) ((ks.drop m).flatMap JbV.cs ++ rest) := by
  unfold Jk at *
  rw [← List.append_assoc, ← List.flatMap_append, List.take_append_drop]
  exact h
end Go.Proofs.Ytagnjmellcibhaa

namespace Go.Proofs.Ytagnjmellcibhaa
open Go.RowKit
set_option linter.unusedVariables false

def FstJ (p : JbV → Bool) (ks : List JbV) (r : Int) : Prop := (r = -1 ∧ ks.any p = false) ∨ ∃ (k : Nat) (x : JbV), r = k ∧ ks[k]? = some x ∧ p x = true ∧ (ks.take k).any p = false
theorem anyj_next {p : JbV → Bool} {ks : List JbV} {k : Nat} {x : JbV} (h : ks[k]? = some x) : (ks.take (k + 1)).any p = ((ks.take k).any p || p x) := by
  obtain ⟨hi, e⟩ := List.getElem?_eq_some_iff.1 h
  rw [List.take_succ_eq_append_getElem hi, List.any_append, e]
  simp

/-- clear of a slice of jobs. -/
theorem run_clear_jbs (w : World) (g m n c : Nat) (ks : List JbV) (rest : List Value) (hg : Jk w g ks rest) (hn : 0 < n) (hm : m + n = ks.length) :
    ∃ w', (∀ ty, (Builtin.clear_ #[27] ty #[.slice (some ⟨g, m * 4, none⟩) n c]).run Try.prog w = .ok (.tuple #[]) w') ∧ Jk w' g (ks.take m ++ List.replicate n (⟨0, 0, 0, 0⟩ : JbV)) rest ∧ Below g w w' ∧ w'.heap.size = w.heap.size ∧ Kp g w w' := by
  have hzv : ∀ w, (zeroValue 64).run Try.prog w = .ok (.agg #[.int .i64 0, .int .i64 0, .int .i64 0, .int .i64 0]) w := fun w => by kernel_rfl
  have hzc : (Builtin.zeroCells (Value.agg #[.int .i64 0, .int .i64 0, .int .i64 0, .int .i64 0]).cells n).toList = (List.replicate n (⟨0, 0, 0, 0⟩ : JbV)).flatMap JbV.cs := by
    have hz8 : (Value.agg #[.int .i64 0, .int .i64 0, .int .i64 0, .int .i64 0]).cells = #[.int .i64 0, .int .i64 0, .int .i64 0, .int .i64 0] := by rfl
    rw [hz8]
    unfold Builtin.zeroCells
    apply List.ext_getElem?
    intro i
    by_cases hi : i < n * 4
    · have e1 : (List.replicate n (⟨0, 0, 0, 0⟩ : JbV))[i / 4]? = some ⟨0, 0, 0, 0⟩ := by
        rw [List.getElem?_replicate, if_pos (by omega)]
      have e2 := flat_jb _ (i / 4) (i % 4) _ e1 (Nat.mod_lt _ (by decide))
      rw [show i / 4 * 4 + i % 4 = i by omega] at e2
      rw [e2]
      have h4 : i % 4 < 4 := Nat.mod_lt _ (by decide)
      simp [JbV.cs, hi]
      generalize i % 4 = r at *
      match r, h4 with
      | 0, _ => rfl
      | 1, _ => rfl
      | 2, _ => rfl
      | 3, _ => rfl
    · rw [List.getElem?_eq_none (by simp; omega), List.getElem?_eq_none (by rw [len_jb, List.length_replicate]; omega)]
  obtain ⟨vs, hvs⟩ : ∃ vs, (List.replicate n (⟨0, 0, 0, 0⟩ : JbV)).flatMap JbV.cs = vs := ⟨_, rfl⟩
  have hvl : vs.length = n * 4 := by rw [← hvs, len_jb, List.length_replicate]
  have h1c : ∀ v ∈ vs, v.oneCell' = true := by
    intro v hv
    rw [← hvs] at hv
    obtain ⟨k, -, hk⟩ := List.mem_flatMap.1 hv
    simp [JbV.cs] at hk
    rcases hk with rfl | rfl | rfl | rfl <;> rfl
  have hst := run_storeCells_at (P := Try.prog) g (m * 4) 64 vs 0 _ w hg (by simp only [List.size_toArray, List.length_append, len_jb, hvl]; omega) h1c
  have hml : (ks.take m).length = m := by rw [List.length_take]; omega
  have hL : (ks.flatMap JbV.cs ++ rest).toArray.toList.take (m * 4 + 0) ++ vs ++ (ks.flatMap JbV.cs ++ rest).toArray.toList.drop (m * 4 + 0 + vs.length) = (ks.take m ++ List.replicate n (⟨0, 0, 0, 0⟩ : JbV)).flatMap JbV.cs ++ rest := by
    have e1 : (ks.flatMap JbV.cs ++ rest).take (m * 4) = (ks.take m).flatMap JbV.cs := by
      conv => lhs; rw [← List.take_append_drop m ks, List.flatMap_append, List.append_assoc]
      rw [List.take_left' (by rw [len_jb, hml])]
    have e2 : (ks.flatMap JbV.cs ++ rest).drop (m * 4 + vs.length) = rest := by
      rw [List.drop_left' (by rw [len_jb, hvl]; omega)]
    show (ks.flatMap JbV.cs ++ rest).take (m * 4) ++ vs ++ (ks.flatMap JbV.cs ++ rest).drop (m * 4 + vs.length) = _
    rw [e1, e2, List.flatMap_append, hvs]
  rw [hL] at hst
  refine ⟨w.setRow g ((ks.take m ++ List.replicate n (⟨0, 0, 0, 0⟩ : JbV)).flatMap JbV.cs ++ rest).toArray, fun ty => ?_, ?_, ?_, ?_, ?_⟩
  · obtain ⟨n', rfl⟩ : ∃ n', n = n' + 1 := ⟨n - 1, by omega⟩
    simp only [hvs] at hzc
    simp [Builtin.clear_, run_underlying Try.underlying27, hzv, hzc, hst]
  · exact setRow_heap w g _ _ _ _ hg
  · exact ⟨rfl, rfl, rfl, by simp, fun k hk => setRow_other _ _ _ _ (by omega)⟩
  · simp
  · exact ⟨rfl, rfl, rfl, by simp, fun k hk hn => setRow_other _ _ _ _ (by omega)⟩
set_option maxHeartbeats 2000000 in
theorem idxj_any (K : Nat) (eK : ∀ args w, (callFunc K args).run Try.prog w = .ok (.enter K args) w) (u : Value) (cs : Array Value) (ks : List JbV) (p : JbV → Bool) (w : World) (hu : Jbl w u ks)
    (hp : ∀ W, Below w.heap.size w W → ∀ k ∈ ks, Calls Try.prog K (#[k.val] ++ cs) W fun e w' => e = .returned (.bool (p k)) ∧ Below W.heap.size W w') :
    Calls Try.prog 44 #[u, .func (Fn.func K) #[] cs] w fun e w' => ∃ r : Int, e = .returned (.int .i64 r) ∧ FstJ p ks r ∧ Below w.heap.size w w' := by
  obtain ⟨a, c, rfl, c1, c2, ca⟩ := hu
  have Ca : Hid (ks ≠ [] → ∃ x, a = some x ∧ x.block < w.heap.size ∧ ∀ (i : Nat) k, ks[i]? = some k → Jbc w (x.add (i * 4)) k) := ca
  have Hp : Hid (∀ W, Below w.heap.size w W → ∀ k ∈ ks, Calls Try.prog K (#[k.val] ++ cs) W fun e w' => e = .returned (.bool (p k)) ∧ Below W.heap.size W w') := hp
  clear ca hp
  go_enter Try.func44, Try.ntmps44
  go_wp2
  go_loopw [8] (fun i W' => ∃ k : Nat, k ≤ ks.length ∧ i = .int .i64 (k : Nat) ∧ (ks.take k).any p = false ∧ Below w.heap.size w W') (fun i _ => ks.length - (intOf i).toNat)
  case atStart => exact ⟨0, Nat.zero_le _, rfl, by simp, Below.refl _ _⟩
  case round =>
    obtain ⟨k, hk, rfl, ht, hb⟩ := hrel
    have Ht : Hid ((ks.take k).any p = false) := ht
    have B : Hid (Below w.heap.size w wr) := hb
    clear ht hb
    by_cases h0 : k = ks.length
    · subst h0
      go_wp2
      go_ret
      refine ⟨_, rfl, .inl ⟨rfl, ?_⟩, B⟩
      have := Ht.out
      rw [List.take_of_length_le (Nat.le_refl _)] at this
      exact this
    · have hkx : k < ks.length := by omega
      obtain ⟨x, rfl, hx1, hx⟩ := Ca.out (by intro h; rw [h] at hkx; simp at hkx)
      obtain ⟨y, hy⟩ : ∃ y, ks[k]? = some y := ⟨_, List.getElem?_eq_getElem hkx⟩
      have Yc := (hx k y hy).below B.out (by rw [add_block]; exact hx1)
      obtain ⟨q0, q1, q2, q3⟩ := Yc
      have hc := Hp.out wr B.out y (List.mem_of_getElem? hy)
      have Hs : Hid _ := anyj_next (p := p) hy
      have Hm : Hid (ks[k]? = some y) := hy
      clear hx hx1 hy
      cases hy : p y with
      | true =>
        rw [hy] at hc
        have Hc : Hid (Calls Try.prog K (#[y.val] ++ cs) wr fun e w' => e = .returned (.bool true) ∧ Below wr.heap.size wr w') := hc
        have Hy : Hid (p y = true) := hy
        clear hc hy
        go_wp2_with fail
        refine Calls.mono Hc.out ?_
        rintro e w1 ⟨rfl, b1⟩
        have B1 : Hid (Below w.heap.size w w1) := B.out.trans (b1.mono B.out.size)
        clear b1
        go_wp2
        go_ret
        exact ⟨_, rfl, .inr ⟨k, y, rfl, Hm, Hy, Ht⟩, B1⟩
      | false =>
        rw [hy] at hc
        have Hc : Hid (Calls Try.prog K (#[y.val] ++ cs) wr fun e w' => e = .returned (.bool false) ∧ Below wr.heap.size wr w') := hc
        have Hy : Hid (p y = false) := hy
        clear hc hy
        go_wp2_with fail
        refine Calls.mono Hc.out ?_
        rintro e w1 ⟨rfl, b1⟩
        have B1 : Hid (Below w.heap.size w w1) := B.out.trans (b1.mono B.out.size)
        clear b1
        go_wp2
        go_round
        case rel => exact ⟨k + 1, by omega, by go_num, by have := Hs.out; rw [Ht.out, Hy.out] at this; exact this, B1⟩
        case measure => simp [intOf]; omega


theorem delj_keep {ks L : List JbV} {p : JbV → Bool} {i j : Nat} {y : JbV} (h : L.take i = (ks.take j).filter (fun k => !p k)) (hd : L.drop j = ks.drop j) (hij : i < j) (hl : L.length = ks.length) (hy : ks[j]? = some y) (hp : p y = false) :
    (L.set i y).take (i + 1) = (ks.take (j + 1)).filter (fun k => !p k) ∧ (L.set i y).drop (j + 1) = ks.drop (j + 1) := by
  have hj : j < ks.length := (List.getElem?_eq_some_iff.1 hy).1
  have hi : i < L.length := by omega
  constructor
  · rw [List.take_succ_eq_append_getElem (by simpa using hi), List.take_set_of_le (Nat.le_refl _), List.getElem_set_self, h]
    have : (ks.take (j + 1)) = ks.take j ++ [y] := by
      rw [List.take_succ_eq_append_getElem hj]
      rw [(List.getElem?_eq_some_iff.1 hy).2]
    rw [this, List.filter_append]
    simp [hp]
  · rw [List.drop_set_of_lt (by omega)]
    have h1 : L.drop (j + 1) = (L.drop j).drop 1 := by rw [List.drop_drop]
    rw [h1, hd, List.drop_drop]
theorem delj_skip {ks L : List JbV} {p : JbV → Bool} {i j : Nat} {y : JbV} (h : L.take i = (ks.take j).filter (fun k => !p k)) (hd : L.drop j = ks.drop j) (hy : ks[j]? = some y) (hp : p y = true) :
    L.take i = (ks.take (j + 1)).filter (fun k => !p k) ∧ L.drop (j + 1) = ks.drop (j + 1) := by
  have hj : j < ks.length := (List.getElem?_eq_some_iff.1 hy).1
  constructor
  · have : (ks.take (j + 1)) = ks.take j ++ [y] := by
      rw [List.take_succ_eq_append_getElem hj]
      rw [(List.getElem?_eq_some_iff.1 hy).2]
    rw [this, List.filter_append, h]
    simp [hp]
  · have h1 : L.drop (j + 1) = (L.drop j).drop 1 := by rw [List.drop_drop]
    rw [h1, hd, List.drop_drop]
theorem delj_start {ks : List JbV} {p : JbV → Bool} {i : Nat} {x : JbV} (hx : ks[i]? = some x) (hp : p x = true) (hn : (ks.take i).any p = false) : ks.take i = (ks.take (i + 1)).filter (fun k => !p k) := by
  have hi : i < ks.length := (List.getElem?_eq_some_iff.1 hx).1
  have : (ks.take (i + 1)) = ks.take i ++ [x] := by
    rw [List.take_succ_eq_append_getElem hi]
    rw [(List.getElem?_eq_some_iff.1 hx).2]
  rw [this, List.filter_append]
  have e : (ks.take i).filter (fun k => !p k) = ks.take i := by
    rw [List.filter_eq_self]
    intro a ha
    have := List.any_eq_false.1 hn a ha
    simpa using this
  rw [e]
  simp [hp]

theorem delj_gb {w w1 w' : World} {g n c : Nat} (h : Below w.heap.size w w1) (k : Kp g w1 w') : w.grownBy w' (Value.slice (some ⟨g, 0, none⟩) n c).ownBlock :=
  ⟨k.os.trans h.os, k.tape.trans h.tape, k.output.trans h.output, Nat.le_trans h.size k.size, fun i hi hr => (k.block i (Nat.lt_of_lt_of_le hi h.size) (fun e => hr (by rw [e]; rfl))).trans (h.block i hi)⟩
theorem jk_kp (wb : World) (g i : Nat) (y : JbV) : Kp g wb ((((wb.setCell ⟨g, i * 4, none⟩ (.int .i64 y.player)).setCell ⟨g, i * 4 + 1, none⟩ (.int .i64 y.unit)).setCell ⟨g, i * 4 + 2, none⟩ (.int .i64 y.kind)).setCell ⟨g, i * 4 + 3, none⟩ (.int .i64 y.left)) :=
  (((Kp.set (z := g) _ _ _).trans (Kp.set _ _ _)).trans (Kp.set _ _ _)).trans (Kp.set _ _ _)
set_option maxRecDepth 100000 in
set_option maxHeartbeats 8000000 in
theorem delj_own (K : Nat) (eK : ∀ args w, (callFunc K args).run Try.prog w = .ok (.enter K args) w) (u : Value) (cs : Array Value) (ks : List JbV) (p : JbV → Bool) (w : World) (base : Nat) (hu : Jbo w base u ks) (hbase : base ≤ w.heap.size) (hl : ks.length ≤ 1000000)
    (hp : ∀ W, Below base w W → w.grownBy W u.ownBlock → ∀ k ∈ ks, Calls Try.prog K (#[k.val] ++ cs) W fun e w' => e = .returned (.bool (p k)) ∧ Below W.heap.size W w') :
    Calls Try.prog 25 #[u, .func (Fn.func K) #[] cs] w fun e w' => ∃ v, e = .returned v ∧ Jbo w' base v (ks.filter (fun k => !p k)) ∧ Below base w w' ∧ w.grownBy w' u.ownBlock ∧ v.ownBlock = u.ownBlock := by
  have H' : Hid (Calls Try.prog 44 #[u, .func (Fn.func K) #[] cs] w fun e w' => ∃ r : Int, e = .returned (.int .i64 r) ∧ FstJ p ks r ∧ Below w.heap.size w w') := idxj_any K eK u cs ks p w hu.l (fun W hW k hk => hp W (hW.mono hbase) ⟨hW.os, hW.tape, hW.output, hW.size, fun k hk _ => hW.block k hk⟩ k hk)
  have Hp : Hid (∀ W, Below base w W → w.grownBy W u.ownBlock → ∀ k ∈ ks, Calls Try.prog K (#[k.val] ++ cs) W fun e w' => e = .returned (.bool (p k)) ∧ Below W.heap.size W w') := hp
  have U : Hid (Jbo w base u ks) := hu
  have HB : Hid (base ≤ w.heap.size ∧ ks.length ≤ 1000000) := ⟨hbase, hl⟩
  clear hp hu hbase
  go_enter Try.func25, Try.ntmps25
  go_wp2_with fail
  refine Calls.mono H'.out ?_
  rintro e w1 ⟨r, rfl, hf, hb⟩
  have B1 : Hid (Below base w w1) := hb.mono HB.out.1
  have U1 : Hid (Jbo w1 base u ks) := U.out.below hb
  have S1 : Hid (w.heap.size ≤ w1.heap.size) := hb.size
  have G1 : Hid (Below w.heap.size w w1) := hb
  clear hb U H'
  rcases hf with ⟨rfl, hno⟩ | ⟨i0, x, rfl, hx, hpx, hnx⟩
  · have NO : Hid (ks.filter (fun k => !p k) = ks) := by
      unfold Hid
      rw [List.filter_eq_self]
      intro a ha
      have := List.any_eq_false.1 hno a ha
      simpa using this
    clear hno
    go_wp2
    go_ret
    exact ⟨u, rfl, by rw [NO.out]; exact U1.out, B1.out, ⟨G1.out.os, G1.out.tape, G1.out.output, G1.out.size, fun k hk _ => G1.out.block k hk⟩, rfl⟩
  have hi0 : i0 < ks.length := (List.getElem?_eq_some_iff.1 hx).1
  rcases U1.out.jk with ⟨rfl, h⟩ | ⟨g, cap, rest, rfl, hbg, hkc, hcm, hcl, hub⟩
  · rw [h] at hi0; simp at hi0
  have ST : Hid (ks.take i0 = (ks.take (i0 + 1)).filter (fun k => !p k)) := delj_start hx hpx hnx
  have GG : Hid (base ≤ g ∧ ks.length ≤ cap ∧ cap ≤ maxLen ∧ ks.length * 4 + rest.length = cap * 4) := ⟨hbg, hkc, hcm, hcl⟩
  have UB : Hid (Jk w1 g ks rest) := hub
  have hcm' : cap ≤ 9223372036854775807 := by unfold maxLen at hcm; omega
  clear hx hpx hnx hbg hcm hcl hub U1
  have hm1 : (((i0 : Nat) : Int) == -1) = false := by rw [beq_eq_false_iff_ne]; omega
  go_wp2
  go_loopw [5, 6] (fun vi vj W => ∃ (i j : Nat) (L : List JbV), vi = .int .i64 (i : Nat) ∧ vj = .int .i64 (j : Nat) ∧ i < j ∧ j ≤ ks.length ∧ L.length = ks.length ∧ L.take i = (ks.take j).filter (fun k => !p k) ∧ L.drop j = ks.drop j ∧ Jk W g L rest ∧ Below base w W ∧ Kp g w1 W) (fun _ vj _ => ks.length - (intOf vj).toNat)
  case atStart => exact ⟨i0, i0 + 1, ks, rfl, by go_num, by omega, by omega, rfl, ST.out, rfl, UB.out, B1.out, Kp.refl _ _⟩
  case round =>
    obtain ⟨i, j, L, rfl, rfl, hij, hjn, hLl, hLt, hLd, hLu, hLb, hLk⟩ := hrel
    have LU : Hid (Jk wr g L rest) := hLu
    have LB : Hid (Below base w wr) := hLb
    have LK : Hid (Kp g w1 wr) := hLk
    clear hLk
    have LL : Hid (L.length = ks.length ∧ L.take i = (ks.take j).filter (fun k => !p k) ∧ L.drop j = ks.drop j) := ⟨hLl, hLt, hLd⟩
    clear hLu hLb hLl hLt hLd UB B1 ST
    by_cases h0 : j = ks.length
    · subst h0
      obtain ⟨wc, hcl, hUc, hBc, hSc, hKc⟩ := run_clear_jbs wr g i (ks.length - i) (cap - i) L rest LU.out (by omega) (by rw [LL.out.1]; omega)
      have UC : Hid (Jk wc g (L.take i) ((List.replicate (ks.length - i) (⟨0, 0, 0, 0⟩ : JbV)).flatMap JbV.cs ++ rest)) := by
        unfold Jk at hUc
        unfold Hid Jk
        rw [← List.append_assoc, ← List.flatMap_append]
        exact hUc
      have BC : Hid (Below base w wc) := LB.out.trans (hBc.mono GG.out.1)
      have KC : Hid (Kp g w1 wc) := LK.out.trans hKc
      have IL : Hid ((L.take i).length = i) := by unfold Hid; rw [List.length_take, LL.out.1]; omega
      clear hUc hBc hSc hKc
      go_wp2
      go_ret
      have h1 := UC.out.jbo (base := base) (cap := cap) GG.out.1 (by rw [IL.out]; have := GG.out.2.1; omega) GG.out.2.2.1 (by
        rw [IL.out, List.length_append, len_jb, List.length_replicate]
        have := GG.out.2.2.2
        omega)
      rw [IL.out] at h1
      refine ⟨_, rfl, ?_, BC.out, delj_gb G1.out KC.out, rfl⟩
      have h2 := LL.out.2.1
      rw [List.take_of_length_le (Nat.le_refl _)] at h2
      rw [← h2]
      exact h1
    · have hjl : j < ks.length := by omega
      have hji : ((j : Nat) : Int) < (ks.length : Nat) := by omega
      obtain ⟨y, hy⟩ : ∃ y, ks[j]? = some y := ⟨_, List.getElem?_eq_getElem hjl⟩
      have hLy : L[j]? = some y := by
        have h1 : (L.drop j)[0]? = (ks.drop j)[0]? := by rw [LL.out.2.2]
        rw [List.getElem?_drop, List.getElem?_drop] at h1
        rw [Nat.add_zero] at h1
        rw [h1]; exact hy
      obtain ⟨q0, q1, q2, q3⟩ := LU.out.jbc hLy
      have HY : Hid (ks[j]? = some y) := hy
      have wi : IntKind.i64.wrap ((i : Nat) + 1 : Int) = ((i : Nat) : Int) + 1 := by rw [IntKind.wrap_i64]; omega
      have wj : IntKind.i64.wrap ((j : Nat) + 1 : Int) = ((j : Nat) : Int) + 1 := by rw [IntKind.wrap_i64]; omega
      clear hLy hy
      go_upto_region 8 with fail
      have BA : Hid (Below wr.heap.size wr (wr.alloc (Obj.cells #[.int .i64 y.player, .int .i64 y.unit, .int .i64 y.kind, .int .i64 y.left] 64))) := (Below.refl _ _).alloc (Nat.le_refl _) _
      have XA : Hid (Jbc (wr.alloc (Obj.cells #[.int .i64 y.player, .int .i64 y.unit, .int .i64 y.kind, .int .i64 y.left] 64)) ⟨wr.heap.size, 0, none⟩ y) := Jbc.mk' y rfl
      generalize (wr.alloc (Obj.cells #[.int .i64 y.player, .int .i64 y.unit, .int .i64 y.kind, .int .i64 y.left] 64)) = wa at *
      have UA : Hid (Jk wa g L rest) := LU.out.below BA.out LU.out.lt
      have AB : Hid (Below base w wa) := LB.out.trans (BA.out.mono (Nat.le_trans HB.out.1 LB.out.size))
      have KA : Hid (Kp g w1 wa) := LK.out.trans (Kp.of BA.out)
      clear LK
      obtain ⟨z, hz⟩ : ∃ z, wr.heap.size = z := ⟨_, rfl⟩
      rw [hz] at XA ⊢
      have ZG : Hid (g < z) := by rw [← hz]; exact LU.out.lt
      clear hz BA LU LB q0 q1 q2 q3
      obtain ⟨q0, q1, q2, q3⟩ := XA.out
      cases hpy : p y with
      | true =>
        have PY : Hid (p y = true) := hpy
        have hc := Hp.out wa AB.out (delj_gb G1.out KA.out) y (List.mem_of_getElem? HY.out)
        rw [hpy] at hc
        have Hc : Hid (Calls Try.prog K (#[y.val] ++ cs) wa fun e w' => e = .returned (.bool true) ∧ Below wa.heap.size wa w') := hc
        clear hc hpy
        go_wp2_with fail
        refine Calls.mono Hc.out ?_
        rintro e wb ⟨rfl, hb⟩
        have UW : Hid (Jk wb g L rest) := UA.out.below hb UA.out.lt
        have WB : Hid (Below base w wb) := AB.out.trans (hb.mono (Nat.le_trans HB.out.1 AB.out.size))
        have KW : Hid (Kp g w1 wb) := KA.out.trans (Kp.of hb)
        clear KA
        clear hb q0 q1 q2 q3 UA AB XA Hc
        go_wp2
        go_round
        case rel => exact ⟨i, j + 1, L, rfl, by go_num, by omega, by omega, LL.out.1, (delj_skip LL.out.2.1 LL.out.2.2 HY.out PY.out).1, (delj_skip LL.out.2.1 LL.out.2.2 HY.out PY.out).2, UW.out, WB.out, KW.out⟩
        case measure => simp [intOf]; omega
      | false =>
        have PY : Hid (p y = false) := hpy
        have hc := Hp.out wa AB.out (delj_gb G1.out KA.out) y (List.mem_of_getElem? HY.out)
        rw [hpy] at hc
        have Hc : Hid (Calls Try.prog K (#[y.val] ++ cs) wa fun e w' => e = .returned (.bool false) ∧ Below wa.heap.size wa w') := hc
        clear hc hpy
        go_wp2_with fail
        refine Calls.mono Hc.out ?_
        rintro e wb ⟨rfl, hb⟩
        have UW : Hid (Jk wb g L rest) := UA.out.below hb UA.out.lt
        have WB : Hid (Below base w wb) := AB.out.trans (hb.mono (Nat.le_trans HB.out.1 AB.out.size))
        have KW : Hid (Kp g w1 wb) := KA.out.trans (Kp.of hb)
        clear KA
        have XB : Hid (Jbc wb ⟨z, 0, none⟩ y) := XA.out.below hb XA.out.lt
        clear hb q0 q1 q2 q3 UA AB XA Hc
        have hil : i < L.length := by rw [LL.out.1]; omega
        obtain ⟨z0, hz0⟩ : ∃ z0, L[i]? = some z0 := ⟨_, List.getElem?_eq_getElem hil⟩
        obtain ⟨q0, q1, q2, q3⟩ := XB.out
        obtain ⟨r0, r1, r2, r3⟩ := UW.out.jbc hz0
        have f0 := UW.out.thaw (i * 4)
        have f1 := UW.out.thaw (i * 4 + 1)
        have f2 := UW.out.thaw (i * 4 + 2)
        have f3 := UW.out.thaw (i * 4 + 3)
        have UP : Hid (Jk ((((wb.setCell ⟨g, i * 4, none⟩ (.int .i64 y.player)).setCell ⟨g, i * 4 + 1, none⟩ (.int .i64 y.unit)).setCell ⟨g, i * 4 + 2, none⟩ (.int .i64 y.kind)).setCell ⟨g, i * 4 + 3, none⟩ (.int .i64 y.left)) g (L.set i y) rest) := UW.out.put hil y
        have BP : Hid (Below base w ((((wb.setCell ⟨g, i * 4, none⟩ (.int .i64 y.player)).setCell ⟨g, i * 4 + 1, none⟩ (.int .i64 y.unit)).setCell ⟨g, i * 4 + 2, none⟩ (.int .i64 y.kind)).setCell ⟨g, i * 4 + 3, none⟩ (.int .i64 y.left))) := jk_below y WB.out GG.out.1
        have KP : Hid (Kp g w1 ((((wb.setCell ⟨g, i * 4, none⟩ (.int .i64 y.player)).setCell ⟨g, i * 4 + 1, none⟩ (.int .i64 y.unit)).setCell ⟨g, i * 4 + 2, none⟩ (.int .i64 y.kind)).setCell ⟨g, i * 4 + 3, none⟩ (.int .i64 y.left))) := KW.out.trans (jk_kp wb g i y)
        have DK := delj_keep LL.out.2.1 LL.out.2.2 hij LL.out.1 HY.out PY.out
        have DH : Hid ((L.set i y).length = ks.length ∧ (L.set i y).take (i + 1) = (ks.take (j + 1)).filter (fun k => !p k) ∧ (L.set i y).drop (j + 1) = ks.drop (j + 1)) := ⟨by rw [List.length_set]; exact LL.out.1, DK.1, DK.2⟩
        clear DK hz0 hil
        go_wp2
        go_round
        case rel => exact ⟨i + 1, j + 1, L.set i y, by go_num, by go_num, by omega, by omega, DH.out.1, DH.out.2.1, DH.out.2.2, UP.out, BP.out, KP.out⟩
        case measure => simp [intOf]; omega
theorem delj_any (K : Nat) (eK : ∀ args w, (callFunc K args).run Try.prog w = .ok (.enter K args) w) (u : Value) (cs : Array Value) (ks : List JbV) (p : JbV → Bool) (w : World) (base : Nat) (hu : Jbo w base u ks) (hbase : base ≤ w.heap.size) (hl : ks.length ≤ 1000000)
    (hp : ∀ W, Below base w W → ∀ k ∈ ks, Calls Try.prog K (#[k.val] ++ cs) W fun e w' => e = .returned (.bool (p k)) ∧ Below W.heap.size W w') :
    Calls Try.prog 25 #[u, .func (Fn.func K) #[] cs] w fun e w' => ∃ v, e = .returned v ∧ Jbo w' base v (ks.filter (fun k => !p k)) ∧ Below base w w' :=
  (delj_own K eK u cs ks p w base hu hbase hl (fun W hW _ => hp W hW)).mono fun e w' h => by
    obtain ⟨v, h1, h2, h3, -⟩ := h
    exact ⟨v, h1, h2, h3⟩
end Go.Proofs.Ytagnjmellcibhaa

