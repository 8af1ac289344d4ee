/- A name's letters, asked rune by rune. Plain mathematics. · The program's kinds: what is a name; what is wrong with one kind, those ahead being right. · The program's kinds: what is wrong with some; the number of a name. · Worlds: what is wrong with what one lies on, and with its numbers. · Worlds: Check. · a unit that is to be put: what is wrong, and what comes of it. · Worlds with which nothing is wrong, unit by unit and job by job; a unit that is put keeps one right. Plain mathematics. · Kinds that are right: their numbers. · A unit that is put keeps a world right, and its cell is taken then. Plain mathematics. · sight.reaches, doesSee and its function. · Lists of bools: what a slice holds; a block of them that may be written; make([]bool, n). · sight.checkPlayer, seen. · What the reference answers of roots, and of how far it is. · How far two cells are, by the reference. · How far two cells are, by the reference, as a number. · What the reference says of lines. · What the reference sees. -/
import Derived.Test.YtkejdkajfnaieaaGreatDoorZFeedReads3
import Derived.Shelf.GgClosure.StringsIndexFunc
import Derived.Test.YtkejdkajfnaieaaGreatDoorZFeedReads5
import Derived.Test.YtkejdkajfnaieaaGreatDoorShelf
import Derived.Test.YtkejdkajfnaieaaGreatDoorZFeedReads4
import Derived.Test.YtkejdkajfnaieaaGreatDoorZFeedReads1
import Derived.Laws.MakeOwn
import Derived.Test.YtkejdkajfnaieaaGreatDoorRows
import Derived.BigQuiet
import Derived.Deep.DeepCutAuto
namespace Go.Proofs.YtkejdkajfnaieaaGreatDoor.Kd
set_option linter.unusedVariables false

/-- a rune that is none of a to z. -/
def otherR (r : Nat) : Bool := decide ((r : Int) < 97) || decide (122 < (r : Int))
theorem other_big {r : Nat} (h : 128 ≤ r) : otherR r = true := by
  unfold otherR
  rw [decide_eq_true (show (122 : Int) < (r : Int) by omega), Bool.or_true]
theorem decode_small (s : ByteArray) (i : Nat) (h : (s.get! i).toNat < 128) : Utf8.decode s i = ((s.get! i).toNat, 1) := by
  unfold Utf8.decode
  simp only [Nat.add_zero]
  rw [if_pos h]
theorem decode_big (s : ByteArray) (i : Nat) (h : ¬ (s.get! i).toNat < 128) : 128 ≤ (Utf8.decode s i).1 := by
  unfold Utf8.decode
  simp only [Nat.add_zero]
  rw [if_neg h]
  simp only [Utf8.runeError]
  split
  · split
    · rename_i h2; exact h2
    · simp
  · split
    · split
      · rename_i h2
        simp only [Bool.and_eq_true, decide_eq_true_eq] at h2
        have := h2.1
        simp only
        omega
      · simp
    · split
      · split
        · rename_i h2
          simp only [Bool.and_eq_true, decide_eq_true_eq] at h2
          have := h2.1
          simp only
          omega
        · simp
      · simp
theorem other_letter (b : UInt8) (h : b.toNat < 128) : otherR b.toNat = !isLetter b := by
  unfold otherR isLetter
  by_cases h1 : 97 ≤ b.toNat
  · by_cases h2 : b.toNat ≤ 122
    · rw [decide_eq_true h1, decide_eq_true h2, decide_eq_false (show ¬ (b.toNat : Int) < 97 by omega), decide_eq_false (show ¬ 122 < (b.toNat : Int) by omega)]; rfl
    · rw [decide_eq_true h1, decide_eq_false h2, decide_eq_false (show ¬ (b.toNat : Int) < 97 by omega), decide_eq_true (show 122 < (b.toNat : Int) by omega)]; rfl
  · rw [decide_eq_false h1, decide_eq_true (show (b.toNat : Int) < 97 by omega)]; rfl
theorem get_at (s : ByteArray) (i : Nat) (h : i < s.size) : s.get! i = s.data.toList[i]'h := by
  show s.data[i]! = _
  rw [getElem!_pos s.data i h]
  simp
theorem other_from (s : ByteArray) : ∀ (f pos : Nat), s.size ≤ pos + f → decide (0 ≤ Lib.idxFuncFrom otherR true s f pos) = !((s.data.toList.drop pos).all isLetter)
  | 0, pos, h => by
    rw [List.drop_eq_nil_of_le (by show s.size ≤ pos; omega)]
    rfl
  | f + 1, pos, h => by
    unfold Lib.idxFuncFrom
    by_cases hp : pos < s.size
    · have hl : pos < s.data.toList.length := hp
      rw [if_pos hp, List.drop_eq_getElem_cons hl, List.all_cons, ← get_at s pos hp]
      by_cases hb : (s.get! pos).toNat < 128
      · rw [decode_small s pos hb]
        simp only
        rw [other_letter _ hb]
        cases hi : isLetter (s.get! pos) with
        | true =>
          rw [if_neg (by simp), Bool.true_and]
          exact other_from s f (pos + 1) (by omega)
        | false =>
          rw [if_pos (by simp), decide_eq_true (by omega)]
          simp
      · rw [if_pos (other_big (decode_big s pos hb)), decide_eq_true (by omega)]
        have : isLetter (s.get! pos) = false := by
          unfold isLetter
          rw [decide_eq_false (show ¬ (s.get! pos).toNat ≤ 122 by omega), Bool.and_false]
        rw [this]
        rfl
    · rw [if_neg hp, List.drop_eq_nil_of_le (by show s.size ≤ pos; omega)]
      rfl
theorem other_name (s : ByteArray) : decide (0 ≤ Lib.idxFunc otherR true s) = !(s.data.toList.all isLetter) := by
  have := other_from s s.size 0 (by omega)
  rw [List.drop_zero] at this
  exact this
end Go.Proofs.YtkejdkajfnaieaaGreatDoor.Kd

namespace Go.Proofs.YtkejdkajfnaieaaGreatDoor
open Go.RowKit
set_option linter.unusedVariables false

theorem ename1 : ∀ args w, (callFunc 234 args).run Tryz.prog w = .ok (.enter 234 args) w := by
  intro args w
  go_simp
set_option maxHeartbeats 400000 in
theorem other_any (x : Nat) (w : World) :
    Calls Tryz.prog 234 #[.int .i32 (x : Int)] w fun e w' => e = .returned (.bool (Kd.otherR x)) ∧ w' = w := by
  unfold Kd.otherR
  by_cases h1 : (x : Int) < 97
  · go_enter Tryz.func234, Tryz.ntmps234
    go_wp2
    go_ret
    exact ⟨by first | (simp; done) | (simp; omega), rfl⟩
  · by_cases h2 : 122 < (x : Int)
    · go_enter Tryz.func234, Tryz.ntmps234
      go_wp2
      go_ret
      exact ⟨by first | (simp; done) | (simp; omega), rfl⟩
    · go_enter Tryz.func234, Tryz.ntmps234
      go_wp2
      go_ret
      exact ⟨by first | (simp; done) | (simp; omega), rfl⟩
theorem letters_any (s : ByteArray) (w : World) :
    Calls Tryz.prog 236 #[.string s, .func (.func 234) #[] #[]] w fun e w' => e = .returned (.bool (!(s.data.toList.all Kd.isLetter))) ∧ Below w.heap.size w w' := by
  have h := Tryz.strings_ContainsFunc_grows 234 #[] ename1 Kd.otherR s w (fun W x _ _ => (other_any x W).mono fun e w' ⟨h1, h2⟩ => ⟨h1, by rw [h2]; exact Below.refl _ _⟩)
  rw [Kd.other_name s] at h
  exact h

set_option maxHeartbeats 1000000 in
theorem isName_any (s : ByteArray) (w : World) (hb : s.size ≤ 9223372036854775807) :
    Calls Tryz.prog 217 #[.string s] w fun e w' => e = .returned (.bool (Kd.nameOk s.data.toList)) ∧ Below w.heap.size w w' := by
  have L : Hid (∀ w : World, Calls Tryz.prog 236 #[.string s, .func (.func 234) #[] #[]] w fun e w' => e = .returned (.bool (!(s.data.toList.all Kd.isLetter))) ∧ Below w.heap.size w w') := fun w => letters_any s w
  obtain ⟨l, hl⟩ : ∃ l, s.data.toList = l := ⟨_, rfl⟩
  have Ll : Hid (l.length = s.size) := by unfold Hid; rw [← hl]; rfl
  rw [hl] at L ⊢
  clear hl
  by_cases h1 : 1 ≤ s.size ∧ s.size ≤ 8
  · obtain ⟨h2, h3⟩ := h1
    have E : Hid (Kd.nameOk l = l.all Kd.isLetter) := by
      unfold Hid Kd.nameOk
      rw [decide_eq_true (show l.length ≤ 8 by rw [Ll.out]; exact h3), Bool.true_and]
      cases l with
      | nil => have := Ll.out; simp at this; omega
      | cons a r => rfl
    generalize l.all Kd.isLetter = b at *
    rw [E.out]
    clear E
    go_enter Tryz.func217, Tryz.ntmps217
    go_wp2_with (go_at_call 235; refine (kwin_yes _ _ _ _ (by omega) (by omega)).mono ?_; rintro e w' ⟨rfl, hw⟩; obtain rfl := hw.symm)
    refine (L.out _).mono ?_
    rintro e w1 ⟨rfl, b1⟩
    have B1 : Hid (Below w.heap.size w w1) := b1
    clear b1
    go_wp2
    go_ret
    exact ⟨by simp, B1⟩
  · have E : Hid (Kd.nameOk l = false) := by
      unfold Hid Kd.nameOk
      cases l with
      | nil => rfl
      | cons a r =>
        rw [decide_eq_false (show ¬ (a :: r).length ≤ 8 by intro h; have := Ll.out; simp at this h; omega)]
        simp
    rw [E.out]
    go_enter Tryz.func217, Tryz.ntmps217
    go_wp2_with (go_at_call 235; refine (kwin_no _ _ _ _ (by omega)).mono ?_; rintro e w' ⟨rfl, rfl⟩)
    go_ret
    exact ⟨rfl, Below.refl _ _⟩
theorem FstK.none {p : KV → Bool} {ks : List KV} {r : Int} (h : FstK p ks r) : (0 ≤ r ∧ ks.any p = true) ∨ (r = -1 ∧ ks.any p = false) := by
  rcases h with h | ⟨k, x, rfl, h1, h2, _⟩
  · exact .inr h
  · exact .inl ⟨by omega, List.any_eq_true.2 ⟨x, List.mem_of_getElem? h1, h2⟩⟩

set_option maxHeartbeats 2000000 in
theorem ckind_any (v : Value) (ks : List KV) (k : KV) (w : World) (h : Kl w v ks) (hb : k.b.size ≤ 9223372036854775807) :
    Calls Tryz.prog 181 #[v, k.val] w fun e w' => ∃ u, e = .returned u ∧ Er u (Kd.kindFault (ks.map KV.k) k.k) ∧ Below w.heap.size w w' := by
  have K0 : Hid (Kl w v ks) := h
  obtain ⟨a, c, rfl, c1, c2, -⟩ := h
  have NM := isName_any k.b
  have IB := inb_any k
  have KF : Hid (Kd.kindFault (ks.map KV.k) k.k = if Kd.nameOk k.b.data.toList then (if (ks.any fun a => a.k.name == k.b.data.toList) then 8 else Kd.numsFault k.ns) else 2) := by
    unfold Hid Kd.kindFault
    rw [List.any_map]
    rfl
  obtain ⟨R, hR⟩ : ∃ R, Kd.kindFault (ks.map KV.k) k.k = R := ⟨_, rfl⟩
  rw [hR] at KF ⊢
  clear hR
  obtain ⟨kb, n0, n1, n2, n3, n4, n5, n6, n7, kf, kt⟩ := k
  simp only at hb NM KF
  unfold KV.val at IB ⊢
  simp only at IB ⊢
  have NM' : Hid (∀ w : World, kb.size ≤ 9223372036854775807 → Calls Tryz.prog 217 #[.string kb] w fun e w' => e = .returned (.bool (Kd.nameOk kb.data.toList)) ∧ Below w.heap.size w w') := NM
  obtain ⟨F, hF⟩ : ∃ F, Kd.numsFault (KV.ns ⟨kb, n0, n1, n2, n3, n4, n5, n6, n7, kf, kt⟩) = F := ⟨_, rfl⟩
  rw [hF] at IB KF
  have IB' : Hid (∀ w : World, Calls Tryz.prog 219 #[.agg #[.string kb, .int .i64 n0, .int .i64 n1, .int .i64 n2, .int .i64 n3, .int .i64 n4, .int .i64 n5, .int .i64 n6, .int .i64 n7, .bool kf, .bool kt]] w fun e w' => e = .returned (.bool (decide (F = 0))) ∧ Below w.heap.size w w') := IB
  have HF : Hid (F = 0 ∨ F = 1) := by
    unfold Hid
    rw [← hF]
    unfold Kd.numsFault
    split
    · exact .inr rfl
    · split
      · exact .inr rfl
      · exact .inl rfl
  clear NM IB hF
  go_enter Tryz.func181, Tryz.ntmps181
  have B1 : Hid (Below w.heap.size w (w.alloc (Obj.cells #[.string kb, .int .i64 n0, .int .i64 n1, .int .i64 n2, .int .i64 n3, .int .i64 n4, .int .i64 n5, .int .i64 n6, .int .i64 n7, .bool kf, .bool kt] 101))) := (Below.refl _ _).alloc (Nat.le_refl _) _
  have X1 : Hid (Kc (w.alloc (Obj.cells #[.string kb, .int .i64 n0, .int .i64 n1, .int .i64 n2, .int .i64 n3, .int .i64 n4, .int .i64 n5, .int .i64 n6, .int .i64 n7, .bool kf, .bool kt] 101)) ⟨w.heap.size, 0, none⟩ ⟨kb, n0, n1, n2, n3, n4, n5, n6, n7, kf, kt⟩) := Kc.mk' ⟨kb, n0, n1, n2, n3, n4, n5, n6, n7, kf, kt⟩ rfl
  go_wp2_with fail
  generalize w.alloc (Obj.cells #[.string kb, .int .i64 n0, .int .i64 n1, .int .i64 n2, .int .i64 n3, .int .i64 n4, .int .i64 n5, .int .i64 n6, .int .i64 n7, .bool kf, .bool kt] 101) = w1 at *
  refine (NM'.out _ hb).mono ?_
  rintro e w2 ⟨rfl, b2⟩
  have B2 : Hid (Below w.heap.size w w2) := B1.out.trans (b2.mono B1.out.size)
  have X2 : Hid (Kc w2 ⟨w.heap.size, 0, none⟩ ⟨kb, n0, n1, n2, n3, n4, n5, n6, n7, kf, kt⟩) := X1.out.below b2 X1.out.lt
  clear b2 X1 NM'
  cases hn : Kd.nameOk kb.data.toList with
  | false =>
    have E : Hid (R = 2) := by unfold Hid; rw [KF.out, hn]; rfl
    clear hn
    go_wp2
    go_ret
    exact ⟨_, rfl, by rw [E.out]; exact Er.no (by decide), B2⟩
  | true =>
    have KF2 : Hid (R = if (ks.any fun a => a.k.name == kb.data.toList) then 8 else F) := by unfold Hid; rw [KF.out, hn]; rfl
    clear hn KF
    have x0 : w2.cell? ⟨w.heap.size, 0, none⟩ = some (.string kb) := X2.out.c0
    go_wp2_with fail
    refine (find_any _ ks kb _ (K0.out.below B2.out)).mono ?_
    rintro e w3 ⟨r, rfl, hr, b3⟩
    have B3 : Hid (Below w.heap.size w w3) := B2.out.trans (b3.mono B2.out.size)
    have X3 : Hid (Kc w3 ⟨w.heap.size, 0, none⟩ ⟨kb, n0, n1, n2, n3, n4, n5, n6, n7, kf, kt⟩) := X2.out.below b3 X2.out.lt
    clear b3 X2 x0
    rcases hr.none with ⟨h0, ha⟩ | ⟨h0, ha⟩
    · have E : Hid (R = 8) := by unfold Hid; rw [KF2.out, if_pos ha]
      clear ha hr
      go_wp2
      go_ret
      exact ⟨_, rfl, by rw [E.out]; exact Er.no (by decide), B3⟩
    · have E : Hid (R = F) := by unfold Hid; rw [KF2.out, if_neg (by rw [ha]; decide)]
      clear ha hr
      subst h0
      obtain ⟨x0, x1, x2, x3, x4, x5, x6, x7, x8, x9, x10⟩ := X3.out
      have x1 : w3.cell? ⟨w.heap.size, 1, none⟩ = some (.int .i64 n0) := x1
      have x2 : w3.cell? ⟨w.heap.size, 2, none⟩ = some (.int .i64 n1) := x2
      have x3 : w3.cell? ⟨w.heap.size, 3, none⟩ = some (.int .i64 n2) := x3
      have x4 : w3.cell? ⟨w.heap.size, 4, none⟩ = some (.int .i64 n3) := x4
      have x5 : w3.cell? ⟨w.heap.size, 5, none⟩ = some (.int .i64 n4) := x5
      have x6 : w3.cell? ⟨w.heap.size, 6, none⟩ = some (.int .i64 n5) := x6
      have x7 : w3.cell? ⟨w.heap.size, 7, none⟩ = some (.int .i64 n6) := x7
      have x8 : w3.cell? ⟨w.heap.size, 8, none⟩ = some (.int .i64 n7) := x8
      have x9 : w3.cell? ⟨w.heap.size, 9, none⟩ = some (.bool kf) := x9
      have x10 : w3.cell? ⟨w.heap.size, 10, none⟩ = some (.bool kt) := x10
      go_wp2_with fail
      refine (IB'.out _).mono ?_
      rintro e w4 ⟨rfl, b4⟩
      have B4 : Hid (Below w.heap.size w w4) := B3.out.trans (b4.mono B3.out.size)
      clear b4 IB' x0 x1 x2 x3 x4 x5 x6 x7 x8 x9 x10
      rcases HF.out with hF | hF
      · rw [hF]
        have E2 : Hid (R = 0) := by unfold Hid; rw [E.out, hF]
        go_wp2
        go_ret
        exact ⟨_, rfl, by rw [E2.out]; exact Er.nil, B4⟩
      · rw [hF]
        have E2 : Hid (R = 1) := by unfold Hid; rw [E.out, hF]
        go_wp2
        go_ret
        exact ⟨_, rfl, by rw [E2.out]; exact Er.no (by decide), B4⟩
end Go.Proofs.YtkejdkajfnaieaaGreatDoor

namespace Go.Proofs.YtkejdkajfnaieaaGreatDoor
open Go.RowKit
set_option linter.unusedVariables false

theorem Kl.take {w : World} {a : Option Addr} {n c : Nat} {ks : List KV} (h : Kl w (.slice a n c) ks) {q : Nat} (hq : q ≤ ks.length) : Kl w (.slice a q c) (ks.take q) := by
  obtain ⟨a', c', e, h1, h2, h3⟩ := h
  injection e with e1 e2 e3
  subst e1 e3
  have hl : (ks.take q).length = q := by rw [List.length_take]; omega
  refine ⟨a, c, by rw [hl], by rw [hl]; omega, h2, fun hn => ?_⟩
  obtain ⟨x, hx, hb, hk⟩ := h3 (by rintro rfl; simp at hn)
  refine ⟨x, hx, hb, fun i k hi => hk i k ?_⟩
  rw [List.getElem?_take] at hi
  split at hi
  · exact hi
  · cases hi
theorem kgo_at {ks : List KV} {i : Nat} {k : KV} (h : ks[i]? = some k) : Kd.kindsGo ((ks.take i).map KV.k) ((ks.drop i).map KV.k) = if Kd.kindFault ((ks.take i).map KV.k) k.k = 0 then Kd.kindsGo ((ks.take (i + 1)).map KV.k) ((ks.drop (i + 1)).map KV.k) else Kd.kindFault ((ks.take i).map KV.k) k.k := by
  obtain ⟨hi, e⟩ := List.getElem?_eq_some_iff.1 h
  rw [List.drop_eq_getElem_cons hi, e, List.map_cons, Kd.kindsGo, List.take_succ_eq_append_getElem hi, e, List.map_append]
  rfl

set_option maxHeartbeats 4000000 in
theorem kcheck_any (v : Value) (ks : List KV) (w : World) (h : Kl w v ks) (hb : ∀ k ∈ ks, k.b.size ≤ 9223372036854775807) :
    Calls Tryz.prog 146 #[v] w fun e w' => ∃ u, e = .returned u ∧ Er u (Kd.kindsFault (ks.map KV.k)) ∧ Below w.heap.size w w' := by
  have K0 : Hid (Kl w v ks) := h
  have Hb : Hid (∀ k ∈ ks, k.b.size ≤ 9223372036854775807) := hb
  obtain ⟨R, hR⟩ : ∃ R, Kd.kindsFault (ks.map KV.k) = R := ⟨_, rfl⟩
  have HR : Hid (Kd.kindsFault (ks.map KV.k) = R) := hR
  rw [hR]
  clear hR hb
  obtain ⟨a, c, rfl, c1, c2, -⟩ := h
  by_cases h8 : 8 < ks.length
  · have E : Hid (R = 4) := by unfold Hid; rw [← HR.out]; unfold Kd.kindsFault; rw [if_pos (by simpa using h8)]
    have h8' : (8 : Int) < (ks.length : Int) := by omega
    go_enter Tryz.func146, Tryz.ntmps146
    go_wp2
    go_ret
    exact ⟨_, rfl, by rw [E.out]; exact Er.no (by decide), Below.refl _ _⟩
  · have h8' : ¬ (8 : Int) < (ks.length : Int) := by omega
    have R1 : Hid (Kd.kindsGo [] (ks.map KV.k) = R) := by unfold Hid; rw [← HR.out]; unfold Kd.kindsFault; rw [if_neg (by simpa using h8)]
    go_enter Tryz.func146, Tryz.ntmps146
    go_wp2_with fail
    go_loopw [12] (fun j W' => ∃ q : Nat, q ≤ ks.length ∧ j = .int .i64 (q : Nat) ∧ Kd.kindsGo ((ks.take q).map KV.k) ((ks.drop q).map KV.k) = R ∧ Below w.heap.size w W') (fun j _ => ks.length - (intOf j).toNat)
    case atStart => exact ⟨0, Nat.zero_le _, rfl, R1, Below.refl _ _⟩
    case round =>
      obtain ⟨q, hq, rfl, hg, hb⟩ := hrel
      have Gq : Hid (Kd.kindsGo ((ks.take q).map KV.k) ((ks.drop q).map KV.k) = R) := hg
      have B : Hid (Below w.heap.size w wr) := hb
      clear hg hb
      by_cases hql : q = ks.length
      · have E : Hid (R = 0) := by
          unfold Hid
          rw [← Gq.out, hql, List.drop_of_length_le (Nat.le_refl _)]
          rfl
        subst hql
        go_wp2
        go_ret
        exact ⟨_, rfl, by rw [E.out]; exact Er.nil, B⟩
      · have hqk : q < ks.length := by omega
        obtain ⟨k, hk⟩ : ∃ k, ks[q]? = some k := ⟨_, List.getElem?_eq_getElem hqk⟩
        have At : Hid (R = if Kd.kindFault ((ks.take q).map KV.k) k.k = 0 then Kd.kindsGo ((ks.take (q + 1)).map KV.k) ((ks.drop (q + 1)).map KV.k) else Kd.kindFault ((ks.take q).map KV.k) k.k) := by
          unfold Hid
          rw [← kgo_at hk]
          exact Gq.out.symm
        have K1 := K0.out.below B.out
        have CK : Hid (∀ W : World, Below wr.heap.size wr W → Calls Tryz.prog 181 #[.slice a q c, k.val] W fun e w' => ∃ u, e = .returned u ∧ Er u (Kd.kindFault ((ks.take q).map KV.k) k.k) ∧ Below W.heap.size W w') :=
          fun W hW => ckind_any _ (ks.take q) k W ((K1.take hq).below hW) (Hb.out k (List.mem_of_getElem? hk))
        generalize Kd.kindFault ((ks.take q).map KV.k) k.k = F at *
        obtain ⟨a', c', e, -, -, h3⟩ := K1
        injection e with e1 e2 e3
        subst e1 e3
        obtain ⟨x, rfl, hx1, hx⟩ := h3 (by rintro rfl; simp at hqk)
        have Yc := hx q k hk
        clear hx h3 e2 hk
        obtain ⟨kb, n0, n1, n2, n3, n4, n5, n6, n7, kf, kt⟩ := k
        obtain ⟨q0, q1, q2, q3, q4, q5, q6, q7, q8, q9, q10⟩ := Yc
        simp only at q0 q1 q2 q3 q4 q5 q6 q7 q8 q9 q10
        unfold KV.val at CK
        simp only at CK
        go_upto_region 6 with fail
        have B1 : Hid (Below wr.heap.size wr (wr.alloc (Obj.cells #[.string kb, .int .i64 n0, .int .i64 n1, .int .i64 n2, .int .i64 n3, .int .i64 n4, .int .i64 n5, .int .i64 n6, .int .i64 n7, .bool kf, .bool kt] 101))) := (Below.refl _ _).alloc (Nat.le_refl _) _
        have X1 := Kc.mk' (w := wr) ⟨kb, n0, n1, n2, n3, n4, n5, n6, n7, kf, kt⟩ rfl
        simp only at X1
        clear q0 q1 q2 q3 q4 q5 q6 q7 q8 q9 q10
        generalize wr.alloc (Obj.cells #[.string kb, .int .i64 n0, .int .i64 n1, .int .i64 n2, .int .i64 n3, .int .i64 n4, .int .i64 n5, .int .i64 n6, .int .i64 n7, .bool kf, .bool kt] 101) = w1 at *
        obtain ⟨x0, x1, x2, x3, x4, x5, x6, x7, x8, x9, x10⟩ := X1
        simp only at x0 x1 x2 x3 x4 x5 x6 x7 x8 x9 x10
        go_region_with (go_at_call 181; refine Calls.mono (CK.out _ B1.out.drew) ?_; rintro e w2 ⟨u, rfl, hu, b2⟩; have Hu : Hid (Er u F) := hu; have B2 : Hid (Below wr.heap.size wr w2) := B1.out.drew.trans (b2.mono B1.out.drew.size); clear hu b2)
        all_goals
          have B3 : Hid (Below w.heap.size w w2) := B.out.trans (B2.out.mono B.out.size)
          clear B2 CK x0 x1 x2 x3 x4 x5 x6 x7 x8 x9 x10
          rcases Hu.out with ⟨hF, rfl⟩ | ⟨hF, rfl⟩
          · have G2 : Hid (Kd.kindsGo ((ks.take (q + 1)).map KV.k) ((ks.drop (q + 1)).map KV.k) = R) := by
              unfold Hid
              have := At.out
              rw [if_pos hF] at this
              exact this.symm
            clear At
            go_wp2
            go_round
            case rel => exact ⟨q + 1, by omega, by go_num, G2, B3⟩
            case measure => simp [intOf]; omega
          · have E : Hid (R = F) := by
              unfold Hid
              have := At.out
              rw [if_neg hF] at this
              exact this
            have Hf : Hid (F ≠ 0) := hF
            clear At
            go_wp2
            go_ret
            exact ⟨_, rfl, by rw [E.out]; exact Er.no Hf.out, B3⟩

end Go.Proofs.YtkejdkajfnaieaaGreatDoor

namespace Go.Proofs.YtkejdkajfnaieaaGreatDoor
open Go.RowKit
set_option linter.unusedVariables false

set_option maxHeartbeats 1000000 in
theorem ground_any (v f : Value) (ks : List KV) (W : WV) (w : World) (h : Kl w v ks) (hb : ∀ k ∈ ks, k.b.size ≤ 9223372036854775807) (hf : Fl w f W.wide W.high W.gs W.os) :
    Calls Tryz.prog 104 #[v, f] w fun e w' => ∃ u, e = .returned u ∧ Er u (Wd.ground ks W) ∧ Below w.heap.size w w' := by
  have K : Hid (Kl w v ks ∧ ∀ k ∈ ks, k.b.size ≤ 9223372036854775807) := ⟨h, hb⟩
  have F : Hid (Fl w f W.wide W.high W.gs W.os) := hf
  obtain ⟨u1, u2, rfl, h1, h2⟩ := hf
  clear h hb h1 h2
  go_enter Tryz.func104, Tryz.ntmps104
  go_wp2_with fail
  have B0 : Hid (Below w.heap.size w (w.alloc (Obj.cells #[.int .i64 W.wide, .int .i64 W.high, u1, u2] 25))) := (Below.refl _ _).alloc (Nat.le_refl _) _
  have X0 : Hid (Bf (w.alloc (Obj.cells #[.int .i64 W.wide, .int .i64 W.high, u1, u2] 25)) w.heap.size W.wide W.high u1 u2) := Bf.mk' W.wide W.high u1 u2 rfl
  generalize w.alloc (Obj.cells #[.int .i64 W.wide, .int .i64 W.high, u1, u2] 25) = w0 at *
  refine (kcheck_any _ ks w0 (K.out.1.below B0.out) K.out.2).mono ?_
  rintro e w1 ⟨r, rfl, hr, hb1⟩
  have B1 : Hid (Below w.heap.size w w1) := B0.out.trans (hb1.mono B0.out.size)
  have X1 : Hid (Bf w1 w.heap.size W.wide W.high u1 u2) := X0.out.below hb1 X0.out.lt
  clear hb1 X0
  rcases hr with ⟨hz, rfl⟩ | ⟨hz, rfl⟩
  · have G : Hid (Wd.ground ks W = Fd.fault W.wide W.high W.gs W.os) := by unfold Hid Wd.ground; rw [if_pos hz]
    obtain ⟨c0, c1, c2, c3⟩ := X1.out
    clear hz
    go_wp2_with fail
    refine (check_any _ W.wide W.high W.gs W.os w1 (F.out.below B1.out)).mono ?_
    rintro e w2 ⟨r, rfl, hr, hb2⟩
    have R : Hid (Er r (Wd.ground ks W) ∧ Below w.heap.size w w2) := ⟨by rw [G.out]; exact hr, B1.out.trans (hb2.mono B1.out.size)⟩
    clear hr hb2 c0 c1 c2 c3
    go_wp2
    go_ret
    exact ⟨_, rfl, R.out.1, R.out.2⟩
  · have G : Hid (Er (.iface 97 (.int .i64 (Kd.kindsFault (ks.map KV.k)))) (Wd.ground ks W)) := by
      unfold Hid Wd.ground; rw [if_neg hz]; exact Er.no hz
    clear hz
    go_wp2
    go_ret
    exact ⟨_, rfl, G.out, B1.out⟩
/-- what is wrong with the numbers. -/
def numsF (W : WV) : Int := if Wd.numsBad W = true then 1 else 0
theorem off_any (n : Int) (w : World) : Calls Tryz.prog 152 #[.int .i64 n] w fun e w' => e = .returned (.bool (Wd.off 0 n)) ∧ w' = w := by
  go_enter Tryz.func152, Tryz.ntmps152
  go_wp2_with fail
  refine (wwithin_any n 0 1000000 w).mono ?_
  rintro e w1 ⟨rfl, rfl⟩
  obtain ⟨b, hb⟩ : ∃ b, decide (0 ≤ n ∧ n ≤ 1000000) = b := ⟨_, rfl⟩
  have HB : Hid (Wd.off 0 n = !b) := by unfold Hid Wd.off; rw [hb]
  rw [hb]
  clear hb
  go_wp2
  go_ret
  exact ⟨by rw [HB.out]; rfl, rfl⟩
set_option maxRecDepth 100000 in
set_option maxHeartbeats 2000000 in
theorem numbad_any (v : Value) (W : WV) (w : World) (h : Wl w v W) :
    Calls Tryz.prog 107 #[v] w fun e w' => ∃ u, e = .returned u ∧ Er u (numsF W) ∧ Below w.heap.size w w' := by
  obtain ⟨u1, u2, u3, u4, u5, rfl, -, -, h3, -, -⟩ := h
  have R3 : Hid (Ro w u3 W.gold) := h3
  obtain ⟨a, c, rfl, c1, c2, -⟩ := h3
  go_enter Tryz.func107, Tryz.ntmps107
  go_upto_region 2 with fail
  have B0 : Hid (Below w.heap.size w (w.alloc (Obj.cells #[.int .i64 W.turn, .int .i64 W.next, .int .i64 W.wide, .int .i64 W.high, u1, u2, .slice a W.gold.length c, u4, u5] 29))) := (Below.refl _ _).alloc (Nat.le_refl _) _
  have X0 : Hid (Bw (w.alloc (Obj.cells #[.int .i64 W.turn, .int .i64 W.next, .int .i64 W.wide, .int .i64 W.high, u1, u2, .slice a W.gold.length c, u4, u5] 29)) w.heap.size W u1 u2 (.slice a W.gold.length c) u4 u5) := Bw.mk' W _ _ _ _ _ rfl
  generalize w.alloc (Obj.cells #[.int .i64 W.turn, .int .i64 W.next, .int .i64 W.wide, .int .i64 W.high, u1, u2, .slice a W.gold.length c, u4, u5] 29) = w0 at *
  obtain ⟨x0, x1, -, -, -, -, x6, -, -⟩ := X0.out
  obtain ⟨t, ht⟩ : ∃ t, decide (0 ≤ W.turn ∧ W.turn ≤ 1000000) = t := ⟨_, rfl⟩
  obtain ⟨n, hn⟩ : ∃ n, decide (1 ≤ W.next ∧ W.next ≤ 1000000) = n := ⟨_, rfl⟩
  obtain ⟨g, hg⟩ : ∃ g, decide (1 ≤ (W.gold.length : Int) ∧ (W.gold.length : Int) ≤ 4) = g := ⟨_, rfl⟩
  obtain ⟨m, hm⟩ : ∃ m, W.gold.any (Wd.off 0) = m := ⟨_, rfl⟩
  have HN : Hid (Wd.numsBad W = (!t || (!n || (!g || m)))) := by unfold Hid Wd.numsBad Wd.off; rw [ht, hn, hg]; unfold Wd.off at hm; rw [hm]
  go_wp2_with fail
  refine (wwithin_any W.turn 0 1000000 w0).mono ?_
  rintro e y1 ⟨rfl, hww⟩
  obtain rfl := hww.symm
  rw [ht]
  cases t with
  | false =>
    go_wp2
    go_ret
    have EB : Wd.numsBad W = true := by rw [HN.out]; rfl
    exact ⟨_, rfl, by unfold numsF; rw [EB]; exact Er.no (by decide), B0.out⟩
  | true =>
    go_wp2_with fail
    refine (wwithin_any W.next 1 1000000 _).mono ?_
    rintro e y2 ⟨rfl, hww⟩
    obtain rfl := hww.symm
    rw [hn]
    cases n with
    | false =>
      go_wp2
      go_ret
      have EB : Wd.numsBad W = true := by rw [HN.out]; rfl
      exact ⟨_, rfl, by unfold numsF; rw [EB]; exact Er.no (by decide), B0.out⟩
    | true =>
      go_wp2_with fail
      refine (wwithin_any (W.gold.length : Int) 1 4 _).mono ?_
      rintro e y3 ⟨rfl, hww⟩
      obtain rfl := hww.symm
      rw [hg]
      cases g with
      | false =>
        go_wp2
        go_ret
        have EB : Wd.numsBad W = true := by rw [HN.out]; rfl
        exact ⟨_, rfl, by unfold numsF; rw [EB]; exact Er.no (by decide), B0.out⟩
      | true =>
        go_wp2_with fail
        refine (hasf_any 152 (by intro args w; go_simp) _ #[] W.gold (Wd.off 0) _ (R3.out.below B0.out) (fun q x _ => (off_any x _).mono fun e w' ⟨h1, h2⟩ => ⟨h1, q, h2⟩)).mono ?_
        rintro e y4 ⟨rfl, q, hq⟩
        have BQ : Hid (Below w.heap.size w y4) := by rw [hq]; exact B0.out.trans ⟨rfl, rfl, rfl, Nat.le_refl _, fun _ _ => rfl⟩
        clear hq
        rw [hm]
        cases m with
        | false =>
          go_wp2
          go_ret
          have EB : Wd.numsBad W = false := by rw [HN.out]; rfl
          exact ⟨_, rfl, by unfold numsF; rw [EB]; exact Er.nil, BQ.out⟩
        | true =>
          go_wp2
          go_ret
          have EB : Wd.numsBad W = true := by rw [HN.out]; rfl
          exact ⟨_, rfl, by unfold numsF; rw [EB]; exact Er.no (by decide), BQ.out⟩
end Go.Proofs.YtkejdkajfnaieaaGreatDoor

namespace Go.Proofs.YtkejdkajfnaieaaGreatDoor
open Go.RowKit
set_option linter.unusedVariables false

theorem units_all {ks : List KV} {W : WV} : ∀ (l : List UnV) (i : Nat), Wd.unitsGo ks W i l = 0 → ∀ u ∈ l, ∃ j, Wd.unitFault ks W j u = 0
  | [], _, _, u, hu => by cases hu
  | x :: l, i, h, u, hu => by
    unfold Wd.unitsGo at h
    split at h
    · rename_i h0
      rcases List.mem_cons.1 hu with rfl | hu
      · exact ⟨i, h0⟩
      · exact units_all l (i + 1) h u hu
    · rename_i h0
      exact absurd h h0
theorem fault_kind {ks : List KV} {W : WV} {j : Nat} {u : UnV} (h : Wd.unitFault ks W j u = 0) : 0 ≤ u.kind ∧ u.kind < (ks.length : Int) := by
  have : Wd.has ks.length u.kind = true := by
    cases hh : Wd.has ks.length u.kind with
    | true => rfl
    | false =>
      unfold Wd.unitFault at h
      rw [hh] at h
      split at h
      · cases h
      · split at h
        · cases h
        · rw [if_pos (by simp)] at h
          cases h
  exact of_decide_eq_true this
theorem kinds_len {ks : List KV} (h : Kd.kindsFault (ks.map KV.k) = 0) : ks.length ≤ 8 := by
  unfold Kd.kindsFault at h
  split at h
  · cases h
  · rename_i h8
    rw [List.length_map] at h8
    omega
theorem nums_ok {W : WV} (h : Wd.numsBad W = false) : Wd.off 1 W.next = false ∧ W.gold.length ≤ 4 := by
  unfold Wd.numsBad at h
  simp only [Bool.or_eq_false_iff] at h
  obtain ⟨-, h1, h2, -⟩ := h
  refine ⟨h1, ?_⟩
  have : decide (1 ≤ (W.gold.length : Int) ∧ (W.gold.length : Int) ≤ 4) = true := by
    cases hh : decide (1 ≤ (W.gold.length : Int) ∧ (W.gold.length : Int) ≤ 4) with
    | true => rfl
    | false => rw [hh] at h2; cases h2
  have := of_decide_eq_true this
  omega
set_option maxRecDepth 100000 in
set_option maxHeartbeats 16000000 in
theorem wcheck_any (vk vw : Value) (ks : List KV) (W : WV) (w : World) (hk : Kl w vk ks) (hb : ∀ k ∈ ks, k.b.size ≤ 9223372036854775807) (hw : Wl w vw W) :
    Calls Tryz.prog 47 #[vk, vw] w fun e w' => ∃ r, e = .returned r ∧ Er r (Wd.wfault ks W) ∧ Below w.heap.size w w' := by
  have K : Hid (Kl w vk ks ∧ ∀ k ∈ ks, k.b.size ≤ 9223372036854775807) := ⟨hk, hb⟩
  have H : Hid (Wl w vw W) := hw
  obtain ⟨u1, u2, u3, u4, u5, rfl, r1, r2, r3, r4, r5⟩ := hw
  obtain ⟨p1, q1, rfl, -⟩ := r1
  obtain ⟨p2, q2, rfl, -⟩ := r2
  obtain ⟨p3, q3, rfl, -⟩ := r3
  obtain ⟨p4, q4, rfl, -⟩ := r4
  obtain ⟨p5, q5, rfl, k51, k52, k53⟩ := r5
  have JC : Hid (W.qs ≠ [] → ∃ x, p5 = some x ∧ x.block < w.heap.size ∧ ∀ (i : Nat) k, W.qs[i]? = some k → Jbc w (x.add (i * 4)) k) := k53
  clear hk hb k53
  go_enter Tryz.func47, Tryz.ntmps47
  go_wp2_with fail
  have B0 : Hid (Below w.heap.size w (w.alloc (Obj.cells #[.int .i64 W.turn, .int .i64 W.next, .int .i64 W.wide, .int .i64 W.high, .slice p1 W.gs.length q1, .slice p2 W.os.length q2, .slice p3 W.gold.length q3, .slice p4 W.us.length q4, .slice p5 W.qs.length q5] 29))) := (Below.refl _ _).alloc (Nat.le_refl _) _
  have X0 : Hid (Bw (w.alloc (Obj.cells #[.int .i64 W.turn, .int .i64 W.next, .int .i64 W.wide, .int .i64 W.high, .slice p1 W.gs.length q1, .slice p2 W.os.length q2, .slice p3 W.gold.length q3, .slice p4 W.us.length q4, .slice p5 W.qs.length q5] 29)) w.heap.size W (.slice p1 W.gs.length q1) (.slice p2 W.os.length q2) (.slice p3 W.gold.length q3) (.slice p4 W.us.length q4) (.slice p5 W.qs.length q5)) := Bw.mk' W _ _ _ _ _ rfl
  generalize (w.alloc (Obj.cells #[.int .i64 W.turn, .int .i64 W.next, .int .i64 W.wide, .int .i64 W.high, .slice p1 W.gs.length q1, .slice p2 W.os.length q2, .slice p3 W.gold.length q3, .slice p4 W.us.length q4, .slice p5 W.qs.length q5] 29)) = w0 at *
  refine (ground_any _ _ ks W w0 (K.out.1.below B0.out) K.out.2 ⟨_, _, rfl, (H.out.below B0.out).slices.1, (H.out.below B0.out).slices.2.1⟩).mono ?_
  rintro e w1 ⟨r, rfl, hr, hb1⟩
  have B1 : Hid (Below w.heap.size w w1) := B0.out.trans (hb1.mono B0.out.size)
  have X1 : Hid (Bw w1 w.heap.size W (.slice p1 W.gs.length q1) (.slice p2 W.os.length q2) (.slice p3 W.gold.length q3) (.slice p4 W.us.length q4) (.slice p5 W.qs.length q5)) := X0.out.below hb1 X0.out.lt
  clear hb1 X0 B0
  rcases hr with ⟨hz, rfl⟩ | ⟨hz, rfl⟩
  · have HZ : Hid (Wd.ground ks W = 0) := hz
    obtain ⟨x0, x1, x2, x3, x4, x5, x6, x7, x8⟩ := X1.out
    clear hz
    go_wp2_with fail
    refine (numbad_any _ W w1 (H.out.below B1.out)).mono ?_
    rintro e w2 ⟨r, rfl, hr, hb2⟩
    have B2 : Hid (Below w.heap.size w w2) := B1.out.trans (hb2.mono B1.out.size)
    have X2 : Hid (Bw w2 w.heap.size W (.slice p1 W.gs.length q1) (.slice p2 W.os.length q2) (.slice p3 W.gold.length q3) (.slice p4 W.us.length q4) (.slice p5 W.qs.length q5)) := X1.out.below hb2 X1.out.lt
    clear hb2 X1 B1 x0 x1 x2 x3 x4 x5 x6 x7 x8
    rcases hr with ⟨hn, rfl⟩ | ⟨hn, rfl⟩
    · have HN : Hid (Wd.numsBad W = false) := by
        unfold Hid
        unfold numsF at hn
        cases h : Wd.numsBad W with
        | false => rfl
        | true => rw [h] at hn; cases hn
      clear hn
      have x7 := X2.out.c7
      by_cases h40 : 40 < W.us.length
      · have F4 : Hid (Wd.wfault ks W = 4) := by unfold Hid Wd.wfault; rw [if_neg (by rw [HZ.out]; simp), HN.out, if_neg (by simp), if_pos h40]
        have h40i : (40 : Int) < (W.us.length : Int) := by omega
        go_wp2
        go_ret
        exact ⟨_, rfl, by rw [F4.out]; exact Er.no (by decide), B2.out⟩
      · have h40i : ¬ (40 : Int) < (W.us.length : Int) := by omega
        have KL : Hid (ks.length ≤ 8) := by
          have := HZ.out
          unfold Wd.ground at this
          split at this
          · rename_i h0
            exact kinds_len h0
          · rename_i h0
            exact absurd this h0
        have GD : Hid (∃ Wn Hn : Nat, W.wide = Wn ∧ W.high = Hn ∧ Fd.Good Wn Hn W.gs W.os) := by
          have := HZ.out
          unfold Wd.ground at this
          split at this
          · exact Fd.fault_zero this
          · rename_i h0
            exact absurd this h0
        obtain ⟨Wn, Hn, hWn, hHn, hG⟩ := GD.out
        have GG : Hid (W.wide = Wn ∧ W.high = Hn ∧ Fd.Good Wn Hn W.gs W.os) := ⟨hWn, hHn, hG⟩
        have US : Hid (W.us.length ≤ 40) := by unfold Hid; omega
        have WF : Hid (Wd.unitsGo ks W 0 W.us ≠ 0 → Wd.wfault ks W = Wd.unitsGo ks W 0 W.us) := fun hne => by unfold Wd.wfault; rw [if_neg (by rw [HZ.out]; simp), HN.out, if_neg (by simp), if_neg h40, if_pos hne]
        have WG : Hid (Wd.unitsGo ks W 0 W.us = 0 → Wd.wfault ks W = if 12 < W.qs.length then 4 else Wd.jobsGo ks W W.qs) := fun h0 => by unfold Wd.wfault; rw [if_neg (by rw [HZ.out]; simp), HN.out, if_neg (by simp), if_neg h40, if_neg (by rw [h0]; simp)]
        clear hWn hHn hG h40
        go_wp2
        clear x7
        go_loopw [32] (fun iv V => ∃ i : Nat, i ≤ W.us.length ∧ iv = .int .i64 (i : Nat) ∧ Wd.unitsGo ks W i (W.us.drop i) = Wd.unitsGo ks W 0 W.us ∧ Bw V w.heap.size W (.slice p1 W.gs.length q1) (.slice p2 W.os.length q2) (.slice p3 W.gold.length q3) (.slice p4 W.us.length q4) (.slice p5 W.qs.length q5) ∧ Below w.heap.size w V) (fun iv _ => W.us.length - (intOf iv).toNat)
        case atStart => exact ⟨0, Nat.zero_le _, rfl, rfl, X2.out, B2.out⟩
        case round =>
          obtain ⟨i, hi, rfl, hgo, hX, hB⟩ := hrel
          have XR : Hid (Bw wr w.heap.size W (.slice p1 W.gs.length q1) (.slice p2 W.os.length q2) (.slice p3 W.gold.length q3) (.slice p4 W.us.length q4) (.slice p5 W.qs.length q5)) := hX
          have BR : Hid (Below w.heap.size w wr) := hB
          have GO : Hid (Wd.unitsGo ks W i (W.us.drop i) = Wd.unitsGo ks W 0 W.us) := hgo
          clear hX hB hgo X2 B2
          by_cases hil : i = W.us.length
          · have U0 : Hid (Wd.unitsGo ks W 0 W.us = 0) := by unfold Hid; rw [← GO.out, hil, List.drop_length]; rfl
            have x8 := XR.out.c8
            subst hil
            clear hi
            by_cases h12 : 12 < W.qs.length
            · have F4 : Hid (Wd.wfault ks W = 4) := by unfold Hid; rw [WG.out U0.out, if_pos h12]
              have h12i : (12 : Int) < (W.qs.length : Int) := by omega
              go_wp2
              go_ret
              exact ⟨_, rfl, by rw [F4.out]; exact Er.no (by decide), BR.out⟩
            · have h12i : ¬ (12 : Int) < (W.qs.length : Int) := by omega
              have FJ : Hid (Wd.wfault ks W = Wd.jobsGo ks W W.qs) := by unfold Hid; rw [WG.out U0.out, if_neg h12]
              have ALL : Hid (∀ u ∈ W.us, 0 ≤ u.kind ∧ u.kind < (ks.length : Int)) := fun u hu => by
                obtain ⟨j, hj⟩ := units_all W.us 0 U0.out u hu
                exact fault_kind hj
              go_wp2
              clear x8
              go_loopw [51] (fun iv V => ∃ i : Nat, i ≤ W.qs.length ∧ iv = .int .i64 (i : Nat) ∧ Wd.jobsGo ks W (W.qs.drop i) = Wd.jobsGo ks W W.qs ∧ Bw V w.heap.size W (.slice p1 W.gs.length q1) (.slice p2 W.os.length q2) (.slice p3 W.gold.length q3) (.slice p4 W.us.length q4) (.slice p5 W.qs.length q5) ∧ Below w.heap.size w V) (fun iv _ => W.qs.length - (intOf iv).toNat)
              case atStart => exact ⟨0, Nat.zero_le _, rfl, rfl, XR.out, BR.out⟩
              case round =>
                obtain ⟨i, hi, rfl, hgo, hX, hB⟩ := hrel
                have XR : Hid (Bw wr w.heap.size W (.slice p1 W.gs.length q1) (.slice p2 W.os.length q2) (.slice p3 W.gold.length q3) (.slice p4 W.us.length q4) (.slice p5 W.qs.length q5)) := hX
                have BR : Hid (Below w.heap.size w wr) := hB
                have GO : Hid (Wd.jobsGo ks W (W.qs.drop i) = Wd.jobsGo ks W W.qs) := hgo
                clear hX hB hgo
                by_cases hil : i = W.qs.length
                · have J0 : Hid (Wd.wfault ks W = 0) := by unfold Hid; rw [FJ.out, ← GO.out, hil, List.drop_length]; rfl
                  subst hil
                  clear hi
                  go_wp2
                  go_ret
                  exact ⟨_, rfl, by rw [J0.out]; exact Er.nil, BR.out⟩
                · have hlt : i < W.qs.length := by omega
                  have hli : (i : Int) < (W.qs.length : Int) := by omega
                  obtain ⟨j, hj⟩ : ∃ j, W.qs[i]? = some j := ⟨_, List.getElem?_eq_getElem hlt⟩
                  obtain ⟨x, rfl, hx, hcell⟩ := JC.out (by intro e; rw [e] at hlt; simp at hlt)
                  obtain ⟨d0, d1, d2, d3⟩ := (hcell i j hj).below BR.out (by rw [add_block]; exact hx)
                  have GA : Hid (Wd.jobsGo ks W W.qs = if Wd.jobFault ks W j = 0 then Wd.jobsGo ks W (W.qs.drop (i + 1)) else Wd.jobFault ks W j) := by unfold Hid; rw [← GO.out, Wd.jobsGo_at hj]
                  obtain ⟨x0, x1, x2, x3, x4, x5, x6, x7, x8⟩ := XR.out
                  clear hcell hx hj hil
                  go_upto_region 21 with fail
                  have BA : Hid (Below wr.heap.size wr (wr.alloc (Obj.cells #[.int .i64 j.player, .int .i64 j.unit, .int .i64 j.kind, .int .i64 j.left] 104))) := (Below.refl _ _).alloc (Nat.le_refl _) _
                  have J1 : Hid (Jbc (wr.alloc (Obj.cells #[.int .i64 j.player, .int .i64 j.unit, .int .i64 j.kind, .int .i64 j.left] 104)) ⟨wr.heap.size, 0, none⟩ j) := Jbc.mk' j rfl
                  generalize (wr.alloc (Obj.cells #[.int .i64 j.player, .int .i64 j.unit, .int .i64 j.kind, .int .i64 j.left] 104)) = w5 at *
                  have B5 : Hid (Below w.heap.size w w5) := BR.out.trans (BA.out.mono BR.out.size)
                  have X5 : Hid (Bw w5 w.heap.size W (.slice p1 W.gs.length q1) (.slice p2 W.os.length q2) (.slice p3 W.gold.length q3) (.slice p4 W.us.length q4) (.slice (some x) W.qs.length q5)) := XR.out.below BA.out XR.out.lt
                  clear d0 d1 d2 d3 x0 x1 x2 x3 x4 x5 x6 x7 x8 XR BR BA
                  obtain ⟨x0, x1, x2, x3, x4, x5, x6, x7, x8⟩ := X5.out
                  obtain ⟨j0, j1, j2, j3⟩ := J1.out
                  generalize wr.heap.size = zj at *
                  simp only [Nat.zero_add] at j1 j2 j3
                  go_wp2_with fail
                  refine (job_any _ _ ks W j w5 (K.out.1.below B5.out) (H.out.below B5.out) US.out KL.out ALL.out).mono ?_
                  rintro e w6 ⟨r, rfl, hr, hb6⟩
                  have B6 : Hid (Below w.heap.size w w6) := B5.out.trans (hb6.mono B5.out.size)
                  have X6 : Hid (Bw w6 w.heap.size W (.slice p1 W.gs.length q1) (.slice p2 W.os.length q2) (.slice p3 W.gold.length q3) (.slice p4 W.us.length q4) (.slice (some x) W.qs.length q5)) := X5.out.below hb6 X5.out.lt
                  clear hb6 x0 x1 x2 x3 x4 x5 x6 x7 x8 j0 j1 j2 j3 X5 B5 J1
                  rcases hr with ⟨h0, rfl⟩ | ⟨h0, rfl⟩
                  · have G2 : Hid (Wd.jobsGo ks W (W.qs.drop (i + 1)) = Wd.jobsGo ks W W.qs) := by unfold Hid; rw [GA.out, if_pos h0]
                    clear h0
                    go_wp2
                    go_roundw
                    case rel => exact ⟨i + 1, by omega, rfl, G2.out, X6.out, B6.out⟩
                    case measure => simp [intOf]; omega
                  · have FB : Hid (Wd.wfault ks W = Wd.jobFault ks W j) := by unfold Hid; rw [FJ.out, GA.out, if_neg h0]
                    have H0 : Hid (Wd.jobFault ks W j ≠ 0) := h0
                    clear h0
                    go_wp2
                    go_ret
                    exact ⟨_, rfl, by rw [FB.out]; exact Er.no H0.out, B6.out⟩
          · have hlt : i < W.us.length := by omega
            have hli : (i : Int) < (W.us.length : Int) := by omega
            obtain ⟨u, hu⟩ : ∃ u, W.us[i]? = some u := ⟨_, List.getElem?_eq_getElem hlt⟩
            have HU : Hid (W.us[i]? = some u) := hu
            have GA : Hid (Wd.unitsGo ks W 0 W.us = if Wd.unitFault ks W i u = 0 then Wd.unitsGo ks W (i + 1) (W.us.drop (i + 1)) else Wd.unitFault ks W i u) := by unfold Hid; rw [← GO.out, Wd.unitsGo_at hu]
            obtain ⟨x0, x1, x2, x3, x4, x5, x6, x7, x8⟩ := XR.out
            clear hu hil
            go_wp2_with fail
            refine (unit_any _ _ ks W Wn Hn i u wr (K.out.1.below BR.out) (H.out.below BR.out) GG.out.1 GG.out.2.1 GG.out.2.2 HU.out (nums_ok HN.out).1 US.out KL.out (nums_ok HN.out).2).mono ?_
            rintro e w6 ⟨r, rfl, hr, hb6⟩
            have B6 : Hid (Below w.heap.size w w6) := BR.out.trans (hb6.mono BR.out.size)
            have X6 : Hid (Bw w6 w.heap.size W (.slice p1 W.gs.length q1) (.slice p2 W.os.length q2) (.slice p3 W.gold.length q3) (.slice p4 W.us.length q4) (.slice p5 W.qs.length q5)) := XR.out.below hb6 XR.out.lt
            clear hb6 x0 x1 x2 x3 x4 x5 x6 x7 x8 XR BR
            rcases hr with ⟨h0, rfl⟩ | ⟨h0, rfl⟩
            · have G2 : Hid (Wd.unitsGo ks W (i + 1) (W.us.drop (i + 1)) = Wd.unitsGo ks W 0 W.us) := by unfold Hid; rw [GA.out, if_pos h0]
              clear h0
              go_wp2
              go_roundw
              case rel => exact ⟨i + 1, by omega, rfl, G2.out, X6.out, B6.out⟩
              case measure => simp [intOf]; omega
            · have EU : Wd.unitsGo ks W 0 W.us = Wd.unitFault ks W i u := by rw [GA.out, if_neg h0]
              have FB : Hid (Wd.wfault ks W = Wd.unitFault ks W i u) := by unfold Hid; rw [WF.out (by rw [EU]; exact h0), EU]
              have H0 : Hid (Wd.unitFault ks W i u ≠ 0) := h0
              clear h0 EU
              go_wp2
              go_ret
              exact ⟨_, rfl, by rw [FB.out]; exact Er.no H0.out, B6.out⟩
    · have F1 : Hid (Wd.wfault ks W = numsF W) := by
        unfold Hid Wd.wfault
        unfold numsF at hn ⊢
        have hbad : Wd.numsBad W = true := by
          cases h : Wd.numsBad W with
          | true => rfl
          | false => rw [h] at hn; exact absurd rfl hn
        rw [if_neg (by rw [HZ.out]; simp), hbad]
        rfl
      have H0 : Hid (numsF W ≠ 0) := hn
      clear hn
      go_wp2
      go_ret
      exact ⟨_, rfl, by rw [F1.out]; exact Er.no H0.out, B2.out⟩
  · have F1 : Hid (Wd.wfault ks W = Wd.ground ks W) := by unfold Hid Wd.wfault; rw [if_pos hz]
    have H0 : Hid (Wd.ground ks W ≠ 0) := hz
    clear hz
    go_wp2
    go_ret
    exact ⟨_, rfl, by rw [F1.out]; exact Er.no H0.out, B1.out⟩
end Go.Proofs.YtkejdkajfnaieaaGreatDoor

namespace Go.Proofs.YtkejdkajfnaieaaGreatDoor
open Go.RowKit
set_option linter.unusedVariables false

namespace Wd
/-- what is wrong with a unit that is to be put. -/
def placeFault (ks : List KV) (W : WV) (pl kd at_ : Int) : Int :=
  if 40 ≤ (W.us.length : Int) ∨ 1000000 ≤ W.next then 4
  else if ¬ (0 ≤ pl ∧ pl < (W.gold.length : Int)) ∨ ¬ (0 ≤ kd ∧ kd < (ks.length : Int)) then 1
  else if ¬ (0 ≤ at_ ∧ at_ < (W.gs.length : Int)) then 6
  else match ks[kd.toNat]? with
    | some k => if open_ W.gs W.us at_ k.f = false then 7 else 0
    | none => 1
theorem pf4 {ks : List KV} {W : WV} {pl kd at_ : Int} (h : 40 ≤ (W.us.length : Int) ∨ 1000000 ≤ W.next) : placeFault ks W pl kd at_ = 4 := by unfold placeFault; rw [if_pos h]
theorem pf1 {ks : List KV} {W : WV} {pl kd at_ : Int} (h : ¬ (40 ≤ (W.us.length : Int) ∨ 1000000 ≤ W.next)) (h1 : ¬ (0 ≤ pl ∧ pl < (W.gold.length : Int)) ∨ ¬ (0 ≤ kd ∧ kd < (ks.length : Int))) : placeFault ks W pl kd at_ = 1 := by unfold placeFault; rw [if_neg h, if_pos h1]
theorem pf6 {ks : List KV} {W : WV} {pl kd at_ : Int} (h : ¬ (40 ≤ (W.us.length : Int) ∨ 1000000 ≤ W.next)) (h1 : 0 ≤ pl ∧ pl < (W.gold.length : Int)) (h2 : 0 ≤ kd ∧ kd < (ks.length : Int)) (h3 : ¬ (0 ≤ at_ ∧ at_ < (W.gs.length : Int))) : placeFault ks W pl kd at_ = 6 := by unfold placeFault; rw [if_neg h, if_neg (by omega), if_pos h3]
theorem pfk {ks : List KV} {W : WV} {pl kd at_ : Int} {k : KV} (h : ¬ (40 ≤ (W.us.length : Int) ∨ 1000000 ≤ W.next)) (h1 : 0 ≤ pl ∧ pl < (W.gold.length : Int)) (h2 : 0 ≤ kd ∧ kd < (ks.length : Int)) (h3 : 0 ≤ at_ ∧ at_ < (W.gs.length : Int)) (hk : ks[kd.toNat]? = some k) : placeFault ks W pl kd at_ = if open_ W.gs W.us at_ k.f = false then 7 else 0 := by unfold placeFault; rw [if_neg h, if_neg (by omega), if_neg (by omega), hk]
end Wd
structure WRight (ks : List KV) (W : WV) : Prop where
  kinds : Kd.kindsFault (ks.map KV.k) = 0
  good : ∃ Wn Hn : Nat, W.wide = Wn ∧ W.high = Hn ∧ Fd.Good Wn Hn W.gs W.os
  nums : Wd.numsBad W = false
  ul : W.us.length ≤ 40
  units : Wd.unitsGo ks W 0 W.us = 0
  ql : W.qs.length ≤ 12
  jobs : Wd.jobsGo ks W W.qs = 0
theorem wright_of {ks : List KV} {W : WV} (h : Wd.wfault ks W = 0) : WRight ks W := by
  unfold Wd.wfault at h
  by_cases h0 : Wd.ground ks W = 0
  · rw [if_neg (by rw [h0]; simp)] at h
    cases h1 : Wd.numsBad W with
    | true => rw [h1, if_pos rfl] at h; cases h
    | false =>
      rw [h1, if_neg (by simp)] at h
      by_cases h2 : 40 < W.us.length
      · rw [if_pos h2] at h; cases h
      · rw [if_neg h2] at h
        by_cases h3 : Wd.unitsGo ks W 0 W.us = 0
        · rw [if_neg (by rw [h3]; simp)] at h
          by_cases h4 : 12 < W.qs.length
          · rw [if_pos h4] at h; cases h
          · rw [if_neg h4] at h
            unfold Wd.ground at h0
            by_cases h5 : Kd.kindsFault (ks.map KV.k) = 0
            · rw [if_pos h5] at h0
              exact ⟨h5, Fd.fault_zero h0, h1, by omega, h3, by omega, h⟩
            · rw [if_neg h5] at h0; exact absurd h0 h5
        · rw [if_pos h3] at h; exact absurd h h3
  · rw [if_pos h0] at h; exact absurd h h0
theorem WRight.len {ks : List KV} {W : WV} (h : WRight ks W) : WLen W := by
  obtain ⟨Wn, Hn, -, -, G⟩ := h.good
  have h1 := G.pos
  have h2 := G.gl
  have h3 := G.ol
  have h4 := (nums_ok h.nums).2
  have h5 := h.ul
  have h6 := h.ql
  exact ⟨by omega, by omega, by omega, by omega, by omega⟩
namespace Wd
/-- what is told where a unit is put. -/
def putFault (ks : List KV) (W : WV) (pl kd at_ : Int) : Int := if wfault ks W = 0 then placeFault ks W pl kd at_ else wfault ks W
def newUnit (ks : List KV) (W : WV) (pl kd at_ : Int) : UnV := ⟨W.next, pl, kd, at_, (match ks[kd.toNat]? with | some k => k.n0 | none => 0), 0, 0, 0⟩
/-- the world behind it. -/
def put (ks : List KV) (W : WV) (pl kd at_ : Int) : WV := { W with next := W.next + 1, us := W.us ++ [newUnit ks W pl kd at_] }
def placed (ks : List KV) (W : WV) (pl kd at_ : Int) : WV := if putFault ks W pl kd at_ = 0 then put ks W pl kd at_ else WV.zero
end Wd
theorem placed_bad {ks : List KV} {W : WV} {pl kd at_ : Int} (h : Wd.putFault ks W pl kd at_ ≠ 0) : Wd.placed ks W pl kd at_ = WV.zero := by unfold Wd.placed; rw [if_neg h]
theorem placed_ok {ks : List KV} {W : WV} {pl kd at_ : Int} (h : Wd.putFault ks W pl kd at_ = 0) : Wd.placed ks W pl kd at_ = Wd.put ks W pl kd at_ := by unfold Wd.placed; rw [if_pos h]
theorem zero_wo (w : World) (base : Nat) : Wo w base (.agg #[.int .i64 0, .int .i64 0, .int .i64 0, .int .i64 0, .slice none 0 0, .slice none 0 0, .slice none 0 0, .slice none 0 0, .slice none 0 0]) WV.zero := ⟨_, _, _, _, _, rfl, Ow.nil _ _, Ow.nil _ _, Ow.nil _ _, Uno.nil _ _, Jbo.nil _ _⟩
theorem pf_zero {ks : List KV} {W : WV} {pl kd at_ : Int} (h : Wd.placeFault ks W pl kd at_ = 0) : ¬ (40 ≤ (W.us.length : Int) ∨ 1000000 ≤ W.next) ∧ (0 ≤ pl ∧ pl < (W.gold.length : Int)) ∧ (0 ≤ at_ ∧ at_ < (W.gs.length : Int)) ∧ ∃ kn k, kd = ((kn : Nat) : Int) ∧ kn < ks.length ∧ ks[kn]? = some k ∧ Wd.open_ W.gs W.us at_ k.f = true := by
  unfold Wd.placeFault at h
  split at h
  · cases h
  · rename_i h1
    split at h
    · cases h
    · rename_i h2
      split at h
      · cases h
      · rename_i h3
        split at h
        · rename_i k hk
          split at h
          · cases h
          · rename_i h4
            have hl := (List.getElem?_eq_some_iff.1 hk).1
            exact ⟨h1, by omega, by omega, kd.toNat, k, by omega, hl, hk, by simpa using h4⟩
        · cases h
end Go.Proofs.YtkejdkajfnaieaaGreatDoor

namespace Go.Proofs.YtkejdkajfnaieaaGreatDoor
set_option linter.unusedVariables false
namespace Wd

theorem unitsGo_zero {ks : List KV} {W : WV} : ∀ (l : List UnV) (i : Nat), unitsGo ks W i l = 0 ↔ ∀ (j : Nat) (u : UnV), l[j]? = some u → unitFault ks W (i + j) u = 0
  | [], i => by
    constructor
    · intro _ j u h; simp at h
    · intro _; rfl
  | x :: l, i => by
    unfold unitsGo
    constructor
    · intro h
      split at h
      · rename_i h0
        intro j u hj
        cases j with
        | zero => simp at hj; subst hj; exact h0
        | succ j =>
          have := (unitsGo_zero l (i + 1)).1 h j u (by simpa using hj)
          rwa [show i + 1 + j = i + (j + 1) by omega] at this
      · rename_i h0; exact absurd h h0
    · intro h
      rw [if_pos (show unitFault ks W i x = 0 from h 0 x rfl)]
      refine (unitsGo_zero l (i + 1)).2 fun j u hj => ?_
      have := h (j + 1) u (by simpa using hj)
      rwa [show i + (j + 1) = i + 1 + j by omega] at this
theorem jobsGo_zero {ks : List KV} {W : WV} : ∀ (l : List JbV), jobsGo ks W l = 0 ↔ ∀ j ∈ l, jobFault ks W j = 0
  | [] => by
    constructor
    · intro _ j h; cases h
    · intro _; rfl
  | x :: l => by
    unfold jobsGo
    constructor
    · intro h
      split at h
      · rename_i h0
        intro j hj
        rcases List.mem_cons.1 hj with rfl | hj
        · exact h0
        · exact (jobsGo_zero l).1 h j hj
      · rename_i h0; exact absurd h h0
    · intro h
      rw [if_pos (h x (List.mem_cons_self ..))]
      exact (jobsGo_zero l).2 fun j hj => h j (List.mem_cons_of_mem _ hj)
theorem nor1 {a : Bool} (h : ¬ (!a) = true) : a = true := by cases a <;> simp_all
theorem nor2 {a b : Bool} (h : ¬ (!a || !b) = true) : a = true ∧ b = true := by cases a <;> cases b <;> simp_all
theorem nor3 {a b c : Bool} (h : ¬ (!a || (!b || !c)) = true) : a = true ∧ b = true ∧ c = true := by cases a <;> cases b <;> cases c <;> simp_all
theorem nor6 {a b : Bool} (h : ¬ (!a || b) = true) : a = true ∧ b = false := by cases a <;> cases b <;> simp_all
/-- nothing is wrong with a unit. -/
structure UFine (ks : List KV) (W : WV) (i : Nat) (u : UnV) (k : KV) : Prop where
  id1 : 1 ≤ u.id
  id2 : u.id ≤ W.next - 1
  up : notAbove W.us i u = false
  p : 0 ≤ u.player ∧ u.player < (W.gold.length : Int)
  k0 : 0 ≤ u.kind ∧ u.kind < (ks.length : Int)
  kk : ks[u.kind.toNat]? = some k
  life : 1 ≤ u.life ∧ u.life ≤ k.n0
  load : 0 ≤ u.load ∧ u.load ≤ k.n7
  task : 0 ≤ u.task ∧ u.task ≤ 2
  at_ : 0 ≤ u.at_ ∧ u.at_ < (W.gs.length : Int)
  goal : 0 ≤ u.goal ∧ u.goal < (W.gs.length : Int)
  opn : open_ W.gs (W.us.take i) u.at_ k.f = true
  rest : u.goal = 0 ∨ u.task ≠ 0
theorem unit_fine {ks : List KV} {W : WV} {i : Nat} {u : UnV} : unitFault ks W i u = 0 ↔ ∃ k, UFine ks W i u k := by
  constructor
  · intro h
    unfold unitFault at h
    split at h
    · cases h
    rename_i h1
    split at h
    · cases h
    rename_i h2
    split at h
    · cases h
    rename_i h3
    split at h
    · cases h
    rename_i k hk
    unfold kindPart at h
    split at h
    · cases h
    rename_i h4
    split at h
    · cases h
    rename_i h5
    split at h
    · cases h
    rename_i h6
    have g1 := of_decide_eq_true (nor1 h1)
    have g3 := nor2 h3
    have g4 := nor3 h4
    have g5 := nor2 h5
    have g6 := nor6 h6
    refine ⟨k, ⟨g1.1, g1.2, by simpa using h2, of_decide_eq_true g3.1, of_decide_eq_true g3.2, hk, of_decide_eq_true g4.1, of_decide_eq_true g4.2.1, of_decide_eq_true g4.2.2, of_decide_eq_true g5.1, of_decide_eq_true g5.2, g6.1, ?_⟩⟩
    have g7 := g6.2
    simp only [Bool.and_eq_false_iff, bne_eq_false_iff_eq, beq_eq_false_iff_ne] at g7
    exact g7
  · rintro ⟨k, h⟩
    unfold unitFault
    rw [if_neg (by simp [h.id1, h.id2]), if_neg (by simp [h.up]), if_neg (by simp [has, h.p.1, h.p.2, h.k0.1, h.k0.2]), h.kk]
    show kindPart W (W.us.take i) u k = 0
    unfold kindPart
    rw [if_neg (by simp [h.life.1, h.life.2, h.load.1, h.load.2, h.task.1, h.task.2]), if_neg (by simp [has, h.at_.1, h.at_.2, h.goal.1, h.goal.2]), if_neg]
    simp only [h.opn, Bool.not_true, Bool.false_or, Bool.and_eq_true, bne_iff_ne, beq_iff_eq, ne_eq, not_and]
    intro hg ht
    rcases h.rest with h1 | h1
    · exact hg h1
    · exact h1 ht
/-- a world with which nothing is wrong. -/
theorem wfault_zero {ks : List KV} {W : WV} (hk : Kd.kindsFault (ks.map KV.k) = 0) (hf : Fd.fault W.wide W.high W.gs W.os = 0) (hn : numsBad W = false) (hu : W.us.length ≤ 40) (hus : ∀ (i : Nat) (u : UnV), W.us[i]? = some u → ∃ k, UFine ks W i u k) (hq : W.qs.length ≤ 12) (hqs : ∀ j ∈ W.qs, jobFault ks W j = 0) : wfault ks W = 0 := by
  have h1 : ground ks W = 0 := by unfold ground; rw [if_pos hk, hf]
  have h2 : unitsGo ks W 0 W.us = 0 := (unitsGo_zero W.us 0).2 fun j u hj => by rw [Nat.zero_add]; exact unit_fine.2 (hus j u hj)
  unfold wfault
  rw [if_neg (by rw [h1]; simp), hn, if_neg (by simp), if_neg (by omega), if_neg (by rw [h2]; simp), if_neg (by omega)]
  exact (jobsGo_zero W.qs).2 hqs
end Wd
theorem WRight.fine {ks : List KV} {W : WV} (h : WRight ks W) {i : Nat} {u : UnV} (hu : W.us[i]? = some u) : ∃ k, Wd.UFine ks W i u k := by
  have := (Wd.unitsGo_zero W.us 0).1 h.units i u hu
  rw [Nat.zero_add] at this
  exact Wd.unit_fine.1 this
theorem WRight.job {ks : List KV} {W : WV} (h : WRight ks W) {j : JbV} (hj : j ∈ W.qs) : Wd.jobFault ks W j = 0 := (Wd.jobsGo_zero W.qs).1 h.jobs j hj
theorem WRight.zero {ks : List KV} {W : WV} (h : WRight ks W) : Wd.wfault ks W = 0 := by
  obtain ⟨Wn, Hn, e1, e2, G⟩ := h.good
  exact Wd.wfault_zero h.kinds (by rw [e1, e2]; exact Fd.fault_good G) h.nums h.ul (fun i u hu => h.fine hu) h.ql (fun j hj => h.job hj)
end Go.Proofs.YtkejdkajfnaieaaGreatDoor

namespace Go.Proofs.YtkejdkajfnaieaaGreatDoor
open Go.RowKit
set_option linter.unusedVariables false

theorem kgo_nums : ∀ {l acc : List Kd.K}, Kd.kindsGo acc l = 0 → ∀ k ∈ l, Kd.numsFault k.nums = 0
  | [], _, _, k, hk => by simp at hk
  | x :: l, acc, h, k, hk => by
    unfold Kd.kindsGo at h
    split at h
    · rename_i h0
      rcases List.mem_cons.1 hk with rfl | hk
      · unfold Kd.kindFault at h0
        split at h0
        · split at h0
          · omega
          · exact h0
        · omega
      · exact kgo_nums h k hk
    · rename_i h0
      exact absurd h h0
/-- kinds that are right. -/
theorem kinds_right {ks : List KV} (h : Kd.kindsFault (ks.map KV.k) = 0) : ks.length ≤ 8 ∧ ∀ k ∈ ks, 0 ≤ k.n5 ∧ k.n5 ≤ 1000 ∧ 0 < k.n0 ∧ k.n0 ≤ 1000 := by
  unfold Kd.kindsFault at h
  split at h
  · omega
  · rename_i h8
    refine ⟨by simpa using h8, fun k hk => ?_⟩
    have := kgo_nums h k.k (List.mem_map.2 ⟨k, hk, rfl⟩)
    unfold Kd.numsFault at this
    split at this
    · omega
    · rename_i h1
      rw [Bool.not_eq_true, List.any_eq_false] at h1
      have a := h1 k.n0 (by simp [KV.k])
      have b := h1 k.n5 (by simp [KV.k])
      simp only [decide_eq_true_eq] at a b
      split at this
      · omega
      · rename_i h2
        have : (k.k.nums).getD 0 0 = k.n0 := rfl
        omega

end Go.Proofs.YtkejdkajfnaieaaGreatDoor

namespace Go.Proofs.YtkejdkajfnaieaaGreatDoor
set_option linter.unusedVariables false

theorem kind_nums {ks : List KV} (h : Kd.kindsFault (ks.map KV.k) = 0) {k : KV} (hk : k ∈ ks) : 1 ≤ k.n0 ∧ 0 ≤ k.n7 ∧ 0 ≤ k.n4 ∧ k.n4 ≤ 4 ∧ 0 ≤ k.n1 ∧ k.n1 ≤ 1000 ∧ 0 ≤ k.n2 ∧ k.n2 ≤ 12 ∧ 0 ≤ k.n3 ∧ k.n3 ≤ 12 ∧ k.n0 ≤ 1000 ∧ k.n7 ≤ 1000 := by
  unfold Kd.kindsFault at h
  split at h
  · omega
  · have := kgo_nums h k.k (List.mem_map.2 ⟨k, hk, rfl⟩)
    unfold Kd.numsFault at this
    split at this
    · omega
    · rename_i h1
      rw [Bool.not_eq_true, List.any_eq_false] at h1
      have a := h1 k.n0 (by simp [KV.k])
      have b := h1 k.n7 (by simp [KV.k])
      have c := h1 k.n4 (by simp [KV.k])
      have d := h1 k.n1 (by simp [KV.k])
      have e := h1 k.n2 (by simp [KV.k])
      have f := h1 k.n3 (by simp [KV.k])
      simp only [decide_eq_true_eq] at a b c d e f
      split at this
      · omega
      · rename_i h2
        have e0 : (k.k.nums).getD 0 0 = k.n0 := rfl
        have e4 : (k.k.nums).getD 4 0 = k.n4 := rfl
        have e2 : (k.k.nums).getD 2 0 = k.n2 := rfl
        have e3 : (k.k.nums).getD 3 0 = k.n3 := rfl
        omega
theorem find_more {us : List UnV} {n : UnV} {p : UnV → Bool} {u : UnV} (h : us.find? p = some u) : (us ++ [n]).find? p = some u := by
  rw [List.find?_append, h]; rfl
theorem put_right {ks : List KV} {W : WV} {pl kd at_ : Int} (h : WRight ks W) (hp : Wd.placeFault ks W pl kd at_ = 0) : Wd.wfault ks (Wd.put ks W pl kd at_) = 0 := by
  obtain ⟨h40, hpl, hat, kn, k, rfl, hkl, hkk, hop⟩ := pf_zero hp
  have hnu : Wd.newUnit ks W pl (kn : Nat) at_ = ⟨W.next, pl, (kn : Nat), at_, k.n0, 0, 0, 0⟩ := by unfold Wd.newUnit; rw [Int.toNat_natCast, hkk]
  have hn1 : 1 ≤ W.next := by
    have := (nums_ok h.nums).1
    unfold Wd.off at this
    simp at this
    omega
  have hk := kind_nums h.kinds (List.mem_of_getElem? hkk)
  obtain ⟨Wn, Hn, e1, e2, G⟩ := h.good
  unfold Wd.put
  rw [hnu]
  refine Wd.wfault_zero h.kinds (by show Fd.fault W.wide W.high W.gs W.os = 0; rw [e1, e2]; exact Fd.fault_good G) ?_ ?_ ?_ h.ql ?_
  · have hn := h.nums
    unfold Wd.numsBad at hn ⊢
    simp only [Bool.or_eq_false_iff] at hn ⊢
    refine ⟨hn.1, ?_, hn.2.2⟩
    unfold Wd.off
    simp
    omega
  · show (W.us ++ [_]).length ≤ 40
    rw [List.length_append]
    have := h40
    simp only [List.length_cons, List.length_nil]
    omega
  · intro i u hu
    have hu' : (W.us ++ [(⟨W.next, pl, (kn : Nat), at_, k.n0, 0, 0, 0⟩ : UnV)])[i]? = some u := hu
    rcases Nat.lt_or_ge i W.us.length with hi | hi
    · rw [List.getElem?_append_left hi] at hu'
      obtain ⟨k0, f⟩ := h.fine hu'
      refine ⟨k0, ⟨f.id1, ?_, ?_, f.p, f.k0, f.kk, f.life, f.load, f.task, f.at_, f.goal, ?_, f.rest⟩⟩
      · have := f.id2
        show u.id ≤ W.next + 1 - 1
        omega
      · have := f.up
        show Wd.notAbove (W.us ++ [_]) i u = false
        unfold Wd.notAbove at this ⊢
        cases i with
        | zero => rfl
        | succ j =>
          simp only at this ⊢
          rw [List.getElem?_append_left (by omega)]
          exact this
      · show Wd.open_ W.gs ((W.us ++ [_]).take i) u.at_ k0.f = true
        rw [List.take_append_of_le_length (by omega)]
        exact f.opn
    · rw [List.getElem?_append_right hi] at hu'
      have hil : i = W.us.length := by
        rcases Nat.eq_zero_or_pos (i - W.us.length) with h0 | h0
        · omega
        · rw [List.getElem?_eq_none (by simp; omega)] at hu'; cases hu'
      subst hil
      rw [Nat.sub_self] at hu'
      injection hu' with hu'
      subst hu'
      refine ⟨k, ⟨hn1, ?_, ?_, hpl, ⟨by simp, by simp; omega⟩, by simpa using hkk, ⟨hk.1, Int.le_refl _⟩, ⟨Int.le_refl _, hk.2.1⟩, ⟨by simp, by simp⟩, hat, ⟨by simp, Int.lt_of_le_of_lt hat.1 hat.2⟩, ?_, .inl rfl⟩⟩
      · show W.next ≤ W.next + 1 - 1
        omega
      · show Wd.notAbove (W.us ++ [_]) W.us.length _ = false
        unfold Wd.notAbove
        cases hl : W.us.length with
        | zero => rfl
        | succ j =>
          simp only
          rw [List.getElem?_append_left (by omega)]
          cases hx : W.us[j]? with
          | none => rfl
          | some x =>
            obtain ⟨k0, f⟩ := h.fine hx
            have := f.id2
            simp
            omega
      · show Wd.open_ W.gs ((W.us ++ [_]).take W.us.length) at_ k.f = true
        rw [List.take_left]
        exact hop
  · intro j hj
    have := h.job hj
    unfold Wd.jobFault at this ⊢
    cases hx : W.us.find? (fun u => u.id == j.unit) with
    | none => rw [hx] at this; cases this
    | some u =>
      rw [hx] at this
      have hm := find_more (n := (⟨W.next, pl, (kn : Nat), at_, k.n0, 0, 0, 0⟩ : UnV)) hx
      simp only [hm]
      exact this
/-- whoever comes next finds the cell taken. -/
theorem put_taken {ks : List KV} {W : WV} {pl kd at_ : Int} (h : WRight ks W) (hp : Wd.placeFault ks W pl kd at_ = 0) : Wd.putFault ks (Wd.put ks W pl kd at_) pl kd at_ ≠ 0 := by
  unfold Wd.putFault
  rw [if_pos (put_right h hp)]
  intro h0
  obtain ⟨-, -, -, kn, k, hkd, -, -, hop⟩ := pf_zero h0
  unfold Wd.open_ at hop
  have : (Wd.put ks W pl kd at_).us.any (fun u => u.at_ == at_) = true := by
    refine List.any_eq_true.2 ⟨Wd.newUnit ks W pl kd at_, ?_, by simp [Wd.newUnit]⟩
    show _ ∈ W.us ++ [_]
    simp
  rw [this] at hop
  simp at hop
end Go.Proofs.YtkejdkajfnaieaaGreatDoor

namespace Go.Proofs.YtkejdkajfnaieaaGreatDoor
open Go.RowKit
set_option linter.unusedVariables false

theorem cell_new1 {w : World} {z : Nat} (v : Value) (T : TypeId) (hz : w.heap.size = z) : (w.alloc (.cells #[v] T)).cell? ⟨z, 0, none⟩ = some v := by
  subst hz
  simp
set_option maxRecDepth 100000 in
set_option maxHeartbeats 4000000 in
theorem reaches_any (v : Value) (W H : Nat) (gs os : List Int) (k : KV) (a b : Nat) (w : World) (h : Fl w v W H gs os) (G : Fd.Good W H gs os) (ha : a < W * H) (hb : b < W * H) (s0 : 0 ≤ k.n3) (s1 : k.n3 ≤ 12) :
    Calls Tryz.prog 173 #[v, k.val, .int .i64 (a : Nat), .int .i64 (b : Nat)] w fun e w' => e = .returned (.bool (seeN W gs k a b)) ∧ Below w.heap.size w w' := by
  have F0 : Hid (Fl w v W H gs os) := h
  have HG : Hid (Fd.Good W H gs os ∧ a < W * H ∧ b < W * H ∧ 0 ≤ k.n3 ∧ k.n3 ≤ 12) := ⟨G, ha, hb, s0, s1⟩
  have hm : W * H ≤ 144 := G.pos.2
  have FE : Hid (∀ r, Ma.Sq r ((((a % W : Nat) : Int) - ((b % W : Nat) : Int)) * (((a % W : Nat) : Int) - ((b % W : Nat) : Int)) + (((a / W : Nat) : Int) - ((b / W : Nat) : Int)) * (((a / W : Nat) : Int) - ((b / W : Nat) : Int))) → farN W a b = r) := fun r hr => farN_eq G.w2 (by omega) (by omega) G.w1 hr
  obtain ⟨ca, hca⟩ : ∃ n, a % W = n := ⟨_, rfl⟩
  obtain ⟨ra, hra⟩ : ∃ n, a / W = n := ⟨_, rfl⟩
  obtain ⟨cb, hcb⟩ : ∃ n, b % W = n := ⟨_, rfl⟩
  obtain ⟨rb, hrb⟩ : ∃ n, b / W = n := ⟨_, rfl⟩
  have hw : ¬ (W : Int) = 0 := by have := G.w1; omega
  have e1 : (a : Int) % (W : Int) = (ca : Nat) := by rw [← hca]; rfl
  have e2 : (a : Int) / (W : Int) = (ra : Nat) := by rw [← hra]; rfl
  have e3 : (b : Int) % (W : Int) = (cb : Nat) := by rw [← hcb]; rfl
  have e4 : (b : Int) / (W : Int) = (rb : Nat) := by rw [← hrb]; rfl
  have l1 : ra ≤ 144 := by rw [← hra]; exact Nat.le_trans (Nat.div_le_self _ _) (by omega)
  have l2 : rb ≤ 144 := by rw [← hrb]; exact Nat.le_trans (Nat.div_le_self _ _) (by omega)
  have l3 : ca ≤ 144 := by rw [← hca]; exact Nat.le_trans (Nat.mod_le _ _) (by omega)
  have l4 : cb ≤ 144 := by rw [← hcb]; exact Nat.le_trans (Nat.mod_le _ _) (by omega)
  have FO : Hid (∀ V, Calls Tryz.prog 207 #[.int .i64 (ca : Nat), .int .i64 (ra : Nat), .int .i64 (cb : Nat), .int .i64 (rb : Nat)] V fun e w' => e = .returned (.tuple #[.int .i64 (farN W a b), .nilIface]) ∧ w' = V) := fun V => by
    refine (far_ok _ _ _ _ V (small_in6 l3) (small_in6 l1) (small_in6 l4) (small_in6 l2)).mono ?_
    rintro e w' ⟨r, hr, rfl, rfl⟩
    rw [← hca, ← hra, ← hcb, ← hrb] at hr
    rw [FE.out r hr]
    exact ⟨rfl, rfl⟩
  clear hca hra hcb hrb
  obtain ⟨u1, u2, rfl, ⟨a1, c, rfl, c1, c2, ca'⟩, ⟨b1, d, rfl, d1, d2, cb'⟩⟩ := h
  clear ca' cb' G ha hb s0 s1 hm
  have B0 : Hid (Below w.heap.size w ((w.alloc (Obj.cells #[.int .i64 (W : Nat), .int .i64 (H : Nat), .slice a1 gs.length c, .slice b1 os.length d] 25)).alloc (Obj.cells #[.string k.b, .int .i64 k.n0, .int .i64 k.n1, .int .i64 k.n2, .int .i64 k.n3, .int .i64 k.n4, .int .i64 k.n5, .int .i64 k.n6, .int .i64 k.n7, .bool k.f, .bool k.t] 101))) := ((Below.refl _ _).alloc (Nat.le_refl _) _).alloc (by simp) _
  have F1 : Hid (Bf ((w.alloc (Obj.cells #[.int .i64 (W : Nat), .int .i64 (H : Nat), .slice a1 gs.length c, .slice b1 os.length d] 25)).alloc (Obj.cells #[.string k.b, .int .i64 k.n0, .int .i64 k.n1, .int .i64 k.n2, .int .i64 k.n3, .int .i64 k.n4, .int .i64 k.n5, .int .i64 k.n6, .int .i64 k.n7, .bool k.f, .bool k.t] 101)) w.heap.size W H (.slice a1 gs.length c) (.slice b1 os.length d)) := (Bf.mk' _ _ _ _ rfl).below ((Below.refl _ _).alloc (Nat.le_refl _) _) (by simp)
  have K1 : Hid (Kc ((w.alloc (Obj.cells #[.int .i64 (W : Nat), .int .i64 (H : Nat), .slice a1 gs.length c, .slice b1 os.length d] 25)).alloc (Obj.cells #[.string k.b, .int .i64 k.n0, .int .i64 k.n1, .int .i64 k.n2, .int .i64 k.n3, .int .i64 k.n4, .int .i64 k.n5, .int .i64 k.n6, .int .i64 k.n7, .bool k.f, .bool k.t] 101)) ⟨w.heap.size + 1, 0, none⟩ k) := Kc.mk' k (by simp)
  unfold KV.val
  go_enter Tryz.func173, Tryz.ntmps173
  go_upto_region 1 with fail
  generalize ((w.alloc (Obj.cells #[.int .i64 (W : Nat), .int .i64 (H : Nat), .slice a1 gs.length c, .slice b1 os.length d] 25)).alloc (Obj.cells #[.string k.b, .int .i64 k.n0, .int .i64 k.n1, .int .i64 k.n2, .int .i64 k.n3, .int .i64 k.n4, .int .i64 k.n5, .int .i64 k.n6, .int .i64 k.n7, .bool k.f, .bool k.t] 101)) = w0 at *
  obtain ⟨f0, f1, f2, f3⟩ := F1.out
  obtain ⟨y0, y1, y2, y3, y4, y5, y6, y7, y8, y9, y10⟩ := K1.out
  obtain ⟨f, hf⟩ : ∃ f, farN W a b = f := ⟨_, rfl⟩
  have HF : Hid (farN W a b = f) := hf
  rw [hf] at FO
  clear hf
  cases hk : k.f with
  | true =>
    have SE : Hid (seeN W gs k a b = decide (f ≤ k.n3)) := by unfold Hid seeN; rw [hk, HF.out]; simp
    rw [hk] at y9
    go_upto_region 2 with fail
    go_quiet ((go_at_call 207; exact Calls.quiet_of_same (FO.out _)))
    go_wp2
    go_ret
    exact ⟨by rw [SE.out]; rfl, ⟨B0.out.os, B0.out.tape, B0.out.output, B0.out.size, B0.out.block⟩⟩
  | false =>
    obtain ⟨z, hz⟩ : ∃ z, (decide (f ≤ k.n3) && !(Fd.line W a b).any (Fd.hide gs a b)) = z := ⟨_, rfl⟩
    have SE : Hid (seeN W gs k a b = z) := by unfold Hid seeN; rw [hk, HF.out, ← hz]; simp
    rw [hk] at y9
    go_upto_region 4 with fail
    go_wp2_with fail
    refine (Sees_ok _ W H gs os a b k.n3 w0 (F0.out.below B0.out) HG.out.1 HG.out.2.1 HG.out.2.2.1 HG.out.2.2.2.1 (by have := HG.out.2.2.2.2; omega)).mono ?_
    rintro e w1 ⟨r, hr, rfl, hb⟩
    have er : f = r := HF.out.symm.trans (FE.out r hr)
    rw [← er, hz]
    have B1 : Hid (Below w.heap.size w w1) := B0.out.trans (hb.mono B0.out.size)
    clear hb hr er hz f0 f1 f2 f3 y0 y1 y2 y3 y4 y5 y6 y7 y8 y9 y10
    cases z <;>
    · go_wp2
      go_ret
      exact ⟨by rw [SE.out]; rfl, B1.out⟩

set_option maxHeartbeats 1000000 in
theorem hasm_any (K : Nat) (eK : ∀ args w, (callFunc K args).run Tryz.prog w = .ok (.enter K args) w) (u : Value) (cs : Array Value) (ks : List UnV) (p : UnV → Bool) (w : World) (hu : Unl w u ks)
    (hp : ∀ W, Below w.heap.size w W → ∀ k ∈ ks, Calls Tryz.prog K (#[k.val] ++ cs) W fun e w' => e = .returned (.bool (p k)) ∧ Below W.heap.size W w') :
    Calls Tryz.prog 96 #[u, .func (Fn.func K) #[] cs] w fun e w' => e = .returned (.bool (ks.any p)) ∧ Below w.heap.size w w' := by
  have H' : Hid (Calls Tryz.prog 112 #[u, .func (Fn.func K) #[] cs] w fun e w' => ∃ r : Int, e = .returned (.int .i64 r) ∧ FstU p ks r ∧ Below w.heap.size w w') := idxm_any K eK u cs ks p w hu hp
  clear hp
  go_enter Tryz.func96, Tryz.ntmps96
  go_wp2_with fail
  refine Calls.mono H'.out ?_
  rintro e w1 ⟨r, rfl, hr, q⟩
  have Hr : Hid (decide (0 ≤ r) = ks.any p) := hr.has
  have Q : Hid (Below w.heap.size w w1) := q
  clear hr q
  go_wp2
  go_ret
  exact ⟨by show Ending.returned (.bool (decide (0 ≤ r))) = _; rw [Hr.out], Q⟩

set_option maxRecDepth 100000 in
set_option maxHeartbeats 4000000 in
theorem see_fg (ks : List KV) (X : WV) (u : UnV) (p : Int) (Wn c bp bw bk ba : Nat) (vk u1 u2 u3 u4 u5 : Value) (w : World) (WR : WRight ks X) (hw : X.wide = (Wn : Nat)) (hc : c < X.gs.length) (hu : u ∈ X.us)
    (hk : Kl w vk ks) (hx : Wl w (.agg #[.int .i64 X.turn, .int .i64 X.next, .int .i64 X.wide, .int .i64 X.high, u1, u2, u3, u4, u5]) X) (hb : Bw w bw X u1 u2 u3 u4 u5)
    (c1 : w.cell? ⟨bp, 0, none⟩ = some (.int .i64 p)) (c2 : w.cell? ⟨bk, 0, none⟩ = some vk) (c3 : w.cell? ⟨ba, 0, none⟩ = some (.int .i64 (c : Nat))) :
    Calls Tryz.prog 172 (#[u.val] ++ #[.pointer (some ⟨bp, 0, none⟩), .pointer (some ⟨bw, 0, none⟩), .pointer (some ⟨bk, 0, none⟩), .pointer (some ⟨ba, 0, none⟩)]) w fun e w' => e = .returned (.bool (seeU ks Wn X.gs p c u)) ∧ Below w.heap.size w w' := by
  obtain ⟨i, hi⟩ := List.mem_iff_getElem?.1 hu
  obtain ⟨k, fu⟩ := WR.fine hi
  obtain ⟨Wm, Hn, e1, e2, G⟩ := WR.good
  have ew : Wm = Wn := by omega
  subst ew
  obtain ⟨kn, hkn⟩ : ∃ n : Nat, u.kind = n := ⟨u.kind.toNat, by have := fu.k0.1; omega⟩
  obtain ⟨an, han⟩ : ∃ n : Nat, u.at_ = n := ⟨u.at_.toNat, by have := fu.at_.1; omega⟩
  have hkk : ks[kn]? = some k := by have := fu.kk; rw [hkn] at this; exact this
  have hkl : kn < ks.length := (List.getElem?_eq_some_iff.1 hkk).1
  have hN := kind_nums WR.kinds (List.mem_of_getElem? hkk)
  have HE : Hid (u.kind = (kn : Nat) ∧ u.at_ = (an : Nat) ∧ X.wide = (Wm : Nat) ∧ X.high = (Hn : Nat)) := ⟨hkn, han, e1, e2⟩
  have LL : Hid (Fd.Good Wm Hn X.gs X.os ∧ an < Wm * Hn ∧ c < Wm * Hn ∧ 0 ≤ k.n3 ∧ k.n3 ≤ 12) := ⟨G, by have := fu.at_.2; have := G.gl; omega, by have := G.gl; omega, hN.2.2.2.2.2.2.2.2.1, hN.2.2.2.2.2.2.2.2.2.1⟩
  have SE : Hid (seeU ks Wm X.gs p c u = ((u.player == p) && seeN Wm X.gs k an c)) := by
    unfold Hid seeU
    rw [hkn, han, Int.toNat_natCast, Int.toNat_natCast, hkk]
  have XL : Hid (Wl w (.agg #[.int .i64 X.turn, .int .i64 X.next, .int .i64 X.wide, .int .i64 X.high, u1, u2, u3, u4, u5]) X) := hx
  obtain ⟨pk, qk, rfl, ck1, ck2, kc⟩ := hk
  obtain ⟨xk, rfl, hxk, hkc⟩ := kc (by intro h; rw [h] at hkl; simp at hkl)
  have KC : Hid (Kc w (xk.add (kn * 11)) k ∧ (xk.add (kn * 11)).block < w.heap.size) := ⟨hkc kn k hkk, by rw [add_block]; exact hxk⟩
  have CF : Hid (w.cell? ⟨bp, 0, none⟩ = some (.int .i64 p) ∧ w.cell? ⟨bk, 0, none⟩ = some (.slice (some xk) ks.length qk) ∧ w.cell? ⟨ba, 0, none⟩ = some (.int .i64 (c : Nat)) ∧ bp < w.heap.size ∧ bk < w.heap.size ∧ ba < w.heap.size) := ⟨c1, c2, c3, cell_lt c1, cell_lt c2, cell_lt c3⟩
  have BX : Hid (Bw w bw X u1 u2 u3 u4 u5) := hb
  have B0 : Hid (Below w.heap.size w (w.alloc (Obj.cells #[.int .i64 u.id, .int .i64 u.player, .int .i64 u.kind, .int .i64 u.at_, .int .i64 u.life, .int .i64 u.load, .int .i64 u.task, .int .i64 u.goal] 42))) := (Below.refl _ _).alloc (Nat.le_refl _) _
  have O0 : Hid (Unc (w.alloc (Obj.cells #[.int .i64 u.id, .int .i64 u.player, .int .i64 u.kind, .int .i64 u.at_, .int .i64 u.life, .int .i64 u.load, .int .i64 u.task, .int .i64 u.goal] 42)) ⟨w.heap.size, 0, none⟩ u) := Unc.mk' u rfl
  clear kc hkc hxk hx hb c1 c2 c3 hkk fu hi e1 e2 G hN hkn han hc hu WR
  unfold UnV.val
  go_enter Tryz.func172, Tryz.ntmps172
  go_upto_region 1 with fail
  generalize (w.alloc (Obj.cells #[.int .i64 u.id, .int .i64 u.player, .int .i64 u.kind, .int .i64 u.at_, .int .i64 u.life, .int .i64 u.load, .int .i64 u.task, .int .i64 u.goal] 42)) = w0 at *
  by_cases hp : u.player = p
  case neg =>
    have hp' : (u.player == p) = false := by rw [beq_eq_false_iff_ne]; exact hp
    have hp2 : decide (u.player = p) = false := decide_eq_false hp
    have S1 : Hid (seeU ks Wm X.gs p c u = false) := by unfold Hid; rw [SE.out, hp']; rfl
    have d1 : w0.cell? ⟨w.heap.size, 1, none⟩ = some (.int .i64 u.player) := by have := O0.out.c1; rw [Nat.zero_add] at this; exact this
    have d2 : w0.cell? ⟨bp, 0, none⟩ = some (.int .i64 p) := by rw [B0.out.cell (p := ⟨bp, 0, none⟩) CF.out.2.2.2.1]; exact CF.out.1
    obtain ⟨q0, q1, q2, q3, q4, q5, q6, q7⟩ := O0.out
    clear hp
    go_quiet (fail)
    go_wp2
    go_ret
    exact ⟨by rw [S1.out]; rfl, ⟨B0.out.os, B0.out.tape, B0.out.output, B0.out.size, B0.out.block⟩⟩
  · have S1 : Hid (seeU ks Wm X.gs p c u = seeN Wm X.gs k an c) := by unfold Hid; rw [SE.out, hp]; simp
    have C1 : Hid (w.cell? ⟨bp, 0, none⟩ = some (.int .i64 u.player)) := by unfold Hid; rw [hp]; exact CF.out.1
    clear hp
    have CB : Hid (∀ V, Below w.heap.size w V → Unc V ⟨w.heap.size, 0, none⟩ u → (V.cell? ⟨w.heap.size, 1, none⟩ = some (.int .i64 u.player) ∧ V.cell? ⟨w.heap.size, 2, none⟩ = some (.int .i64 (kn : Nat)) ∧ V.cell? ⟨w.heap.size, 3, none⟩ = some (.int .i64 (an : Nat)) ∧ V.cell? ⟨bp, 0, none⟩ = some (.int .i64 u.player) ∧ V.cell? ⟨bk, 0, none⟩ = some (.slice (some xk) ks.length qk) ∧ V.cell? ⟨ba, 0, none⟩ = some (.int .i64 (c : Nat)) ∧ Bw V bw X u1 u2 u3 u4 u5 ∧ Kc V (xk.add (kn * 11)) k)) := fun V hb h0 =>
      ⟨by have := h0.c1; rw [Nat.zero_add] at this; exact this, by have := h0.c2; rw [Nat.zero_add, HE.out.1] at this; exact this, by have := h0.c3; rw [Nat.zero_add, HE.out.2.1] at this; exact this,
       by rw [hb.cell (p := ⟨bp, 0, none⟩) CF.out.2.2.2.1]; exact C1.out, by rw [hb.cell (p := ⟨bk, 0, none⟩) CF.out.2.2.2.2.1]; exact CF.out.2.1, by rw [hb.cell (p := ⟨ba, 0, none⟩) CF.out.2.2.2.2.2]; exact CF.out.2.2.1,
       BX.out.below hb BX.out.lt, KC.out.1.below hb KC.out.2⟩
    refine wp_region_two [(true, 0), (true, 1), (true, 2), (true, 3), (true, 4), (true, 5), (true, 6), (true, 7), (true, 8), (true, 9), (true, 10), (true, 11), (true, 12), (true, 13), (true, 14), (false, 15)] [(true, 16), (false, 17)] (fun V => (V.cell? ⟨w.heap.size, 1, none⟩ = some (.int .i64 u.player) ∧ V.cell? ⟨w.heap.size, 2, none⟩ = some (.int .i64 (kn : Nat)) ∧ V.cell? ⟨w.heap.size, 3, none⟩ = some (.int .i64 (an : Nat)) ∧ V.cell? ⟨bp, 0, none⟩ = some (.int .i64 u.player) ∧ V.cell? ⟨bk, 0, none⟩ = some (.slice (some xk) ks.length qk) ∧ V.cell? ⟨ba, 0, none⟩ = some (.int .i64 (c : Nat)) ∧ Bw V bw X u1 u2 u3 u4 u5 ∧ Kc V (xk.add (kn * 11)) k)) (by kernel_rfl) (by kernel_rfl) (by kernel_rfl) (by decide +kernel) (by decide +kernel) (CB.out _ B0.out.drew (O0.out.below ((Below.refl _ _).drew) O0.out.lt)) ?_
    have B1 : Hid (Below w.heap.size w { w0 with drawn := w0.drawn + 1 }) := B0.out.drew
    have O1 : Hid (Unc { w0 with drawn := w0.drawn + 1 } ⟨w.heap.size, 0, none⟩ u) := O0.out.below ((Below.refl _ _).drew) O0.out.lt
    generalize ({ w0 with drawn := w0.drawn + 1 } : World) = w1 at *
    clear B0 O0
    refine headT_read rfl (.pointer (some ⟨w.heap.size, 1, none⟩)) (by go_simp) (fun V hV => by go_simp) ?_
    go_simp
    refine headT_read rfl (.int .i64 u.player) (by go_simp) (fun V hV => by obtain ⟨d1, d2, d3, d4, d5, d6, ⟨x0, x1, x2, x3, x4, x5, x6, x7, x8⟩, ⟨y0, y1, y2, y3, y4, y5, y6, y7, y8, y9, y10⟩⟩ := hV; go_simp) ?_
    go_simp
    refine headT_read rfl (.int .i64 u.player) (by go_simp) (fun V hV => by obtain ⟨d1, d2, d3, d4, d5, d6, ⟨x0, x1, x2, x3, x4, x5, x6, x7, x8⟩, ⟨y0, y1, y2, y3, y4, y5, y6, y7, y8, y9, y10⟩⟩ := hV; go_simp) ?_
    go_simp
    refine headT_read rfl (.bool true) (by go_simp) (fun V hV => by go_simp) ?_
    go_simp
    refine headT_read rfl (.bool true) (by go_simp) (fun V hV => by go_simp) ?_
    go_simp
    refine headT_read rfl (.pointer (some ⟨bw, 2, none⟩)) (by go_simp) (fun V hV => by go_simp) ?_
    go_simp
    refine headT_read rfl (.agg #[.int .i64 X.wide, .int .i64 X.high, u1, u2]) (by go_simp) (fun V hV => by obtain ⟨d1, d2, d3, d4, d5, d6, ⟨x0, x1, x2, x3, x4, x5, x6, x7, x8⟩, ⟨y0, y1, y2, y3, y4, y5, y6, y7, y8, y9, y10⟩⟩ := hV; go_simp) ?_
    go_simp
    refine headT_read rfl (.slice (some xk) ks.length qk) (by go_simp) (fun V hV => by obtain ⟨d1, d2, d3, d4, d5, d6, ⟨x0, x1, x2, x3, x4, x5, x6, x7, x8⟩, ⟨y0, y1, y2, y3, y4, y5, y6, y7, y8, y9, y10⟩⟩ := hV; go_simp) ?_
    go_simp
    refine headT_read rfl (.pointer (some ⟨w.heap.size, 2, none⟩)) (by go_simp) (fun V hV => by go_simp) ?_
    go_simp
    refine headT_read rfl (.int .i64 (kn : Nat)) (by go_simp) (fun V hV => by obtain ⟨d1, d2, d3, d4, d5, d6, ⟨x0, x1, x2, x3, x4, x5, x6, x7, x8⟩, ⟨y0, y1, y2, y3, y4, y5, y6, y7, y8, y9, y10⟩⟩ := hV; go_simp) ?_
    go_simp
    refine headT_read rfl (.pointer (some (xk.add (kn * 11)))) (by go_simp) (fun V hV => by go_simp) ?_
    go_simp
    refine headT_read rfl (.agg #[.string k.b, .int .i64 k.n0, .int .i64 k.n1, .int .i64 k.n2, .int .i64 k.n3, .int .i64 k.n4, .int .i64 k.n5, .int .i64 k.n6, .int .i64 k.n7, .bool k.f, .bool k.t]) (by go_simp) (fun V hV => by obtain ⟨d1, d2, d3, d4, d5, d6, ⟨x0, x1, x2, x3, x4, x5, x6, x7, x8⟩, ⟨y0, y1, y2, y3, y4, y5, y6, y7, y8, y9, y10⟩⟩ := hV; go_simp) ?_
    go_simp
    refine headT_read rfl (.pointer (some ⟨w.heap.size, 3, none⟩)) (by go_simp) (fun V hV => by go_simp) ?_
    go_simp
    refine headT_read rfl (.int .i64 (an : Nat)) (by go_simp) (fun V hV => by obtain ⟨d1, d2, d3, d4, d5, d6, ⟨x0, x1, x2, x3, x4, x5, x6, x7, x8⟩, ⟨y0, y1, y2, y3, y4, y5, y6, y7, y8, y9, y10⟩⟩ := hV; go_simp) ?_
    go_simp
    refine headT_read rfl (.int .i64 (c : Nat)) (by go_simp) (fun V hV => by obtain ⟨d1, d2, d3, d4, d5, d6, ⟨x0, x1, x2, x3, x4, x5, x6, x7, x8⟩, ⟨y0, y1, y2, y3, y4, y5, y6, y7, y8, y9, y10⟩⟩ := hV; go_simp) ?_
    go_simp
    refine headT_call rfl 173 #[.agg #[.int .i64 X.wide, .int .i64 X.high, u1, u2], .agg #[.string k.b, .int .i64 k.n0, .int .i64 k.n1, .int .i64 k.n2, .int .i64 k.n3, .int .i64 k.n4, .int .i64 k.n5, .int .i64 k.n6, .int .i64 k.n7, .bool k.f, .bool k.t], .int .i64 (an : Nat), .int .i64 (c : Nat)] (by go_simp) (by go_simp) ?_
    have FLD := fl_of (XL.out.below B1.out)
    rw [HE.out.2.2.1, HE.out.2.2.2] at FLD ⊢
    refine (reaches_any _ Wm Hn X.gs X.os k an c w1 FLD LL.out.1 LL.out.2.1 LL.out.2.2.1 LL.out.2.2.2.1 LL.out.2.2.2.2).mono ?_
    rintro e w2 ⟨rfl, hb⟩
    have B2 : Hid (Below w.heap.size w w2) := B1.out.trans (hb.mono B1.out.size)
    refine ⟨_, rfl, CB.out _ B2.out (O1.out.below hb O1.out.lt), ?_⟩
    clear hb B1 O1 FLD
    go_simp
    obtain ⟨t, ht⟩ : ∃ t, seeN Wm X.gs k an c = t := ⟨_, rfl⟩
    rw [ht] at S1 ⊢
    clear ht
    refine sched_read rfl (.bool t) (by go_simp) (fun V hV => by go_simp) ?_
    go_simp
    refine sched_value rfl (.bool t) w2 (by go_simp) (by go_simp) trivial ?_
    go_simp
    unfold wpSched
    go_wp2
    go_ret
    exact ⟨by rw [S1.out]; rfl, B2.out⟩

set_option maxRecDepth 100000 in
set_option maxHeartbeats 4000000 in
theorem doesSee_any (vk vw : Value) (ks : List KV) (X : WV) (p : Int) (Wn c : Nat) (w : World) (WR : WRight ks X) (hw : X.wide = (Wn : Nat)) (hc : c < X.gs.length) (hk : Kl w vk ks) (hx : Wl w vw X) :
    Calls Tryz.prog 128 #[vk, vw, .int .i64 p, .int .i64 (c : Nat)] w fun e w' => e = .returned (.bool (seesP ks Wn X.gs X.us p c)) ∧ Below w.heap.size w w' := by
  have HR : Hid (WRight ks X ∧ X.wide = (Wn : Nat) ∧ c < X.gs.length) := ⟨WR, hw, hc⟩
  have K : Hid (Kl w vk ks) := hk
  have XL : Hid (Wl w vw X) := hx
  obtain ⟨p1, q1, p2, q2, p3, q3, p4, q4, p5, q5, rfl⟩ := wl_shape9 hx
  obtain ⟨pk, qk, rfl, -⟩ := hk
  clear hx hw hc WR
  have B0 : Hid (Below w.heap.size w ((((w.alloc (Obj.cells #[.slice pk ks.length qk] 22)).alloc (Obj.cells #[.int .i64 X.turn, .int .i64 X.next, .int .i64 X.wide, .int .i64 X.high, .slice p1 X.gs.length q1, .slice p2 X.os.length q2, .slice p3 X.gold.length q3, .slice p4 X.us.length q4, .slice p5 X.qs.length q5] 29)).alloc (Obj.cells #[.int .i64 p] 3)).alloc (Obj.cells #[.int .i64 (c : Nat)] 3))) := ((((Below.refl _ _).alloc (Nat.le_refl _) _).alloc (by simp) _).alloc (by simp; omega) _).alloc (by simp; omega) _
  have K0 : Hid (((((w.alloc (Obj.cells #[.slice pk ks.length qk] 22)).alloc (Obj.cells #[.int .i64 X.turn, .int .i64 X.next, .int .i64 X.wide, .int .i64 X.high, .slice p1 X.gs.length q1, .slice p2 X.os.length q2, .slice p3 X.gold.length q3, .slice p4 X.us.length q4, .slice p5 X.qs.length q5] 29)).alloc (Obj.cells #[.int .i64 p] 3)).alloc (Obj.cells #[.int .i64 (c : Nat)] 3)).cell? ⟨w.heap.size, 0, none⟩ = some (.slice pk ks.length qk) ∧ ((((w.alloc (Obj.cells #[.slice pk ks.length qk] 22)).alloc (Obj.cells #[.int .i64 X.turn, .int .i64 X.next, .int .i64 X.wide, .int .i64 X.high, .slice p1 X.gs.length q1, .slice p2 X.os.length q2, .slice p3 X.gold.length q3, .slice p4 X.us.length q4, .slice p5 X.qs.length q5] 29)).alloc (Obj.cells #[.int .i64 p] 3)).alloc (Obj.cells #[.int .i64 (c : Nat)] 3)).cell? ⟨w.heap.size + 1 + 1, 0, none⟩ = some (.int .i64 p) ∧ ((((w.alloc (Obj.cells #[.slice pk ks.length qk] 22)).alloc (Obj.cells #[.int .i64 X.turn, .int .i64 X.next, .int .i64 X.wide, .int .i64 X.high, .slice p1 X.gs.length q1, .slice p2 X.os.length q2, .slice p3 X.gold.length q3, .slice p4 X.us.length q4, .slice p5 X.qs.length q5] 29)).alloc (Obj.cells #[.int .i64 p] 3)).alloc (Obj.cells #[.int .i64 (c : Nat)] 3)).cell? ⟨w.heap.size + 1 + 1 + 1, 0, none⟩ = some (.int .i64 (c : Nat))) := by
    refine ⟨?_, ?_, ?_⟩
    · rw [cell_alloc (p := ⟨w.heap.size, 0, none⟩) (by simp; omega), cell_alloc (p := ⟨w.heap.size, 0, none⟩) (by simp; omega), cell_alloc (p := ⟨w.heap.size, 0, none⟩) (by simp)]
      simp
    · rw [cell_alloc (p := ⟨w.heap.size + 1 + 1, 0, none⟩) (by simp)]
      exact cell_new1 _ _ (by simp)
    · exact cell_new1 _ _ (by simp)
  have X0 : Hid (Bw ((((w.alloc (Obj.cells #[.slice pk ks.length qk] 22)).alloc (Obj.cells #[.int .i64 X.turn, .int .i64 X.next, .int .i64 X.wide, .int .i64 X.high, .slice p1 X.gs.length q1, .slice p2 X.os.length q2, .slice p3 X.gold.length q3, .slice p4 X.us.length q4, .slice p5 X.qs.length q5] 29)).alloc (Obj.cells #[.int .i64 p] 3)).alloc (Obj.cells #[.int .i64 (c : Nat)] 3)) (w.heap.size + 1) X (.slice p1 X.gs.length q1) (.slice p2 X.os.length q2) (.slice p3 X.gold.length q3) (.slice p4 X.us.length q4) (.slice p5 X.qs.length q5)) := ((Bw.mk' X _ _ _ _ _ (by simp)).below ((Below.refl _ _).alloc (Nat.le_refl _) _) (by simp)).below ((Below.refl _ _).alloc (Nat.le_refl _) _) (by simp)
  go_enter Tryz.func128, Tryz.ntmps128
  go_upto_region 1 with fail
  generalize ((((w.alloc (Obj.cells #[.slice pk ks.length qk] 22)).alloc (Obj.cells #[.int .i64 X.turn, .int .i64 X.next, .int .i64 X.wide, .int .i64 X.high, .slice p1 X.gs.length q1, .slice p2 X.os.length q2, .slice p3 X.gold.length q3, .slice p4 X.us.length q4, .slice p5 X.qs.length q5] 29)).alloc (Obj.cells #[.int .i64 p] 3)).alloc (Obj.cells #[.int .i64 (c : Nat)] 3)) = w0 at *
  obtain ⟨x0, x1, x2, x3, x4, x5, x6, x7, x8⟩ := X0.out
  go_wp2_with fail
  refine (hasm_any 172 (by intro args w; go_simp) _ #[.pointer (some ⟨w.heap.size + 1 + 1, 0, none⟩), .pointer (some ⟨w.heap.size + 1, 0, none⟩), .pointer (some ⟨w.heap.size, 0, none⟩), .pointer (some ⟨w.heap.size + 1 + 1 + 1, 0, none⟩)] X.us (seeU ks Wn X.gs p c) w0 (XL.out.below B0.out).slices.2.2.2.1 (fun V hV u hu => see_fg ks X u p Wn c _ _ _ _ _ _ _ _ _ _ V HR.out.1 HR.out.2.1 HR.out.2.2 hu (K.out.below (B0.out.trans (hV.mono B0.out.size))) (XL.out.below (B0.out.trans (hV.mono B0.out.size))) (X0.out.below hV X0.out.lt) (by rw [hV.cell (p := ⟨w.heap.size + 1 + 1, 0, none⟩) (cell_lt K0.out.2.1)]; exact K0.out.2.1) (by rw [hV.cell (p := ⟨w.heap.size, 0, none⟩) (cell_lt K0.out.1)]; exact K0.out.1) (by rw [hV.cell (p := ⟨w.heap.size + 1 + 1 + 1, 0, none⟩) (cell_lt K0.out.2.2)]; exact K0.out.2.2))).mono ?_
  rintro e w1 ⟨rfl, hb⟩
  have B1 : Hid (Below w.heap.size w w1) := B0.out.trans (hb.mono B0.out.size)
  obtain ⟨t, ht⟩ : ∃ t, X.us.any (seeU ks Wn X.gs p c) = t := ⟨_, rfl⟩
  have ST : Hid (seesP ks Wn X.gs X.us p c = t) := ht
  rw [ht]
  clear hb ht x0 x1 x2 x3 x4 x5 x6 x7 x8
  go_wp2
  go_ret
  exact ⟨by rw [ST.out]; rfl, B1.out⟩
end Go.Proofs.YtkejdkajfnaieaaGreatDoor

namespace Go.Proofs.YtkejdkajfnaieaaGreatDoor
open Go.RowKit
set_option linter.unusedVariables false

/-- v is a slice of the bools xs. -/
def Bl (w : World) (v : Value) (xs : List Bool) : Prop := ∃ (a : Option Addr) (c : Nat), v = .slice a xs.length c ∧ xs.length ≤ c ∧ c ≤ 9223372036854775807 ∧ (xs ≠ [] → ∃ x, a = some x ∧ x.block < w.heap.size ∧ ∀ i d, xs[i]? = some d → w.cell? (x.add i) = some (.bool d))
theorem Bl.below {w w' : World} {v : Value} {xs : List Bool} (h : Bl w v xs) (hb : Below w.heap.size w w') : Bl w' v xs := by
  obtain ⟨a, c, h1, h2, h3, h4⟩ := h
  refine ⟨a, c, h1, h2, h3, fun hx => ?_⟩
  obtain ⟨x, ha, hl, hc⟩ := h4 hx
  refine ⟨x, ha, Nat.lt_of_lt_of_le hl hb.size, fun i d hd => ?_⟩
  rw [hb.cell (p := x.add i) (by rw [add_block]; exact hl)]
  exact hc i d hd
theorem Bl.nil (w : World) : Bl w (.slice none 0 0) [] := ⟨none, 0, rfl, Nat.le_refl _, by omega, fun h => absurd rfl h⟩
theorem Bl.len {w : World} {v : Value} {xs : List Bool} (h : Bl w v xs) : ∃ a c, v = .slice a xs.length c := by
  obtain ⟨a, c, h, -⟩ := h
  exact ⟨a, c, h⟩
def boolCells (ds : List Bool) : List Value := ds.map fun d => .bool d
/-- block b holds the bools ds. -/
def Bb (w : World) (b : Nat) (ds : List Bool) : Prop := w.heap[b]? = some (.cells (boolCells ds).toArray 4 (0, 0))
theorem Bb.cell {w : World} {b : Nat} {ds : List Bool} (h : Bb w b ds) {i : Nat} {d : Bool} (hd : ds[i]? = some d) : w.cell? ⟨b, i, none⟩ = some (.bool d) := by
  have hi : i < ds.length := (List.getElem?_eq_some_iff.1 hd).1
  unfold Bb at h
  simp only [World.cell?, h]
  simp [boolCells, hi]
  exact (List.getElem?_eq_some_iff.1 hd).2
theorem Bb.thaw {w : World} {b : Nat} {ds : List Bool} (h : Bb w b ds) (i : Nat) : w.frozen? ⟨b, i, none⟩ = false := by
  unfold Bb at h
  simp [World.frozen?, h]
theorem Bb.set {w : World} {b : Nat} {ds : List Bool} (h : Bb w b ds) (i : Nat) (d : Bool) : Bb (w.setCell ⟨b, i, none⟩ (.bool d)) b (ds.set i d) := by
  unfold Bb at *
  rw [heap_setCell_same w b i _ _ _ h]
  have e : (boolCells (ds.set i d)).toArray = (boolCells ds).toArray.setIfInBounds i (.bool d) := by
    simp [boolCells, List.map_set]
  rw [e]
theorem Bb.lt {w : World} {b : Nat} {ds : List Bool} (h : Bb w b ds) : b < w.heap.size := lt_of_block h
theorem Bb.low {w w' : World} {b B : Nat} {ds : List Bool} (h : Bb w b ds) (hb : Below B w w') (hB : b < B) : Bb w' b ds := by
  unfold Bb at *
  rw [hb.block b hB]; exact h
theorem Bb.bl {w : World} {b c : Nat} {ds : List Bool} (h : Bb w b ds) (h1 : ds.length ≤ c) (h2 : c ≤ 9223372036854775807) : Bl w (.slice (some ⟨b, 0, none⟩) ds.length c) ds :=
  ⟨_, c, rfl, h1, h2, fun _ => ⟨_, rfl, h.lt, fun i d hd => by rw [Addr.add_lit, Nat.zero_add]; exact h.cell hd⟩⟩
theorem info_bool : (Tryz.prog.info? 4).map (fun i => (i.zero, i.size, i.bytes)) = some (some (.bool false), 1, 1) := by kernel_rfl
theorem made_bools (n : Nat) : madeCells #[Value.bool false] n = (boolCells (List.replicate n false)).toArray := by
  apply Array.ext_getElem?
  intro i
  unfold madeCells boolCells
  by_cases h : i < n
  · simp [h, Nat.mod_one]
  · simp [h]
theorem makeB (n : Nat) (w : World) (h : n ≤ 1000000) : ∃ w', (Instr.makeSlice 129 (.int .i64 (n : Nat)) (.int .i64 (n : Nat))).run Tryz.prog w = .ok (.slice (some ⟨w.heap.size, 0, none⟩) n n) w' ∧ Bb w' w.heap.size (List.replicate n false) ∧ Below w.heap.size w w' ∧ w'.heap.size = w.heap.size + 1 := by
  obtain ⟨i0, hi, hz0, hz1, hz2⟩ := info_parts info_bool
  have hr := run_make (P := Tryz.prog) w 129 4 i0 (.bool false) Tryz.underlying129 hi hz0 .i64 .i64 (n : Nat) (n : Nat) (by omega) (Int.le_refl _) (by rw [hz2]; omega) (by omega)
  refine ⟨_, hr, ?_, (Below.refl _ _).alloc (Nat.le_refl _) _, by simp⟩
  unfold Bb
  rw [hz1, Int.toNat_natCast, Nat.mul_one, heap_alloc_new]
  have e : (Value.bool false).cells = #[Value.bool false] := rfl
  rw [e, made_bools]
end Go.Proofs.YtkejdkajfnaieaaGreatDoor

namespace Go.Proofs.YtkejdkajfnaieaaGreatDoor
open Go.RowKit
set_option linter.unusedVariables false

/-- what is wrong with a world, or a player of it. -/
def pfault (ks : List KV) (X : WV) (p : Int) : Int := if Wd.wfault ks X = 0 then (if 0 ≤ p ∧ p < (X.gold.length : Int) then 0 else 1) else Wd.wfault ks X
/-- what is wrong with a world, or a cell of it. -/
def cfault (ks : List KV) (X : WV) (c : Int) : Int := if Wd.wfault ks X = 0 then (if 0 ≤ c ∧ c < (X.gs.length : Int) then 0 else 6) else Wd.wfault ks X
theorem pfault_zero {ks : List KV} {X : WV} {p : Int} (h : pfault ks X p = 0) : Wd.wfault ks X = 0 ∧ 0 ≤ p ∧ p < (X.gold.length : Int) := by
  unfold pfault at h
  split at h
  · rename_i h1
    split at h
    · rename_i h2; exact ⟨h1, h2⟩
    · cases h
  · rename_i h1; exact absurd h h1
theorem cfault_zero {ks : List KV} {X : WV} {c : Int} (h : cfault ks X c = 0) : Wd.wfault ks X = 0 ∧ 0 ≤ c ∧ c < (X.gs.length : Int) := by
  unfold cfault at h
  split at h
  · rename_i h1
    split at h
    · rename_i h2; exact ⟨h1, h2⟩
    · cases h
  · rename_i h1; exact absurd h h1
/-- what is seen of the first cells. -/
def seenUp (ks : List KV) (W : Nat) (X : WV) (p : Int) (n : Nat) : List Bool := (List.range X.gs.length).map (fun i => decide (i < n) && seesP ks W X.gs X.us p i)
theorem seenUp_len (ks : List KV) (W : Nat) (X : WV) (p : Int) (n : Nat) : (seenUp ks W X p n).length = X.gs.length := by unfold seenUp; simp
theorem seenUp_zero (ks : List KV) (W : Nat) (X : WV) (p : Int) : seenUp ks W X p 0 = List.replicate X.gs.length false := by
  unfold seenUp
  apply List.ext_getElem
  · simp
  · intro i h1 h2
    simp
theorem seenUp_all (ks : List KV) (W : Nat) (X : WV) (p : Int) : seenUp ks W X p X.gs.length = seenL ks W X p := by
  unfold seenUp seenL
  apply List.map_congr_left
  intro i hi
  simp [List.mem_range.1 hi]
theorem seenUp_next (ks : List KV) (W : Nat) (X : WV) (p : Int) (n : Nat) : seenUp ks W X p (n + 1) = (seenUp ks W X p n).set n (seesP ks W X.gs X.us p n) := by
  unfold seenUp
  apply List.ext_getElem
  · simp
  · intro i h1 h2
    rw [List.getElem_set]
    simp only [List.getElem_map, List.getElem_range]
    by_cases e : n = i
    · subst e; simp
    · rw [if_neg e]
      have : decide (i < n + 1) = decide (i < n) := decide_eq_decide.2 (by omega)
      rw [this]

set_option maxRecDepth 100000 in
set_option maxHeartbeats 4000000 in
theorem checkPlayer_any (vk vw : Value) (ks : List KV) (X : WV) (p : Int) (w : World) (hk : Kl w vk ks) (hb : ∀ k ∈ ks, k.b.size ≤ 9223372036854775807) (hw : Wl w vw X) :
    Calls Tryz.prog 72 #[vk, vw, .int .i64 p] w fun e w' => ∃ r, e = .returned r ∧ Er r (pfault ks X p) ∧ Below w.heap.size w w' := by
  have K : Hid (Kl w vk ks ∧ ∀ k ∈ ks, k.b.size ≤ 9223372036854775807) := ⟨hk, hb⟩
  have H : Hid (Wl w vw X) := hw
  obtain ⟨p1, q1, p2, q2, p3, q3, p4, q4, p5, q5, rfl⟩ := wl_shape9 hw
  obtain ⟨pk, qk, rfl, -⟩ := hk
  clear hb hw
  have B0 : Hid (Below w.heap.size w (w.alloc (Obj.cells #[.int .i64 X.turn, .int .i64 X.next, .int .i64 X.wide, .int .i64 X.high, .slice p1 X.gs.length q1, .slice p2 X.os.length q2, .slice p3 X.gold.length q3, .slice p4 X.us.length q4, .slice p5 X.qs.length q5] 29))) := (Below.refl _ _).alloc (Nat.le_refl _) _
  have X0 : Hid (Bw (w.alloc (Obj.cells #[.int .i64 X.turn, .int .i64 X.next, .int .i64 X.wide, .int .i64 X.high, .slice p1 X.gs.length q1, .slice p2 X.os.length q2, .slice p3 X.gold.length q3, .slice p4 X.us.length q4, .slice p5 X.qs.length q5] 29)) w.heap.size X (.slice p1 X.gs.length q1) (.slice p2 X.os.length q2) (.slice p3 X.gold.length q3) (.slice p4 X.us.length q4) (.slice p5 X.qs.length q5)) := Bw.mk' X _ _ _ _ _ rfl
  go_enter Tryz.func72, Tryz.ntmps72
  go_upto_region 1 with fail
  generalize (w.alloc (Obj.cells #[.int .i64 X.turn, .int .i64 X.next, .int .i64 X.wide, .int .i64 X.high, .slice p1 X.gs.length q1, .slice p2 X.os.length q2, .slice p3 X.gold.length q3, .slice p4 X.us.length q4, .slice p5 X.qs.length q5] 29)) = w0 at *
  obtain ⟨x0, x1, x2, x3, x4, x5, x6, x7, x8⟩ := X0.out
  go_wp2_with fail
  refine (wcheck_any _ _ ks X w0 (K.out.1.below B0.out) K.out.2 (H.out.below B0.out)).mono ?_
  rintro e w1 ⟨r, rfl, hr, hb⟩
  obtain ⟨fw, hfw⟩ : ∃ f, Wd.wfault ks X = f := ⟨_, rfl⟩
  have FW : Hid (Wd.wfault ks X = fw) := hfw
  rw [hfw] at hr
  have B1 : Hid (Below w.heap.size w w1) := B0.out.trans (hb.mono B0.out.size)
  have X1 : Hid (Bw w1 w.heap.size X (.slice p1 X.gs.length q1) (.slice p2 X.os.length q2) (.slice p3 X.gold.length q3) (.slice p4 X.us.length q4) (.slice p5 X.qs.length q5)) := X0.out.below hb X0.out.lt
  clear hb hfw x0 x1 x2 x3 x4 x5 x6 x7 x8 X0 B0
  rcases hr with ⟨rfl, rfl⟩ | ⟨hf, rfl⟩
  case inr =>
    have HF : Hid (fw ≠ 0) := hf
    clear hf
    have PF : Hid (pfault ks X p = fw) := by unfold Hid pfault; rw [FW.out, if_neg HF.out]
    go_wp2
    go_ret
    exact ⟨_, rfl, by rw [PF.out]; exact Er.no HF.out, B1.out⟩
  obtain ⟨x0, x1, x2, x3, x4, x5, x6, x7, x8⟩ := X1.out
  by_cases hi0 : p < 0
  · have PF : Hid (pfault ks X p = 1) := by unfold Hid pfault; rw [FW.out, if_pos rfl, if_neg (by omega)]
    go_wp2
    go_ret
    exact ⟨_, rfl, by rw [PF.out]; exact Er.no (by decide), B1.out⟩
  by_cases hi1 : (X.gold.length : Int) ≤ p
  · have PF : Hid (pfault ks X p = 1) := by unfold Hid pfault; rw [FW.out, if_pos rfl, if_neg (by omega)]
    go_wp2
    go_ret
    exact ⟨_, rfl, by rw [PF.out]; exact Er.no (by decide), B1.out⟩
  have PF : Hid (pfault ks X p = 0) := by unfold Hid pfault; rw [FW.out, if_pos rfl, if_pos (by omega)]
  go_wp2
  go_ret
  exact ⟨_, rfl, by rw [PF.out]; exact Er.nil, B1.out⟩

set_option maxRecDepth 100000 in
set_option maxHeartbeats 4000000 in
theorem seen_any (vk vw : Value) (ks : List KV) (X : WV) (p : Int) (Wn : Nat) (w : World) (WR : WRight ks X) (hww : X.wide = (Wn : Nat)) (hk : Kl w vk ks) (hb : ∀ k ∈ ks, k.b.size ≤ 9223372036854775807) (hw : Wl w vw X) :
    Calls Tryz.prog 74 #[vk, vw, .int .i64 p] w fun e w' => ∃ b, e = .returned (.slice (some ⟨b, 0, none⟩) X.gs.length X.gs.length) ∧ Bb w' b (seenL ks Wn X p) ∧ w.heap.size < b ∧ Below w.heap.size w w' := by
  have HR : Hid (WRight ks X ∧ X.wide = (Wn : Nat)) := ⟨WR, hww⟩
  have GL : X.gs.length ≤ 144 := by obtain ⟨_, _, -, -, G⟩ := WR.good; rw [G.gl]; exact G.pos.2
  clear WR hww
  have K : Hid (Kl w vk ks ∧ ∀ k ∈ ks, k.b.size ≤ 9223372036854775807) := ⟨hk, hb⟩
  have H : Hid (Wl w vw X) := hw
  obtain ⟨p1, q1, p2, q2, p3, q3, p4, q4, p5, q5, rfl⟩ := wl_shape9 hw
  obtain ⟨pk, qk, rfl, -⟩ := hk
  clear hb hw
  have B0 : Hid (Below w.heap.size w (w.alloc (Obj.cells #[.int .i64 X.turn, .int .i64 X.next, .int .i64 X.wide, .int .i64 X.high, .slice p1 X.gs.length q1, .slice p2 X.os.length q2, .slice p3 X.gold.length q3, .slice p4 X.us.length q4, .slice p5 X.qs.length q5] 29))) := (Below.refl _ _).alloc (Nat.le_refl _) _
  have X0 : Hid (Bw (w.alloc (Obj.cells #[.int .i64 X.turn, .int .i64 X.next, .int .i64 X.wide, .int .i64 X.high, .slice p1 X.gs.length q1, .slice p2 X.os.length q2, .slice p3 X.gold.length q3, .slice p4 X.us.length q4, .slice p5 X.qs.length q5] 29)) w.heap.size X (.slice p1 X.gs.length q1) (.slice p2 X.os.length q2) (.slice p3 X.gold.length q3) (.slice p4 X.us.length q4) (.slice p5 X.qs.length q5)) := Bw.mk' X _ _ _ _ _ rfl
  go_enter Tryz.func74, Tryz.ntmps74
  go_upto_region 1 with fail
  generalize (w.alloc (Obj.cells #[.int .i64 X.turn, .int .i64 X.next, .int .i64 X.wide, .int .i64 X.high, .slice p1 X.gs.length q1, .slice p2 X.os.length q2, .slice p3 X.gold.length q3, .slice p4 X.us.length q4, .slice p5 X.qs.length q5] 29)) = w0 at *
  have x4 := X0.out.c4
  obtain ⟨w1, hmk, hbk, hb1, hs1⟩ := makeB X.gs.length w0 (by omega)
  go_upto_region 2 with fail
  have BK : Hid (Bb w1 w0.heap.size (seenUp ks Wn X p 0)) := by unfold Hid; rw [seenUp_zero]; exact hbk
  have B1 : Hid (Below w.heap.size w w1) := B0.out.trans (hb1.mono B0.out.size)
  have X1 : Hid (Bw w1 w.heap.size X (.slice p1 X.gs.length q1) (.slice p2 X.os.length q2) (.slice p3 X.gold.length q3) (.slice p4 X.us.length q4) (.slice p5 X.qs.length q5)) := X0.out.below hb1 X0.out.lt
  obtain ⟨lb, hlb⟩ : ∃ z, w0.heap.size = z := ⟨_, rfl⟩
  have LB : Hid (w.heap.size < lb) := by unfold Hid; rw [← hlb]; exact X0.out.lt
  rw [hlb] at BK ⊢
  clear hmk hbk hb1 hs1 x4 hlb B0 X0
  go_wp2_with fail
  go_loopw [16] (fun i V => ∃ n : Nat, i = .int .i64 (n : Nat) ∧ n ≤ X.gs.length ∧ Bb V lb (seenUp ks Wn X p n) ∧ Bw V w.heap.size X (.slice p1 X.gs.length q1) (.slice p2 X.os.length q2) (.slice p3 X.gold.length q3) (.slice p4 X.us.length q4) (.slice p5 X.qs.length q5) ∧ Below w.heap.size w V) (fun i _ => X.gs.length - (intOf i).toNat)
  case atStart => exact ⟨0, rfl, Nat.zero_le _, BK.out, X1.out, B1.out⟩
  case round =>
    obtain ⟨n, rfl, hn, hbb, hx, hb⟩ := hrel
    clear BK X1 B1
    have BK : Hid (Bb wr lb (seenUp ks Wn X p n)) := hbb
    have X1 : Hid (Bw wr w.heap.size X (.slice p1 X.gs.length q1) (.slice p2 X.os.length q2) (.slice p3 X.gold.length q3) (.slice p4 X.us.length q4) (.slice p5 X.qs.length q5)) := hx
    have B1 : Hid (Below w.heap.size w wr) := hb
    clear hbb hx hb
    by_cases h0 : n = X.gs.length
    · subst h0
      go_wp2
      go_ret
      exact ⟨lb, rfl, by have := BK.out; rw [seenUp_all] at this; exact this, LB.out, B1.out⟩
    · have hnl : n < X.gs.length := by omega
      have hni : ((n : Nat) : Int) < (X.gs.length : Nat) := by omega
      have hnl2 : Hid (n < X.gs.length) := hnl
      have WN : IntKind.i64.wrap ((n : Nat) + 1 : Int) = ((n : Nat) : Int) + 1 := by rw [IntKind.wrap_i64]; omega
      obtain ⟨x0, x1, x2, x3, x4, x5, x6, x7, x8⟩ := X1.out
      go_wp2_with fail
      refine (doesSee_any _ _ ks X p Wn n wr HR.out.1 HR.out.2 hnl2.out (K.out.1.below B1.out) (H.out.below B1.out)).mono ?_
      rintro e w2 ⟨rfl, hb⟩
      have B2 : Hid (Below w.heap.size w w2) := B1.out.trans (hb.mono B1.out.size)
      have X2 : Hid (Bw w2 w.heap.size X (.slice p1 X.gs.length q1) (.slice p2 X.os.length q2) (.slice p3 X.gold.length q3) (.slice p4 X.us.length q4) (.slice p5 X.qs.length q5)) := X1.out.below hb X1.out.lt
      have BK2 : Hid (Bb w2 lb (seenUp ks Wn X p n)) := BK.out.low hb BK.out.lt
      obtain ⟨t, ht⟩ : ∃ t, seesP ks Wn X.gs X.us p n = t := ⟨_, rfl⟩
      have NX : Hid (seenUp ks Wn X p (n + 1) = (seenUp ks Wn X p n).set n t) := by unfold Hid; rw [seenUp_next, ht]
      obtain ⟨y, hy⟩ : ∃ y, (seenUp ks Wn X p n)[n]? = some y := ⟨_, List.getElem?_eq_getElem (by rw [seenUp_len]; exact hnl2.out)⟩
      have cy := BK2.out.cell hy
      have ty := BK2.out.thaw n
      rw [ht]
      clear hb ht hy x0 x1 x2 x3 x4 x5 x6 x7 x8 BK B1 X1
      have K3 : Hid (Kp lb w2 (w2.setCell ⟨lb, n, none⟩ (.bool t))) := Kp.set _ _ _
      have BK3 : Hid (Bb (w2.setCell ⟨lb, n, none⟩ (.bool t)) lb ((seenUp ks Wn X p n).set n t)) := BK2.out.set n t
      go_wp2
      generalize (w2.setCell ⟨lb, n, none⟩ (.bool t)) = w3 at *
      go_round
      case rel => exact ⟨n + 1, by go_num, by have := hnl2.out; omega, by rw [NX.out]; exact BK3.out, X2.out.kp9 K3.out (by have := LB.out; omega), K3.out.below B2.out B2.out.size (by have := LB.out; omega)⟩
      case measure => simp [intOf]; omega
/-- what Seen tells. -/
def SeenSays (ks : List KV) (X : WV) (p : Int) (w' : World) (v : Value) : Prop :=
  (pfault ks X p ≠ 0 ∧ v = .slice none 0 0) ∨ (pfault ks X p = 0 ∧ ∃ Wn : Nat, X.wide = (Wn : Nat) ∧ Bl w' v (seenL ks Wn X p))
/-- what Seers tells. -/
def SeersSays (ks : List KV) (X : WV) (c : Int) (w' : World) (v : Value) : Prop :=
  (cfault ks X c ≠ 0 ∧ v = .slice none 0 0) ∨ (cfault ks X c = 0 ∧ ∃ Wn : Nat, X.wide = (Wn : Nat) ∧ Ro w' v (seersL ks Wn X c.toNat))
end Go.Proofs.YtkejdkajfnaieaaGreatDoor

namespace Go.Proofs.YtkejdkajfnaieaaGreatDoor
open Go.RowKit

set_option maxHeartbeats 400000 in
theorem ref_root (n : Int) (w : World) (h0 : 0 ≤ n) (h1 : n ≤ 9223372036854775807) :
    Calls Tryz.prog 206 #[.int .i64 n] w fun e w' => ∃ r, Ma.Sq r n ∧ e = .returned (.int .i64 r) ∧ w' = w := by
  go_enter Tryz.func206, Tryz.ntmps206
  go_wp2
  go_loop [3, 4] (fun low high => ∃ l h : Int, low = .int .i64 l ∧ high = .int .i64 h ∧ 0 ≤ l ∧ l < h ∧ h ≤ 3037000500 ∧ l * l ≤ n ∧ n < h * h) (fun low high => (intOf high - intOf low).toNat)
  case atStart => exact ⟨0, 3037000500, rfl, rfl, by omega, by omega, by omega, by omega, by omega⟩
  case round =>
    obtain ⟨l, h, rfl, rfl, l0, lh, hh, hl, hu⟩ := hrel
    by_cases ht : 1 < h - l
    · have Hl : Hid (l * l ≤ n) := hl
      have Hu : Hid (n < h * h) := hu
      clear hl hu
      have m1 : l < (l + h) / 2 := by omega
      have m2 : (l + h) / 2 < h := by omega
      have m3 := Ma.mul_mono ((l + h) / 2) 3037000499 (by omega) (by omega)
      have m4 := Int.mul_nonneg (a := (l + h) / 2) (b := (l + h) / 2) (by omega) (by omega)
      by_cases hm : (l + h) / 2 * ((l + h) / 2) ≤ n
      · go_wp2
        go_round
        case rel => exact ⟨(l + h) / 2, h, rfl, rfl, by omega, m2, hh, hm, Hu⟩
        case measure => simp [intOf]; omega
      · go_wp2
        go_round
        case rel => exact ⟨l, (l + h) / 2, rfl, rfl, l0, m1, by omega, Hl, by omega⟩
        case measure => simp [intOf]; omega
    · have e : h = l + 1 := by omega
      subst e
      have Hl : Hid (Ma.Sq l n) := ⟨l0, hl, hu⟩
      clear hl hu
      go_wp2
      go_ret
      exact ⟨l, Hl, rfl, rfl⟩

set_option maxHeartbeats 400000 in
theorem ref_far (a b c d : Int) (w : World) (ha : In6 a) (hb : In6 b) (hc : In6 c) (hd : In6 d) :
    Calls Tryz.prog 171 #[.int .i64 a, .int .i64 b, .int .i64 c, .int .i64 d] w fun e w' => ∃ r, Ma.Sq r ((a - c) * (a - c) + (b - d) * (b - d)) ∧ e = .returned (.int .i64 r) ∧ w' = w := by
  obtain ⟨ha1, ha2⟩ := ha
  obtain ⟨hb1, hb2⟩ := hb
  obtain ⟨hc1, hc2⟩ := hc
  obtain ⟨hd1, hd2⟩ := hd
  obtain ⟨s10, s11⟩ := sqb (a - c) (by omega) (by omega)
  obtain ⟨s20, s21⟩ := sqb (b - d) (by omega) (by omega)
  go_enter Tryz.func171, Tryz.ntmps171
  go_wp2_with (go_at_call 206; refine (ref_root _ _ (by omega) (by omega)).mono ?_; rintro e w' ⟨r, hr, rfl, rfl⟩)
  go_ret
  exact ⟨r, hr, rfl, rfl⟩
end Go.Proofs.YtkejdkajfnaieaaGreatDoor

namespace Go.Proofs.YtkejdkajfnaieaaGreatDoor
open Go.RowKit
set_option linter.unusedVariables false

theorem sq_ex (n : Nat) : ∃ r : Int, Ma.Sq r n := by
  induction n with
  | zero => exact ⟨0, by decide, by decide, by decide⟩
  | succ n ih =>
    obtain ⟨r, h0, h1, h2⟩ := ih
    by_cases h : ((n + 1 : Nat) : Int) < (r + 1) * (r + 1)
    · exact ⟨r, h0, by omega, h⟩
    · have e := Ma.sq_expand (r + 1) 1
      exact ⟨r + 1, by omega, by omega, by omega⟩

set_option maxHeartbeats 1000000 in
theorem ref_apart (v : Value) (W H : Nat) (gs os : List Int) (a b : Nat) (r : Int) (w : World) (h : Fl w v W H gs os) (h1 : 0 < W) (h2 : W ≤ 12) (h3 : H ≤ 12) (ha : a < W * H) (hb : b < W * H)
    (hr : Ma.Sq r ((((a % W : Nat) : Int) - (b % W : Nat)) * (((a % W : Nat) : Int) - (b % W : Nat)) + (((a / W : Nat) : Int) - (b / W : Nat)) * (((a / W : Nat) : Int) - (b / W : Nat)))) :
    Calls Tryz.prog 124 #[v, .int .i64 (a : Nat), .int .i64 (b : Nat)] w fun e w' => e = .returned (.int .i64 r) ∧ Below w.heap.size w w' := by
  obtain ⟨u1, u2, rfl, -, -⟩ := h
  have hm : W * H ≤ 144 := Nat.mul_le_mul h2 h3
  have a1 : a / W < H := Nat.div_lt_of_lt_mul ha
  have a2 : b / W < H := Nat.div_lt_of_lt_mul hb
  have a3 := Nat.mod_lt a h1
  have a4 := Nat.mod_lt b h1
  have e1 : (a : Int) % (W : Int) = (a % W : Nat) := rfl
  have e2 : (a : Int) / (W : Int) = (a / W : Nat) := rfl
  have e3 : (b : Int) % (W : Int) = (b % W : Nat) := rfl
  have e4 : (b : Int) / (W : Int) = (b / W : Nat) := rfl
  have A1 : a ≤ 144 := by omega
  have B1 : b ≤ 144 := by omega
  generalize a % W = p at *
  generalize a / W = m at *
  generalize b % W = q at *
  generalize b / W = n at *
  have hw : ¬ (W : Int) = 0 := by omega
  have K : Hid (∀ W', Calls Tryz.prog 171 #[.int .i64 (p : Nat), .int .i64 (m : Nat), .int .i64 (q : Nat), .int .i64 (n : Nat)] W' fun e w' => e = .returned (.int .i64 r) ∧ w' = W') := fun W' =>
    (ref_far p m q n W' ⟨by omega, by omega⟩ ⟨by omega, by omega⟩ ⟨by omega, by omega⟩ ⟨by omega, by omega⟩).mono fun e w' ⟨r', h1, h2, h3⟩ => ⟨by rw [h2, Ma.sq_uniq _ _ _ h1 hr], h3⟩
  have m1 : m ≤ 144 := by omega
  have n1 : n ≤ 144 := by omega
  clear ha hb hr a1 a2 a3 a4
  generalize hw0 : w.alloc (Obj.cells #[.int .i64 (W : Nat), .int .i64 (H : Nat), u1, u2] 25) = w0
  have B0 : Hid (Below w.heap.size w w0) := by rw [← hw0]; exact (Below.refl _ _).alloc (Nat.le_refl _) _
  have f0 : w0.cell? ⟨w.heap.size, 0, none⟩ = some (.int .i64 (W : Nat)) := by rw [← hw0]; simp
  have Hw : Hid (w.alloc (Obj.cells #[.int .i64 (W : Nat), .int .i64 (H : Nat), u1, u2] 25) = w0) := hw0
  clear hw0
  go_enter Tryz.func124, Tryz.ntmps124
  go_wp2_with fail
  rw [Hw.out]
  go_quiet ((go_at_call 171; exact Calls.quiet_of_same (K.out _)))
  go_wp2
  go_ret
  exact ⟨rfl, _root_.Go.below_drewN B0.out _⟩
end Go.Proofs.YtkejdkajfnaieaaGreatDoor

namespace Go.Proofs.YtkejdkajfnaieaaGreatDoor
open Go.RowKit
set_option linter.unusedVariables false

theorem self_ge (x : Int) : 0 ≤ x * x := by
  rcases Int.le_total 0 x with h | h
  · exact Int.mul_nonneg h h
  · have e : x * x = (-x) * (-x) := by rw [Int.neg_mul_neg]
    rw [e]
    exact Int.mul_nonneg (by omega) (by omega)
theorem rapart_any (v : Value) (W H : Nat) (gs os : List Int) (a b : Nat) (w : World) (h : Fl w v W H gs os) (h1 : 0 < W) (h2 : W ≤ 12) (h3 : H ≤ 12) (ha : a < W * H) (hb : b < W * H) :
    Calls Tryz.prog 124 #[v, .int .i64 (a : Nat), .int .i64 (b : Nat)] w fun e w' => e = .returned (.int .i64 (farN W a b)) ∧ Below w.heap.size w w' := by
  have hm : W * H ≤ 144 := Nat.mul_le_mul h2 h3
  have s1 : 0 ≤ (((a % W : Nat) : Int) - ((b % W : Nat) : Int)) * (((a % W : Nat) : Int) - ((b % W : Nat) : Int)) := self_ge _
  have s2 : 0 ≤ (((a / W : Nat) : Int) - ((b / W : Nat) : Int)) * (((a / W : Nat) : Int) - ((b / W : Nat) : Int)) := self_ge _
  obtain ⟨n, hn⟩ : ∃ n : Nat, (((a % W : Nat) : Int) - ((b % W : Nat) : Int)) * (((a % W : Nat) : Int) - ((b % W : Nat) : Int)) + (((a / W : Nat) : Int) - ((b / W : Nat) : Int)) * (((a / W : Nat) : Int) - ((b / W : Nat) : Int)) = n := ⟨Int.toNat _, (Int.toNat_of_nonneg (Int.add_nonneg s1 s2)).symm⟩
  obtain ⟨r, hr⟩ := sq_ex n
  rw [← hn] at hr
  have e := farN_eq (W := W) (a := a) (b := b) h2 (by omega) (by omega) h1 hr
  rw [e]
  exact ref_apart v W H gs os a b r w h h1 h2 h3 ha hb hr
end Go.Proofs.YtkejdkajfnaieaaGreatDoor

namespace Go.Proofs.YtkejdkajfnaieaaGreatDoor
open Go.RowKit
set_option linter.unusedVariables false

set_option maxRecDepth 100000 in
set_option maxHeartbeats 2000000 in
theorem ref_line (v : Value) (W H : Nat) (gs os : List Int) (a b : Nat) (w : World) (h : Fl w v W H gs os) (h1 : 0 < W) (h2 : W ≤ 12) (h3 : H ≤ 12) (ha : a < W * H) (hb : b < W * H) :
    Calls Tryz.prog 170 #[v, .int .i64 (a : Nat), .int .i64 (b : Nat)] w fun e w' => ∃ u, e = .returned u ∧ Ro w' u (Fd.line W a b) ∧ Below w.heap.size w w' := by
  obtain ⟨u1, u2, rfl, -, -⟩ := h
  have hm : W * H ≤ 144 := Nat.mul_le_mul h2 h3
  have hs := Fd.span_le h1 h2 h3 ha hb
  have a1 : a / W < H := Nat.div_lt_of_lt_mul ha
  have a2 : b / W < H := Nat.div_lt_of_lt_mul hb
  have a3 := Nat.mod_lt a h1
  have a4 := Nat.mod_lt b h1
  have hn : Hid (max (max (a % W - b % W) (b % W - a % W)) (max (a / W - b / W) (b / W - a / W)) = Fd.span W a b) := rfl
  have HL : Hid (Fd.line W a b = if Fd.span W a b = 0 then [(a : Int)] else (List.range (Fd.span W a b + 1)).map fun k : Nat => Fd.along (Fd.span W a b) (a / W : Nat) (b / W : Nat) k * W + Fd.along (Fd.span W a b) (a % W : Nat) (b % W : Nat) k) := rfl
  have e1 : (a : Int) % (W : Int) = (a % W : Nat) := rfl
  have e2 : (a : Int) / (W : Int) = (a / W : Nat) := rfl
  have e3 : (b : Int) % (W : Int) = (b % W : Nat) := rfl
  have e4 : (b : Int) / (W : Int) = (b / W : Nat) := rfl
  generalize a % W = c at *
  generalize a / W = r at *
  generalize b % W = d at *
  generalize b / W = s at *
  generalize Fd.span W a b = n at *
  have A1 : a ≤ 144 := by omega
  have B1 : b ≤ 144 := by omega
  have c1 : c ≤ 11 := by omega
  have d1 : d ≤ 11 := by omega
  have r1 : r ≤ 11 := by omega
  have s1 : s ≤ 11 := by omega
  have hw : ¬ (W : Int) = 0 := by omega
  clear ha hb a1 a2 a3 a4
  generalize hw0 : w.alloc (Obj.cells #[.int .i64 (W : Nat), .int .i64 (H : Nat), u1, u2] 25) = w0
  have B0 : Hid (Below w.heap.size w w0) := by rw [← hw0]; exact (Below.refl _ _).alloc (Nat.le_refl _) _
  have f0 : w0.cell? ⟨w.heap.size, 0, none⟩ = some (.int .i64 (W : Nat)) := by rw [← hw0]; simp
  have Z0 : Hid (w0.heap.size = w.heap.size + 1) := by rw [← hw0]; unfold Hid; simp
  have Hw : Hid (w.alloc (Obj.cells #[.int .i64 (W : Nat), .int .i64 (H : Nat), u1, u2] 25) = w0) := hw0
  clear hw0
  go_enter Tryz.func170, Tryz.ntmps170
  go_upto_if 37 with fail
  rw [Hw.out]
  go_cut [7, 9, 11] (fun v7 v9 v11 W' => v7 = .int .i64 (c : Nat) ∧ v9 = .int .i64 (d : Nat) ∧ v11 = .int .i64 (max (c - d) (d - c) : Nat) ∧ W' = w0)
  case first =>
    by_cases q : (d : Int) - c < 0
    · go_wp2_with fail
      go_meet
      case rel => exact ⟨by first | rfl | rw [e1], by first | rfl | rw [e3], by congr 1; omega, rfl⟩
    · go_wp2_with fail
      go_meet
      case rel => exact ⟨by first | rfl | rw [e1], by first | rfl | rw [e3], by congr 1; omega, rfl⟩
  case rest =>
    obtain ⟨rfl, rfl, rfl, rfl⟩ := hcut
    clear e1 e2 e3 e4
    obtain ⟨n1, hn1⟩ : ∃ n1, max (c - d) (d - c) = n1 := ⟨_, rfl⟩
    rw [hn1]
    have N1 : Hid (max (c - d) (d - c) = n1) := hn1
    have n1l : n1 ≤ 11 := by omega
    clear hn1
    go_upto_if 44 with fail
    go_cut [12] (fun v12 W' => v12 = .int .i64 (max (r - s) (s - r) : Nat) ∧ W' = wc)
    case first =>
      by_cases q : (s : Int) - r < 0
      · go_wp2_with fail
        go_meet
        case rel => exact ⟨by congr 1; omega, rfl⟩
      · go_wp2_with fail
        go_meet
        case rel => exact ⟨by congr 1; omega, rfl⟩
    case rest =>
      obtain ⟨rfl, rfl⟩ := hcut
      obtain ⟨n2, hn2⟩ : ∃ n2, max (r - s) (s - r) = n2 := ⟨_, rfl⟩
      rw [hn2]
      have hN : max n1 n2 = n := by have := hn.out; have := N1.out; omega
      have n2l : n2 ≤ 11 := by omega
      clear hn2
      go_upto_if 49 with fail
      go_cut [11] (fun v11 W' => v11 = .int .i64 (n : Nat) ∧ W' = wc)
      case first =>
        have hN' : Hid (max n1 n2 = n) := hN
        clear hN
        by_cases q : (n1 : Int) < n2
        · go_wp2_with fail
          go_meet
          case rel => exact ⟨by congr 1; have := hN'.out; omega, rfl⟩
        · go_wp2_with fail
          go_meet
          case rel => exact ⟨by congr 1; have := hN'.out; omega, rfl⟩
      case rest =>
        obtain ⟨rfl, rfl⟩ := hcut
        clear hN n2l n1l N1 hn
        by_cases h0 : n = 0
        · subst h0
          go_wp2
          go_ret
          refine ⟨_, rfl, ?_, ?_⟩
          · have e := HL.out
            simp only [if_true] at e
            rw [e]
            have hz := B0.out.size
            exact (Ow.one (w := wc) (base := 0) _ (Nat.zero_le _) rfl).ro
          · exact B0.out.alloc B0.out.size _
        · have n0 : 0 < n := by omega
          have HL' : Hid (Fd.line W a b = (List.range (n + 1)).map fun k : Nat => Fd.along n r s k * W + Fd.along n c d k) := by
            have := HL.out
            rw [if_neg h0] at this
            exact this
          clear HL
          have hb0 : ((n : Int) == 0) = false := by rw [beq_eq_false_iff_ne]; omega
          go_wp2_with fail
          clear h0 hb0
          go_loopw [13, 14] (fun v i W' => ∃ k : Nat, k ≤ n + 1 ∧ i = .int .i64 (k : Nat) ∧ Ow W' (w.heap.size + 1) v ((List.range k).map fun k : Nat => Fd.along n r s k * W + Fd.along n c d k) ∧ W'.cell? ⟨w.heap.size, 0, none⟩ = some (.int .i64 (W : Nat)) ∧ Below w.heap.size w W' ∧ w.heap.size + 1 ≤ W'.heap.size) (fun _ i _ => n + 1 - (intOf i).toNat)
          case atStart => exact ⟨0, Nat.zero_le _, rfl, Ow.nil _ _, f0, B0, by rw [Z0.out]; exact Nat.le_refl _⟩
          case round =>
            obtain ⟨k, hk, rfl, ho, hc, hbl, hz⟩ := hrel
            clear f0
            have O : Hid (Ow wr (w.heap.size + 1) u13 ((List.range k).map fun k : Nat => Fd.along n r s k * W + Fd.along n c d k)) := ho
            have B : Hid (Below w.heap.size w wr) := hbl
            have Z : Hid (w.heap.size + 1 ≤ wr.heap.size) := hz
            have C : Hid (wr.cell? ⟨w.heap.size, 0, none⟩ = some (.int .i64 (W : Nat))) := hc
            clear ho hbl hz
            by_cases h0 : k = n + 1
            · subst h0
              have e1 : ¬ ((n : Int) + 1 ≤ n) := by omega
              go_wp2
              go_ret
              exact ⟨_, rfl, by rw [HL'.out]; exact O.out.ro, B⟩
            · have hkn : k ≤ n := by omega
              have b1 : 0 ≤ 2 * (r : Int) * n := Int.mul_nonneg (by omega) (by omega)
              have b2 : 2 * (r : Int) * n ≤ 22 * 11 := Int.mul_le_mul (by omega) (by omega) (by omega) (by omega)
              have b3 : 0 ≤ 2 * (c : Int) * n := Int.mul_nonneg (by omega) (by omega)
              have b4 : 2 * (c : Int) * n ≤ 22 * 11 := Int.mul_le_mul (by omega) (by omega) (by omega) (by omega)
              have t1 : 0 ≤ 2 * (r : Int) * n + 2 * (k : Int) * ((s : Int) - r) + n ∧ 2 * (r : Int) * n + 2 * (k : Int) * ((s : Int) - r) + n ≤ 1000 := by
                rw [Fd.along_num]
                have g1 : 0 ≤ (r : Int) * (n - k) := Int.mul_nonneg (by omega) (by omega)
                have g2 : 0 ≤ (s : Int) * k := Int.mul_nonneg (by omega) (by omega)
                have g3 : (r : Int) * (n - k) ≤ 11 * 11 := Int.mul_le_mul (by omega) (by omega) (by omega) (by omega)
                have g4 : (s : Int) * k ≤ 11 * 11 := Int.mul_le_mul (by omega) (by omega) (by omega) (by omega)
                omega
              have t2 : 0 ≤ 2 * (c : Int) * n + 2 * (k : Int) * ((d : Int) - c) + n ∧ 2 * (c : Int) * n + 2 * (k : Int) * ((d : Int) - c) + n ≤ 1000 := by
                rw [Fd.along_num]
                have g1 : 0 ≤ (c : Int) * (n - k) := Int.mul_nonneg (by omega) (by omega)
                have g2 : 0 ≤ (d : Int) * k := Int.mul_nonneg (by omega) (by omega)
                have g3 : (c : Int) * (n - k) ≤ 11 * 11 := Int.mul_le_mul (by omega) (by omega) (by omega) (by omega)
                have g4 : (d : Int) * k ≤ 11 * 11 := Int.mul_le_mul (by omega) (by omega) (by omega) (by omega)
                omega
              obtain ⟨t11, t12⟩ := t1
              obtain ⟨t21, t22⟩ := t2
              have p1 := Fd.along_ge 0 n r s k (by omega) (by omega) (by omega) (by omega) (by omega)
              have p2 := Fd.along_le 11 n r s k (by omega) (by omega) (by omega) (by omega) (by omega)
              have q1 := Fd.along_ge 0 n c d k (by omega) (by omega) (by omega) (by omega) (by omega)
              have q2 := Fd.along_le 11 n c d k (by omega) (by omega) (by omega) (by omega) (by omega)
              have ep : (2 * (r : Int) * n + 2 * (k : Int) * ((s : Int) - r) + n) / (2 * n) = Fd.along n r s k := rfl
              have eq : (2 * (c : Int) * n + 2 * (k : Int) * ((d : Int) - c) + n) / (2 * n) = Fd.along n c d k := rfl
              have S : Hid (((List.range (k + 1)).map fun k : Nat => Fd.along n r s k * W + Fd.along n c d k) = ((List.range k).map fun k : Nat => Fd.along n r s k * W + Fd.along n c d k) ++ [Fd.along n r s k * W + Fd.along n c d k]) := by
                unfold Hid
                rw [List.range_succ, List.map_append]
                rfl
              generalize Fd.along n r s k = p at *
              generalize Fd.along n c d k = q at *
              have L : Hid (((List.range k).map fun k : Nat => Fd.along n r s k * W + Fd.along n c d k).length = k) := by unfold Hid; simp
              generalize ((List.range k).map fun k : Nat => Fd.along n r s k * W + Fd.along n c d k) = xs at *
              have m1 : 0 ≤ p * (W : Int) := Int.mul_nonneg p1 (by omega)
              have m2 : p * (W : Int) ≤ 11 * 12 := Int.mul_le_mul p2 (by omega) (by omega) (by omega)
              go_wp2_with (at_builtin; refine app_int _ rfl _ _ rfl (w.heap.size + 1) _ xs rfl (O.out.alloc _) ⟨wr.heap.size, 0, none⟩ (p * W + q) rfl (by simp) (by rw [L.out]; omega) (by have := Z.out; simp; omega) ?_)
              intro g cap w5 o5 g5 a5 l5
              have O5 : Hid (Ow w5 (w.heap.size + 1) (.slice (some ⟨g, 0, none⟩) (xs.length + 1) cap) (xs ++ [p * W + q])) := o5
              have hob : ∀ k, u13.ownBlock = some k → w.heap.size + 1 ≤ k := fun k hk => (O.out.block k hk).1
              have b5 : Below (w.heap.size + 1) wr w5 := ((Below.refl _ _).alloc Z.out _).grown g5 (by have := Z.out; simp; omega) hob
              have C5 : Hid (w5.cell? ⟨w.heap.size, 0, none⟩ = some (.int .i64 (W : Nat))) := by
                unfold Hid
                rw [b5.cell (p := ⟨w.heap.size, 0, none⟩) (Nat.lt_succ_self _)]
                exact C.out
              have B5 : Hid (Below w.heap.size w w5) := B.out.trans (b5.mono (Nat.le_succ _))
              have Z5 : Hid (w.heap.size + 1 ≤ w5.heap.size) := Nat.le_trans Z.out b5.size
              clear o5 g5 a5 l5 hob b5
              go_wp2
              go_round
              case rel => exact ⟨k + 1, by omega, by go_num, by rw [S.out]; exact O5, C5, B5, Z5⟩
              case measure => simp [intOf]; omega
end Go.Proofs.YtkejdkajfnaieaaGreatDoor

namespace Go.Proofs.YtkejdkajfnaieaaGreatDoor
open Go.RowKit
set_option linter.unusedVariables false

namespace Fd
/-- does a ground hide? -/
def dark (g : Int) : Prop := g = 1 ∨ g = 3
section
variable {W H a b : Nat} {gs : List Int} (hW : 0 < W) (ha : a < W * H) (hb : b < W * H)
include hW ha hb
theorem see_no {k : Nat} (h0 : 0 < k) (h1 : k < span W a b) (hd : ∃ t g : Nat × Int, spot W a b k = t.1 ∧ gs[t.1]? = some g.2 ∧ dark g.2) : (line W a b).any (hide gs a b) = true := by
  obtain ⟨t, g, e, hgt, hd⟩ := hd
  rw [List.any_eq_true]
  refine ⟨spot W a b k, ?_, ?_⟩
  · refine List.mem_of_getElem? (i := k) ?_
    rw [line_get (by omega), if_neg (by omega)]
  · obtain ⟨i1, i2⟩ := spot_inner hW ha hb (by omega) h0 h1
    unfold hide
    rw [decide_eq_true i1, decide_eq_true i2, e, Int.toNat_natCast, List.getD_eq_getElem?_getD, hgt]
    rcases hd with hd | hd
    · simp [hd]
    · simp [hd]
theorem see_yes (hg : gs.length = W * H) (hd : ∀ k, 0 < k → k < span W a b → ∀ t : Nat, spot W a b k = t → ∀ g, gs[t]? = some g → ¬ dark g) : (line W a b).any (hide gs a b) = false := by
  rw [List.any_eq_false]
  intro x hx
  obtain ⟨k, hk, e⟩ := List.mem_iff_getElem.1 hx
  rw [line_len] at hk
  have e2 := line_get (W := W) (a := a) (b := b) (k := k) (by omega)
  rw [List.getElem?_eq_getElem (by rw [line_len]; omega), e] at e2
  injection e2 with e2
  unfold hide
  by_cases h0 : span W a b = 0
  · rw [if_pos h0] at e2
    simp [e2]
  · rw [if_neg h0] at e2
    by_cases hk0 : k = 0
    · rw [hk0, spot_zero (by omega)] at e2
      simp [e2]
    · by_cases hk1 : k = span W a b
      · rw [hk1, spot_end (by omega)] at e2
        simp [e2]
      · obtain ⟨r, c, -, -, -, -, es, el, -, -⟩ := spot_in hW ha hb (show 0 < span W a b by omega) (show k ≤ span W a b by omega)
        have hgt : r * W + c < gs.length := by rw [hg]; exact el
        have h := hd k (by omega) (by omega) _ es _ (List.getElem?_eq_getElem hgt)
        rw [e2, es, Int.toNat_natCast, List.getD_eq_getElem?_getD, List.getElem?_eq_getElem hgt]
        unfold dark at h
        simp
        omega
end
end Fd

set_option maxHeartbeats 2000000 in
theorem ref_sees (v : Value) (W H : Nat) (gs os : List Int) (a b : Nat) (s r : Int) (w : World) (h : Fl w v W H gs os) (G : Fd.Good W H gs os) (ha : a < W * H) (hb : b < W * H)
    (hr : Ma.Sq r ((((a % W : Nat) : Int) - (b % W : Nat)) * (((a % W : Nat) : Int) - (b % W : Nat)) + (((a / W : Nat) : Int) - (b / W : Nat)) * (((a / W : Nat) : Int) - (b / W : Nat)))) :
    Calls Tryz.prog 123 #[v, .int .i64 (a : Nat), .int .i64 (b : Nat), .int .i64 s] w fun e w' => e = .returned (.bool (decide (r ≤ s) && !(Fd.line W a b).any (Fd.hide gs a b))) ∧ Below w.heap.size w w' := by
  have F0 : Hid (Fl w v W H gs os) := h
  have HR : Hid (Ma.Sq r _) := hr
  have HA : Hid (a < W * H) := ha
  have HB : Hid (b < W * H) := hb
  have W1 := G.w1
  have W2 := G.w2
  have H2 := G.h2
  have gp := G.pos.2
  have GL : Hid (gs.length = W * H) := G.gl
  have gl2 : gs.length ≤ 144 := by rw [G.gl]; exact gp
  have Yes : Hid ((∀ k, 0 < k → k < Fd.span W a b → ∀ t : Nat, Fd.spot W a b k = t → ∀ g, gs[t]? = some g → ¬ Fd.dark g) → (Fd.line W a b).any (Fd.hide gs a b) = false) := Fd.see_yes W1 ha hb G.gl
  have No : Hid (∀ k, 0 < k → k < Fd.span W a b → (∃ t g : Nat × Int, Fd.spot W a b k = t.1 ∧ gs[t.1]? = some g.2 ∧ Fd.dark g.2) → (Fd.line W a b).any (Fd.hide gs a b) = true) := fun k h0 h1 hd => Fd.see_no W1 ha hb h0 h1 hd
  obtain ⟨u1, u2, rfl, ⟨a1, c, rfl, c1, c2, ca⟩, ⟨b1, d, rfl, d1, d2, cb⟩⟩ := h
  obtain ⟨y, rfl, yl, hy⟩ := ca (by intro e; have h3 := G.gl; have h4 := G.pos; rw [e] at h3; simp only [List.length_nil] at h3; omega)
  have Cy : Hid (y.block < w.heap.size ∧ ∀ i d, gs[i]? = some d → w.cell? (y.add i) = some (.int .i64 d)) := ⟨yl, hy⟩
  clear cb hy yl G ha hb hr
  go_enter Tryz.func123, Tryz.ntmps123
  go_wp2_with fail
  refine (ref_apart _ W H gs os a b r _ (F0.out.below ((Below.refl _ _).alloc (Nat.le_refl _) _)) W1 W2 H2 HA.out HB.out HR.out).mono ?_
  rintro e w1 ⟨rfl, k1⟩
  have B1 : Hid (Below w.heap.size w w1) := ((Below.refl _ _).alloc (Nat.le_refl _) _).trans (k1.mono (by simp))
  have X1 : Hid (Bf w1 w.heap.size W H (Value.slice (some y) gs.length c) (Value.slice b1 os.length d)) := (Bf.mk' (w := w) W H (Value.slice (some y) gs.length c) (Value.slice b1 os.length d) rfl).below k1 (by simp)
  have F1 : Hid (Fl w1 (.agg #[Value.int IntKind.i64 W, Value.int IntKind.i64 H, Value.slice (some y) gs.length c, Value.slice b1 os.length d]) W H gs os) := F0.out.below B1.out
  clear k1 F0
  obtain ⟨x0, x1, x2, x3⟩ := X1.out
  by_cases hrs : r ≤ s
  · have Hrs : Hid (r ≤ s) := hrs
    go_wp2_with fail
    refine (ref_line _ W H gs os a b _ F1.out W1 W2 H2 HA.out HB.out).mono ?_
    rintro e w2 ⟨u, rfl, hr2, k2⟩
    have B2 : Hid (Below w.heap.size w w2) := B1.out.trans (k2.mono B1.out.size)
    have X2 : Hid (Bf w2 w.heap.size W H (Value.slice (some y) gs.length c) (Value.slice b1 os.length d)) := X1.out.below k2 X1.out.lt
    clear k2 B1 X1 F1 x0 x1 x2 x3
    obtain ⟨xa, cu, rfl, cu1, cu2, hc⟩ := hr2
    have hl := Fd.line_len W a b
    obtain ⟨x, rfl, -, hx⟩ := hc (by intro e; rw [e] at hl; simp at hl)
    have hs := Fd.span_le W1 W2 H2 HA.out HB.out
    have Lx : Hid (∀ k, 0 < k → k < Fd.span W a b → ∃ t : Nat, Fd.spot W a b k = t ∧ t < gs.length ∧ w2.cell? (x.add k) = some (.int .i64 (t : Nat))) := by
      intro k h0 h1
      obtain ⟨r', c', -, -, -, -, es, el, -⟩ := Fd.spot_in W1 HA.out HB.out (show 0 < Fd.span W a b by omega) (show k ≤ Fd.span W a b by omega)
      refine ⟨_, es, by rw [GL.out]; exact el, hx k _ ?_⟩
      rw [Fd.line_get (by omega), if_neg (by omega), es]
    rw [hl]
    generalize Fd.span W a b = n at *
    clear hc hx hl cu2
    go_wp2_with fail
    go_loopw [11] (fun i W' => ∃ (j q : Nat), 1 ≤ j ∧ j ≤ n + 1 ∧ (j ≤ n ∨ n = 0) ∧ i = .int .i64 (j : Nat) ∧ W' = w2.drewN q ∧ ∀ k, 0 < k → k < j → ∀ t : Nat, Fd.spot W a b k = t → ∀ g, gs[t]? = some g → ¬ Fd.dark g) (fun i _ => n + 1 - (intOf i).toNat)
    case atStart => exact ⟨1, 0, Nat.le_refl _, by omega, by omega, rfl, rfl, fun k h0 h1 => by omega⟩
    case round =>
      obtain ⟨j, q, j1, j2, j3, rfl, rfl, hj⟩ := hrel
      have Hj : Hid (∀ k, 0 < k → k < j → ∀ t : Nat, Fd.spot W a b k = t → ∀ g, gs[t]? = some g → ¬ Fd.dark g) := hj
      have X3 : Bf (w2.drewN q) w.heap.size W H (Value.slice (some y) gs.length c) (Value.slice b1 os.length d) := X2.out.drewN q
      have B3 : Hid (Below w.heap.size w (w2.drewN q)) := _root_.Go.below_drewN B2.out q
      have Q : Hid (∀ n, (w2.drewN q).drewN n = w2.drewN (q + n)) := fun n => by rw [World.drewN_drewN]
      have Lq : Hid (∀ k, 0 < k → k < n → ∃ t : Nat, Fd.spot W a b k = t ∧ t < gs.length ∧ (w2.drewN q).cell? (x.add k) = some (.int .i64 (t : Nat))) := Lx.out
      obtain ⟨x0, x1, x2, x3⟩ := X3
      clear hj
      generalize w2.drewN q = w3 at *
      by_cases h0 : j < n
      · obtain ⟨t, et, tl, ct⟩ := Lq.out j (by omega) h0
        have cg : w3.cell? (y.add t) = some (.int .i64 gs[t]) := by
          rw [B3.out.cell (p := y.add t) (by rw [add_block]; exact Cy.out.1)]
          exact Cy.out.2 t _ (List.getElem?_eq_getElem tl)
        have Hg : Hid (gs[t]? = some gs[t]) := List.getElem?_eq_getElem tl
        have Et : Hid (Fd.spot W a b j = (t : Nat)) := et
        clear et
        generalize gs[t] = g at *
        have t0 : (0 : Int) ≤ (t : Int) := by omega
        have t1 : (t : Int) < (gs.length : Int) := by omega
        by_cases q1 : g = 1
        · subst q1
          have e := No.out j (by omega) h0 ⟨(t, 0), (0, 1), Et.out, Hg.out, .inl rfl⟩
          have E : Hid (_ = true) := e
          clear e
          go_wp2
          go_quiet (fail)
          go_wp2
          go_ret
          exact ⟨by rw [E.out, Bool.not_true, Bool.and_false]; rfl, _root_.Go.below_drewN B3.out _⟩
        · by_cases q3 : g = 3
          · subst q3
            have e := No.out j (by omega) h0 ⟨(t, 0), (0, 3), Et.out, Hg.out, .inr rfl⟩
            have E : Hid (_ = true) := e
            clear e
            go_wp2
            go_quiet (fail)
            go_wp2
            go_ret
            exact ⟨by rw [E.out, Bool.not_true, Bool.and_false]; rfl, _root_.Go.below_drewN B3.out _⟩
          · have q1b : (g == 1) = false := by rw [beq_eq_false_iff_ne]; exact q1
            have q3b : (g == 3) = false := by rw [beq_eq_false_iff_ne]; exact q3
            go_wp2
            go_quiet (fail)
            go_wp2
            go_round
            case rel =>
              refine ⟨j + 1, _, by omega, by omega, by omega, by go_num, Q.out _, fun k h1 h2 t' e' g' hg' => ?_⟩
              by_cases hkj : k = j
              · subst hkj
                have : t = t' := by have := Et.out; omega
                subst this
                rw [Hg.out] at hg'
                injection hg' with hg'
                subst hg'
                unfold Fd.dark
                omega
              · exact Hj.out k h1 (by omega) t' e' g' hg'
            case measure => simp [intOf]; omega
      · have e := Yes.out (fun k h1 h2 => Hj.out k h1 (by omega))
        have E : Hid (_ = false) := e
        clear e
        have hjn : ¬ ((j : Int) < (n : Int) + 1 - 1) := by omega
        go_wp2
        go_ret
        exact ⟨by first | (rw [E.out, decide_eq_true Hrs.out]; rfl) | (rw [E.out]; rfl), B3⟩
  · have hrs' : s < r := by omega
    go_wp2
    go_ret
    exact ⟨by rw [decide_eq_false (by omega), Bool.false_and]; rfl, B1⟩
end Go.Proofs.YtkejdkajfnaieaaGreatDoor

