/- The program's kinds: what is a name; what is wrong with one kind, those ahead being right. · The program's kinds: what is wrong with some; the number of a name. · Worlds: what is wrong with what one lies on, and with its numbers. · Worlds: Check. · Slices of api.Unit that the call itself makes, by append. · Slices of api.Job that the call itself makes, by append. · A world's nine cells in a block that may be written; worlds that the call itself makes. · a unit that is to be put: what is wrong, and what comes of it. · Worlds with which nothing is wrong, unit by unit and job by job; a unit that is put keeps one right. Plain mathematics. · Kinds that are right: their numbers. · api.Event: records in memory. · works.Dig as mathematics: who takes how much, who brings what. · A world's value: its five slices; its field. · Slices of api.Unit: a whole list behind another one. · Units in a block that may be written. · works.yield. -/
import Derived.Test.YteieikgkmfglaaaGreatDoorZWorksDo2
import Derived.Test.YteieikgkmfglaaaGreatDoorShelf
import Derived.Test.YteieikgkmfglaaaGreatDoorZWorksDo1
import Derived.OwnWalk
import Derived.Deep.AppendLies
import Derived.BigRegion
import Derived.Deep.DeepCutAuto
namespace Go.Proofs.YteieikgkmfglaaaGreatDoor
open Go.RowKit
set_option linter.unusedVariables false
theorem ename1 : ∀ args w, (callFunc 161 args).run Tryz.prog w = .ok (.enter 161 args) w := by
 intro args w
 go_simp
set_option maxHeartbeats 400000 in
theorem other_any (x : Nat) (w : World) :
  Calls Tryz.prog 161 #[.int .i32 (x : Int)] w fun e w' => e = .returned (.bool (Kd.otherR x)) ∧ w' = w := by
 unfold Kd.otherR
 by_cases h1 : (x : Int) < 97
 ·go_enter Tryz.func161, Tryz.ntmps161
  go_wp2
  go_ret
  exact ⟨by first | (simp; done) | (simp; omega), rfl⟩
 ·by_cases h2 : 122 < (x : Int)
  ·go_enter Tryz.func161, Tryz.ntmps161
   go_wp2
   go_ret
   exact ⟨by first | (simp; done) | (simp; omega), rfl⟩
  ·go_enter Tryz.func161, Tryz.ntmps161
   go_wp2
   go_ret
   exact ⟨by first | (simp; done) | (simp; omega), rfl⟩
theorem letters_any (s : ByteArray) (w : World) :
  Calls Tryz.prog 163 #[.string s, .func (.func 161) #[] #[]] w fun e w' => e = .returned (.bool (!(s.data.toList.all Kd.isLetter))) ∧ Below w.heap.size w w' := by
 have h := Tryz.strings_ContainsFunc_grows 161 #[] ename1 Kd.otherR s w (fun W x _ _ => (other_any x W).mono fun e w' ⟨h1, h2⟩ => ⟨h1, by rw [h2]; exact Below.refl _ _⟩)
 rw [Kd.other_name s] at h
 exact h
set_option maxHeartbeats 1000000 in
theorem isName_any (s : ByteArray) (w : World) (hb : s.size ≤ 9223372036854775807) :
  Calls Tryz.prog 146 #[.string s] w fun e w' => e = .returned (.bool (Kd.nameOk s.data.toList)) ∧ Below w.heap.size w w' := by
 have L : Hid (∀ w : World, Calls Tryz.prog 163 #[.string s, .func (.func 161) #[] #[]] w fun e w' => e = .returned (.bool (!(s.data.toList.all Kd.isLetter))) ∧ Below w.heap.size w w') := fun w => letters_any s w
 obtain ⟨l, hl⟩ : ∃ l, s.data.toList = l := ⟨_, rfl⟩
 have Ll : Hid (l.length = s.size) := by unfold Hid; rw [← hl]; rfl
 rw [hl] at L ⊢
 clear hl
 by_cases h1 : 1 ≤ s.size ∧ s.size ≤ 8
 ·obtain ⟨h2, h3⟩ := h1
  have E : Hid (Kd.nameOk l = l.all Kd.isLetter) := by
   unfold Hid Kd.nameOk
   rw [decide_eq_true (show l.length ≤ 8 by rw [Ll.out]; exact h3), Bool.true_and]
   cases l with
   | nil => have := Ll.out; simp at this; omega
   | cons a r => rfl
  generalize l.all Kd.isLetter = b at *
  rw [E.out]
  clear E
  go_enter Tryz.func146, Tryz.ntmps146
  go_wp2_with (go_at_call 162; refine (kwin_yes _ _ _ _ (by omega) (by omega)).mono ?_; rintro e w' ⟨rfl, hw⟩; obtain rfl := hw.symm)
  refine (L.out _).mono ?_
  rintro e w1 ⟨rfl, b1⟩
  have B1 : Hid (Below w.heap.size w w1) := b1
  clear b1
  go_wp2
  go_ret
  exact ⟨by simp, B1⟩
 ·have E : Hid (Kd.nameOk l = false) := by
   unfold Hid Kd.nameOk
   cases l with
   | nil => rfl
   | cons a r =>
    rw [decide_eq_false (show ¬ (a :: r).length ≤ 8 by intro h; have := Ll.out; simp at this h; omega)]
    simp
  rw [E.out]
  go_enter Tryz.func146, Tryz.ntmps146
  go_wp2_with (go_at_call 162; refine (kwin_no _ _ _ _ (by omega)).mono ?_; rintro e w' ⟨rfl, rfl⟩)
  go_ret
  exact ⟨rfl, Below.refl _ _⟩
theorem FstK.none {p : KV → Bool} {ks : List KV} {r : Int} (h : FstK p ks r) : (0 ≤ r ∧ ks.any p = true) ∨ (r = -1 ∧ ks.any p = false) := by
 rcases h with h | ⟨k, x, rfl, h1, h2, _⟩
 ·exact .inr h
 ·exact .inl ⟨by omega, List.any_eq_true.2 ⟨x, List.mem_of_getElem? h1, h2⟩⟩
set_option maxHeartbeats 2000000 in
theorem ckind_any (v : Value) (ks : List KV) (k : KV) (w : World) (h : Kl w v ks) (hb : k.b.size ≤ 9223372036854775807) :
  Calls Tryz.prog 115 #[v, k.val] w fun e w' => ∃ u, e = .returned u ∧ Er u (Kd.kindFault (ks.map KV.k) k.k) ∧ Below w.heap.size w w' := by
 have K0 : Hid (Kl w v ks) := h
 obtain ⟨a, c, rfl, c1, c2, -⟩ := h
 have NM := isName_any k.b
 have IB := inb_any k
 have KF : Hid (Kd.kindFault (ks.map KV.k) k.k = if Kd.nameOk k.b.data.toList then (if (ks.any fun a => a.k.name == k.b.data.toList) then 8 else Kd.numsFault k.ns) else 2) := by
  unfold Hid Kd.kindFault
  rw [List.any_map]
  rfl
 obtain ⟨R, hR⟩ : ∃ R, Kd.kindFault (ks.map KV.k) k.k = R := ⟨_, rfl⟩
 rw [hR] at KF ⊢
 clear hR
 obtain ⟨kb, n0, n1, n2, n3, n4, n5, n6, n7, kf, kt⟩ := k
 simp only at hb NM KF
 unfold KV.val at IB ⊢
 simp only at IB ⊢
 have NM' : Hid (∀ w : World, kb.size ≤ 9223372036854775807 → Calls Tryz.prog 146 #[.string kb] w fun e w' => e = .returned (.bool (Kd.nameOk kb.data.toList)) ∧ Below w.heap.size w w') := NM
 obtain ⟨F, hF⟩ : ∃ F, Kd.numsFault (KV.ns ⟨kb, n0, n1, n2, n3, n4, n5, n6, n7, kf, kt⟩) = F := ⟨_, rfl⟩
 rw [hF] at IB KF
 have IB' : Hid (∀ w : World, Calls Tryz.prog 148 #[.agg #[.string kb, .int .i64 n0, .int .i64 n1, .int .i64 n2, .int .i64 n3, .int .i64 n4, .int .i64 n5, .int .i64 n6, .int .i64 n7, .bool kf, .bool kt]] w fun e w' => e = .returned (.bool (decide (F = 0))) ∧ Below w.heap.size w w') := IB
 have HF : Hid (F = 0 ∨ F = 1) := by
  unfold Hid
  rw [← hF]
  unfold Kd.numsFault
  split
  ·exact .inr rfl
  ·split
   ·exact .inr rfl
   ·exact .inl rfl
 clear NM IB hF
 go_enter Tryz.func115, Tryz.ntmps115
 have B1 : Hid (Below w.heap.size w (w.alloc (Obj.cells #[.string kb, .int .i64 n0, .int .i64 n1, .int .i64 n2, .int .i64 n3, .int .i64 n4, .int .i64 n5, .int .i64 n6, .int .i64 n7, .bool kf, .bool kt] 68))) := (Below.refl _ _).alloc (Nat.le_refl _) _
 have X1 : Hid (Kc (w.alloc (Obj.cells #[.string kb, .int .i64 n0, .int .i64 n1, .int .i64 n2, .int .i64 n3, .int .i64 n4, .int .i64 n5, .int .i64 n6, .int .i64 n7, .bool kf, .bool kt] 68)) ⟨w.heap.size, 0, none⟩ ⟨kb, n0, n1, n2, n3, n4, n5, n6, n7, kf, kt⟩) := Kc.mk' ⟨kb, n0, n1, n2, n3, n4, n5, n6, n7, kf, kt⟩ rfl
 go_wp2_with fail
 generalize w.alloc (Obj.cells #[.string kb, .int .i64 n0, .int .i64 n1, .int .i64 n2, .int .i64 n3, .int .i64 n4, .int .i64 n5, .int .i64 n6, .int .i64 n7, .bool kf, .bool kt] 68) = w1 at *
 refine (NM'.out _ hb).mono ?_
 rintro e w2 ⟨rfl, b2⟩
 have B2 : Hid (Below w.heap.size w w2) := B1.out.trans (b2.mono B1.out.size)
 have X2 : Hid (Kc w2 ⟨w.heap.size, 0, none⟩ ⟨kb, n0, n1, n2, n3, n4, n5, n6, n7, kf, kt⟩) := X1.out.below b2 X1.out.lt
 clear b2 X1 NM'
 cases hn : Kd.nameOk kb.data.toList with
 | false =>
  have E : Hid (R = 2) := by unfold Hid; rw [KF.out, hn]; rfl
  clear hn
  go_wp2
  go_ret
  exact ⟨_, rfl, by rw [E.out]; exact Er.no (by decide), B2⟩
 | true =>
  have KF2 : Hid (R = if (ks.any fun a => a.k.name == kb.data.toList) then 8 else F) := by unfold Hid; rw [KF.out, hn]; rfl
  clear hn KF
  have x0 : w2.cell? ⟨w.heap.size, 0, none⟩ = some (.string kb) := X2.out.c0
  go_wp2_with fail
  refine (find_any _ ks kb _ (K0.out.below B2.out)).mono ?_
  rintro e w3 ⟨r, rfl, hr, b3⟩
  have B3 : Hid (Below w.heap.size w w3) := B2.out.trans (b3.mono B2.out.size)
  have X3 : Hid (Kc w3 ⟨w.heap.size, 0, none⟩ ⟨kb, n0, n1, n2, n3, n4, n5, n6, n7, kf, kt⟩) := X2.out.below b3 X2.out.lt
  clear b3 X2 x0
  rcases hr.none with ⟨h0, ha⟩ | ⟨h0, ha⟩
  ·have E : Hid (R = 8) := by unfold Hid; rw [KF2.out, if_pos ha]
   clear ha hr
   go_wp2
   go_ret
   exact ⟨_, rfl, by rw [E.out]; exact Er.no (by decide), B3⟩
  ·have E : Hid (R = F) := by unfold Hid; rw [KF2.out, if_neg (by rw [ha]; decide)]
   clear ha hr
   subst h0
   obtain ⟨x0, x1, x2, x3, x4, x5, x6, x7, x8, x9, x10⟩ := X3.out
   have x1 : w3.cell? ⟨w.heap.size, 1, none⟩ = some (.int .i64 n0) := x1
   have x2 : w3.cell? ⟨w.heap.size, 2, none⟩ = some (.int .i64 n1) := x2
   have x3 : w3.cell? ⟨w.heap.size, 3, none⟩ = some (.int .i64 n2) := x3
   have x4 : w3.cell? ⟨w.heap.size, 4, none⟩ = some (.int .i64 n3) := x4
   have x5 : w3.cell? ⟨w.heap.size, 5, none⟩ = some (.int .i64 n4) := x5
   have x6 : w3.cell? ⟨w.heap.size, 6, none⟩ = some (.int .i64 n5) := x6
   have x7 : w3.cell? ⟨w.heap.size, 7, none⟩ = some (.int .i64 n6) := x7
   have x8 : w3.cell? ⟨w.heap.size, 8, none⟩ = some (.int .i64 n7) := x8
   have x9 : w3.cell? ⟨w.heap.size, 9, none⟩ = some (.bool kf) := x9
   have x10 : w3.cell? ⟨w.heap.size, 10, none⟩ = some (.bool kt) := x10
   go_wp2_with fail
   refine (IB'.out _).mono ?_
   rintro e w4 ⟨rfl, b4⟩
   have B4 : Hid (Below w.heap.size w w4) := B3.out.trans (b4.mono B3.out.size)
   clear b4 IB' x0 x1 x2 x3 x4 x5 x6 x7 x8 x9 x10
   rcases HF.out with hF | hF
   ·rw [hF]
    have E2 : Hid (R = 0) := by unfold Hid; rw [E.out, hF]
    go_wp2
    go_ret
    exact ⟨_, rfl, by rw [E2.out]; exact Er.nil, B4⟩
   ·rw [hF]
    have E2 : Hid (R = 1) := by unfold Hid; rw [E.out, hF]
    go_wp2
    go_ret
    exact ⟨_, rfl, by rw [E2.out]; exact Er.no (by decide), B4⟩
end Go.Proofs.YteieikgkmfglaaaGreatDoor
namespace Go.Proofs.YteieikgkmfglaaaGreatDoor
open Go.RowKit
set_option linter.unusedVariables false
theorem Kl.take {w : World} {a : Option Addr} {n c : Nat} {ks : List KV} (h : Kl w (.slice a n c) ks) {q : Nat} (hq : q ≤ ks.length) : Kl w (.slice a q c) (ks.take q) := by
 obtain ⟨a', c', e, h1, h2, h3⟩ := h
 injection e with e1 e2 e3
 subst e1 e3
 have hl : (ks.take q).length = q := by rw [List.length_take]; omega
 refine ⟨a, c, by rw [hl], by rw [hl]; omega, h2, fun hn => ?_⟩
 obtain ⟨x, hx, hb, hk⟩ := h3 (by rintro rfl; simp at hn)
 refine ⟨x, hx, hb, fun i k hi => hk i k ?_⟩
 rw [List.getElem?_take] at hi
 split at hi
 ·exact hi
 ·cases hi
theorem kgo_at {ks : List KV} {i : Nat} {k : KV} (h : ks[i]? = some k) : Kd.kindsGo ((ks.take i).map KV.k) ((ks.drop i).map KV.k) = if Kd.kindFault ((ks.take i).map KV.k) k.k = 0 then Kd.kindsGo ((ks.take (i + 1)).map KV.k) ((ks.drop (i + 1)).map KV.k) else Kd.kindFault ((ks.take i).map KV.k) k.k := by
 obtain ⟨hi, e⟩ := List.getElem?_eq_some_iff.1 h
 rw [List.drop_eq_getElem_cons hi, e, List.map_cons, Kd.kindsGo, List.take_succ_eq_append_getElem hi, e, List.map_append]
 rfl
set_option maxHeartbeats 4000000 in
theorem kcheck_any (v : Value) (ks : List KV) (w : World) (h : Kl w v ks) (hb : ∀ k ∈ ks, k.b.size ≤ 9223372036854775807) :
  Calls Tryz.prog 83 #[v] w fun e w' => ∃ u, e = .returned u ∧ Er u (Kd.kindsFault (ks.map KV.k)) ∧ Below w.heap.size w w' := by
 have K0 : Hid (Kl w v ks) := h
 have Hb : Hid (∀ k ∈ ks, k.b.size ≤ 9223372036854775807) := hb
 obtain ⟨R, hR⟩ : ∃ R, Kd.kindsFault (ks.map KV.k) = R := ⟨_, rfl⟩
 have HR : Hid (Kd.kindsFault (ks.map KV.k) = R) := hR
 rw [hR]
 clear hR hb
 obtain ⟨a, c, rfl, c1, c2, -⟩ := h
 by_cases h8 : 8 < ks.length
 ·have E : Hid (R = 4) := by unfold Hid; rw [← HR.out]; unfold Kd.kindsFault; rw [if_pos (by simpa using h8)]
  have h8' : (8 : Int) < (ks.length : Int) := by omega
  go_enter Tryz.func83, Tryz.ntmps83
  go_wp2
  go_ret
  exact ⟨_, rfl, by rw [E.out]; exact Er.no (by decide), Below.refl _ _⟩
 ·have h8' : ¬ (8 : Int) < (ks.length : Int) := by omega
  have R1 : Hid (Kd.kindsGo [] (ks.map KV.k) = R) := by unfold Hid; rw [← HR.out]; unfold Kd.kindsFault; rw [if_neg (by simpa using h8)]
  go_enter Tryz.func83, Tryz.ntmps83
  go_wp2_with fail
  go_loopw [12] (fun j W' => ∃ q : Nat, q ≤ ks.length ∧ j = .int .i64 (q : Nat) ∧ Kd.kindsGo ((ks.take q).map KV.k) ((ks.drop q).map KV.k) = R ∧ Below w.heap.size w W') (fun j _ => ks.length - (intOf j).toNat)
  case atStart => exact ⟨0, Nat.zero_le _, rfl, R1, Below.refl _ _⟩
  case round =>
   obtain ⟨q, hq, rfl, hg, hb⟩ := hrel
   have Gq : Hid (Kd.kindsGo ((ks.take q).map KV.k) ((ks.drop q).map KV.k) = R) := hg
   have B : Hid (Below w.heap.size w wr) := hb
   clear hg hb
   by_cases hql : q = ks.length
   ·have E : Hid (R = 0) := by
     unfold Hid
     rw [← Gq.out, hql, List.drop_of_length_le (Nat.le_refl _)]
     rfl
    subst hql
    go_wp2
    go_ret
    exact ⟨_, rfl, by rw [E.out]; exact Er.nil, B⟩
   ·have hqk : q < ks.length := by omega
    obtain ⟨k, hk⟩ : ∃ k, ks[q]? = some k := ⟨_, List.getElem?_eq_getElem hqk⟩
    have At : Hid (R = if Kd.kindFault ((ks.take q).map KV.k) k.k = 0 then Kd.kindsGo ((ks.take (q + 1)).map KV.k) ((ks.drop (q + 1)).map KV.k) else Kd.kindFault ((ks.take q).map KV.k) k.k) := by
     unfold Hid
     rw [← kgo_at hk]
     exact Gq.out.symm
    have K1 := K0.out.below B.out
    have CK : Hid (∀ W : World, Below wr.heap.size wr W → Calls Tryz.prog 115 #[.slice a q c, k.val] W fun e w' => ∃ u, e = .returned u ∧ Er u (Kd.kindFault ((ks.take q).map KV.k) k.k) ∧ Below W.heap.size W w') :=
     fun W hW => ckind_any _ (ks.take q) k W ((K1.take hq).below hW) (Hb.out k (List.mem_of_getElem? hk))
    generalize Kd.kindFault ((ks.take q).map KV.k) k.k = F at *
    obtain ⟨a', c', e, -, -, h3⟩ := K1
    injection e with e1 e2 e3
    subst e1 e3
    obtain ⟨x, rfl, hx1, hx⟩ := h3 (by rintro rfl; simp at hqk)
    have Yc := hx q k hk
    clear hx h3 e2 hk
    obtain ⟨kb, n0, n1, n2, n3, n4, n5, n6, n7, kf, kt⟩ := k
    obtain ⟨q0, q1, q2, q3, q4, q5, q6, q7, q8, q9, q10⟩ := Yc
    simp only at q0 q1 q2 q3 q4 q5 q6 q7 q8 q9 q10
    unfold KV.val at CK
    simp only at CK
    go_upto_region 6 with fail
    have B1 : Hid (Below wr.heap.size wr (wr.alloc (Obj.cells #[.string kb, .int .i64 n0, .int .i64 n1, .int .i64 n2, .int .i64 n3, .int .i64 n4, .int .i64 n5, .int .i64 n6, .int .i64 n7, .bool kf, .bool kt] 68))) := (Below.refl _ _).alloc (Nat.le_refl _) _
    have X1 := Kc.mk' (w := wr) ⟨kb, n0, n1, n2, n3, n4, n5, n6, n7, kf, kt⟩ rfl
    simp only at X1
    clear q0 q1 q2 q3 q4 q5 q6 q7 q8 q9 q10
    generalize wr.alloc (Obj.cells #[.string kb, .int .i64 n0, .int .i64 n1, .int .i64 n2, .int .i64 n3, .int .i64 n4, .int .i64 n5, .int .i64 n6, .int .i64 n7, .bool kf, .bool kt] 68) = w1 at *
    obtain ⟨x0, x1, x2, x3, x4, x5, x6, x7, x8, x9, x10⟩ := X1
    simp only at x0 x1 x2 x3 x4 x5 x6 x7 x8 x9 x10
    go_region_with (go_at_call 115; refine Calls.mono (CK.out _ B1.out.drew) ?_; rintro e w2 ⟨u, rfl, hu, b2⟩; have Hu : Hid (Er u F) := hu; have B2 : Hid (Below wr.heap.size wr w2) := B1.out.drew.trans (b2.mono B1.out.drew.size); clear hu b2)
    all_goals
     have B3 : Hid (Below w.heap.size w w2) := B.out.trans (B2.out.mono B.out.size)
     clear B2 CK x0 x1 x2 x3 x4 x5 x6 x7 x8 x9 x10
     rcases Hu.out with ⟨hF, rfl⟩ | ⟨hF, rfl⟩
     ·have G2 : Hid (Kd.kindsGo ((ks.take (q + 1)).map KV.k) ((ks.drop (q + 1)).map KV.k) = R) := by
       unfold Hid
       have := At.out
       rw [if_pos hF] at this
       exact this.symm
      clear At
      go_wp2
      go_round
      case rel => exact ⟨q + 1, by omega, by go_num, G2, B3⟩
      case measure => simp [intOf]; omega
     ·have E : Hid (R = F) := by
       unfold Hid
       have := At.out
       rw [if_neg hF] at this
       exact this
      have Hf : Hid (F ≠ 0) := hF
      clear At
      go_wp2
      go_ret
      exact ⟨_, rfl, by rw [E.out]; exact Er.no Hf.out, B3⟩
end Go.Proofs.YteieikgkmfglaaaGreatDoor
namespace Go.Proofs.YteieikgkmfglaaaGreatDoor
open Go.RowKit
set_option linter.unusedVariables false
set_option maxHeartbeats 1000000 in
theorem ground_any (v f : Value) (ks : List KV) (W : WV) (w : World) (h : Kl w v ks) (hb : ∀ k ∈ ks, k.b.size ≤ 9223372036854775807) (hf : Fl w f W.wide W.high W.gs W.os) :
  Calls Tryz.prog 53 #[v, f] w fun e w' => ∃ u, e = .returned u ∧ Er u (Wd.ground ks W) ∧ Below w.heap.size w w' := by
 have K : Hid (Kl w v ks ∧ ∀ k ∈ ks, k.b.size ≤ 9223372036854775807) := ⟨h, hb⟩
 have F : Hid (Fl w f W.wide W.high W.gs W.os) := hf
 obtain ⟨u1, u2, rfl, h1, h2⟩ := hf
 clear h hb h1 h2
 go_enter Tryz.func53, Tryz.ntmps53
 go_wp2_with fail
 have B0 : Hid (Below w.heap.size w (w.alloc (Obj.cells #[.int .i64 W.wide, .int .i64 W.high, u1, u2] 25))) := (Below.refl _ _).alloc (Nat.le_refl _) _
 have X0 : Hid (Bf (w.alloc (Obj.cells #[.int .i64 W.wide, .int .i64 W.high, u1, u2] 25)) w.heap.size W.wide W.high u1 u2) := Bf.mk' W.wide W.high u1 u2 rfl
 generalize w.alloc (Obj.cells #[.int .i64 W.wide, .int .i64 W.high, u1, u2] 25) = w0 at *
 refine (kcheck_any _ ks w0 (K.out.1.below B0.out) K.out.2).mono ?_
 rintro e w1 ⟨r, rfl, hr, hb1⟩
 have B1 : Hid (Below w.heap.size w w1) := B0.out.trans (hb1.mono B0.out.size)
 have X1 : Hid (Bf w1 w.heap.size W.wide W.high u1 u2) := X0.out.below hb1 X0.out.lt
 clear hb1 X0
 rcases hr with ⟨hz, rfl⟩ | ⟨hz, rfl⟩
 ·have G : Hid (Wd.ground ks W = Fd.fault W.wide W.high W.gs W.os) := by unfold Hid Wd.ground; rw [if_pos hz]
  obtain ⟨c0, c1, c2, c3⟩ := X1.out
  clear hz
  go_wp2_with fail
  refine (check_any _ W.wide W.high W.gs W.os w1 (F.out.below B1.out)).mono ?_
  rintro e w2 ⟨r, rfl, hr, hb2⟩
  have R : Hid (Er r (Wd.ground ks W) ∧ Below w.heap.size w w2) := ⟨by rw [G.out]; exact hr, B1.out.trans (hb2.mono B1.out.size)⟩
  clear hr hb2 c0 c1 c2 c3
  go_wp2
  go_ret
  exact ⟨_, rfl, R.out.1, R.out.2⟩
 ·have G : Hid (Er (.iface 77 (.int .i64 (Kd.kindsFault (ks.map KV.k)))) (Wd.ground ks W)) := by
   unfold Hid Wd.ground; rw [if_neg hz]; exact Er.no hz
  clear hz
  go_wp2
  go_ret
  exact ⟨_, rfl, G.out, B1.out⟩
/-- what is wrong with the numbers. -/
def numsF (W : WV) : Int := if Wd.numsBad W = true then 1 else 0
theorem off_any (n : Int) (w : World) : Calls Tryz.prog 85 #[.int .i64 n] w fun e w' => e = .returned (.bool (Wd.off 0 n)) ∧ w' = w := by
 go_enter Tryz.func85, Tryz.ntmps85
 go_wp2_with fail
 refine (wwithin_any n 0 1000000 w).mono ?_
 rintro e w1 ⟨rfl, rfl⟩
 obtain ⟨b, hb⟩ : ∃ b, decide (0 ≤ n ∧ n ≤ 1000000) = b := ⟨_, rfl⟩
 have HB : Hid (Wd.off 0 n = !b) := by unfold Hid Wd.off; rw [hb]
 rw [hb]
 clear hb
 go_wp2
 go_ret
 exact ⟨by rw [HB.out]; rfl, rfl⟩
set_option maxRecDepth 100000 in
set_option maxHeartbeats 2000000 in
theorem numbad_any (v : Value) (W : WV) (w : World) (h : Wl w v W) :
  Calls Tryz.prog 54 #[v] w fun e w' => ∃ u, e = .returned u ∧ Er u (numsF W) ∧ Below w.heap.size w w' := by
 obtain ⟨u1, u2, u3, u4, u5, rfl, -, -, h3, -, -⟩ := h
 have R3 : Hid (Ro w u3 W.gold) := h3
 obtain ⟨a, c, rfl, c1, c2, -⟩ := h3
 go_enter Tryz.func54, Tryz.ntmps54
 go_upto_region 2 with fail
 have B0 : Hid (Below w.heap.size w (w.alloc (Obj.cells #[.int .i64 W.turn, .int .i64 W.next, .int .i64 W.wide, .int .i64 W.high, u1, u2, .slice a W.gold.length c, u4, u5] 29))) := (Below.refl _ _).alloc (Nat.le_refl _) _
 have X0 : Hid (Bw (w.alloc (Obj.cells #[.int .i64 W.turn, .int .i64 W.next, .int .i64 W.wide, .int .i64 W.high, u1, u2, .slice a W.gold.length c, u4, u5] 29)) w.heap.size W u1 u2 (.slice a W.gold.length c) u4 u5) := Bw.mk' W _ _ _ _ _ rfl
 generalize w.alloc (Obj.cells #[.int .i64 W.turn, .int .i64 W.next, .int .i64 W.wide, .int .i64 W.high, u1, u2, .slice a W.gold.length c, u4, u5] 29) = w0 at *
 obtain ⟨x0, x1, -, -, -, -, x6, -, -⟩ := X0.out
 obtain ⟨t, ht⟩ : ∃ t, decide (0 ≤ W.turn ∧ W.turn ≤ 1000000) = t := ⟨_, rfl⟩
 obtain ⟨n, hn⟩ : ∃ n, decide (1 ≤ W.next ∧ W.next ≤ 1000000) = n := ⟨_, rfl⟩
 obtain ⟨g, hg⟩ : ∃ g, decide (1 ≤ (W.gold.length : Int) ∧ (W.gold.length : Int) ≤ 4) = g := ⟨_, rfl⟩
 obtain ⟨m, hm⟩ : ∃ m, W.gold.any (Wd.off 0) = m := ⟨_, rfl⟩
 have HN : Hid (Wd.numsBad W = (!t || (!n || (!g || m)))) := by unfold Hid Wd.numsBad Wd.off; rw [ht, hn, hg]; unfold Wd.off at hm; rw [hm]
 go_wp2_with fail
 refine (wwithin_any W.turn 0 1000000 w0).mono ?_
 rintro e y1 ⟨rfl, hww⟩
 obtain rfl := hww.symm
 rw [ht]
 cases t with
 | false =>
  go_wp2
  go_ret
  have EB : Wd.numsBad W = true := by rw [HN.out]; rfl
  exact ⟨_, rfl, by unfold numsF; rw [EB]; exact Er.no (by decide), B0.out⟩
 | true =>
  go_wp2_with fail
  refine (wwithin_any W.next 1 1000000 _).mono ?_
  rintro e y2 ⟨rfl, hww⟩
  obtain rfl := hww.symm
  rw [hn]
  cases n with
  | false =>
   go_wp2
   go_ret
   have EB : Wd.numsBad W = true := by rw [HN.out]; rfl
   exact ⟨_, rfl, by unfold numsF; rw [EB]; exact Er.no (by decide), B0.out⟩
  | true =>
   go_wp2_with fail
   refine (wwithin_any (W.gold.length : Int) 1 4 _).mono ?_
   rintro e y3 ⟨rfl, hww⟩
   obtain rfl := hww.symm
   rw [hg]
   cases g with
   | false =>
    go_wp2
    go_ret
    have EB : Wd.numsBad W = true := by rw [HN.out]; rfl
    exact ⟨_, rfl, by unfold numsF; rw [EB]; exact Er.no (by decide), B0.out⟩
   | true =>
    go_wp2_with fail
    refine (hasf_any 85 (by intro args w; go_simp) _ #[] W.gold (Wd.off 0) _ (R3.out.below B0.out) (fun q x _ => (off_any x _).mono fun e w' ⟨h1, h2⟩ => ⟨h1, q, h2⟩)).mono ?_
    rintro e y4 ⟨rfl, q, hq⟩
    have BQ : Hid (Below w.heap.size w y4) := by rw [hq]; exact B0.out.trans ⟨rfl, rfl, rfl, Nat.le_refl _, fun _ _ => rfl⟩
    clear hq
    rw [hm]
    cases m with
    | false =>
     go_wp2
     go_ret
     have EB : Wd.numsBad W = false := by rw [HN.out]; rfl
     exact ⟨_, rfl, by unfold numsF; rw [EB]; exact Er.nil, BQ.out⟩
    | true =>
     go_wp2
     go_ret
     have EB : Wd.numsBad W = true := by rw [HN.out]; rfl
     exact ⟨_, rfl, by unfold numsF; rw [EB]; exact Er.no (by decide), BQ.out⟩
end Go.Proofs.YteieikgkmfglaaaGreatDoor
namespace Go.Proofs.YteieikgkmfglaaaGreatDoor
open Go.RowKit
set_option linter.unusedVariables false
theorem units_all {ks : List KV} {W : WV} : ∀ (l : List UnV) (i : Nat), Wd.unitsGo ks W i l = 0 → ∀ u ∈ l, ∃ j, Wd.unitFault ks W j u = 0
 | [], _, _, u, hu => by cases hu
 | x :: l, i, h, u, hu => by
  unfold Wd.unitsGo at h
  split at h
  ·rename_i h0
   rcases List.mem_cons.1 hu with rfl | hu
   ·exact ⟨i, h0⟩
   ·exact units_all l (i + 1) h u hu
  ·rename_i h0
   exact absurd h h0
theorem fault_kind {ks : List KV} {W : WV} {j : Nat} {u : UnV} (h : Wd.unitFault ks W j u = 0) : 0 ≤ u.kind ∧ u.kind < (ks.length : Int) := by
 have : Wd.has ks.length u.kind = true := by
  cases hh : Wd.has ks.length u.kind with
  | true => rfl
  | false =>
   unfold Wd.unitFault at h
   rw [hh] at h
   split at h
   ·cases h
   ·split at h
    ·cases h
    ·rw [if_pos (by simp)] at h
     cases h
 exact of_decide_eq_true this
theorem kinds_len {ks : List KV} (h : Kd.kindsFault (ks.map KV.k) = 0) : ks.length ≤ 8 := by
 unfold Kd.kindsFault at h
 split at h
 ·cases h
 ·rename_i h8
  rw [List.length_map] at h8
  omega
theorem nums_ok {W : WV} (h : Wd.numsBad W = false) : Wd.off 1 W.next = false ∧ W.gold.length ≤ 4 := by
 unfold Wd.numsBad at h
 simp only [Bool.or_eq_false_iff] at h
 obtain ⟨-, h1, h2, -⟩ := h
 refine ⟨h1, ?_⟩
 have : decide (1 ≤ (W.gold.length : Int) ∧ (W.gold.length : Int) ≤ 4) = true := by
  cases hh : decide (1 ≤ (W.gold.length : Int) ∧ (W.gold.length : Int) ≤ 4) with
  | true => rfl
  | false => rw [hh] at h2; cases h2
 have := of_decide_eq_true this
 omega
set_option maxRecDepth 100000 in
set_option maxHeartbeats 16000000 in
theorem wcheck_any (vk vw : Value) (ks : List KV) (W : WV) (w : World) (hk : Kl w vk ks) (hb : ∀ k ∈ ks, k.b.size ≤ 9223372036854775807) (hw : Wl w vw W) :
  Calls Tryz.prog 31 #[vk, vw] w fun e w' => ∃ r, e = .returned r ∧ Er r (Wd.wfault ks W) ∧ Below w.heap.size w w' := by
 have K : Hid (Kl w vk ks ∧ ∀ k ∈ ks, k.b.size ≤ 9223372036854775807) := ⟨hk, hb⟩
 have H : Hid (Wl w vw W) := hw
 obtain ⟨u1, u2, u3, u4, u5, rfl, r1, r2, r3, r4, r5⟩ := hw
 obtain ⟨p1, q1, rfl, -⟩ := r1
 obtain ⟨p2, q2, rfl, -⟩ := r2
 obtain ⟨p3, q3, rfl, -⟩ := r3
 obtain ⟨p4, q4, rfl, -⟩ := r4
 obtain ⟨p5, q5, rfl, k51, k52, k53⟩ := r5
 have JC : Hid (W.qs ≠ [] → ∃ x, p5 = some x ∧ x.block < w.heap.size ∧ ∀ (i : Nat) k, W.qs[i]? = some k → Jbc w (x.add (i * 4)) k) := k53
 clear hk hb k53
 go_enter Tryz.func31, Tryz.ntmps31
 go_wp2_with fail
 have B0 : Hid (Below w.heap.size w (w.alloc (Obj.cells #[.int .i64 W.turn, .int .i64 W.next, .int .i64 W.wide, .int .i64 W.high, .slice p1 W.gs.length q1, .slice p2 W.os.length q2, .slice p3 W.gold.length q3, .slice p4 W.us.length q4, .slice p5 W.qs.length q5] 29))) := (Below.refl _ _).alloc (Nat.le_refl _) _
 have X0 : Hid (Bw (w.alloc (Obj.cells #[.int .i64 W.turn, .int .i64 W.next, .int .i64 W.wide, .int .i64 W.high, .slice p1 W.gs.length q1, .slice p2 W.os.length q2, .slice p3 W.gold.length q3, .slice p4 W.us.length q4, .slice p5 W.qs.length q5] 29)) w.heap.size W (.slice p1 W.gs.length q1) (.slice p2 W.os.length q2) (.slice p3 W.gold.length q3) (.slice p4 W.us.length q4) (.slice p5 W.qs.length q5)) := Bw.mk' W _ _ _ _ _ rfl
 generalize (w.alloc (Obj.cells #[.int .i64 W.turn, .int .i64 W.next, .int .i64 W.wide, .int .i64 W.high, .slice p1 W.gs.length q1, .slice p2 W.os.length q2, .slice p3 W.gold.length q3, .slice p4 W.us.length q4, .slice p5 W.qs.length q5] 29)) = w0 at *
 refine (ground_any _ _ ks W w0 (K.out.1.below B0.out) K.out.2 ⟨_, _, rfl, (H.out.below B0.out).slices.1, (H.out.below B0.out).slices.2.1⟩).mono ?_
 rintro e w1 ⟨r, rfl, hr, hb1⟩
 have B1 : Hid (Below w.heap.size w w1) := B0.out.trans (hb1.mono B0.out.size)
 have X1 : Hid (Bw w1 w.heap.size W (.slice p1 W.gs.length q1) (.slice p2 W.os.length q2) (.slice p3 W.gold.length q3) (.slice p4 W.us.length q4) (.slice p5 W.qs.length q5)) := X0.out.below hb1 X0.out.lt
 clear hb1 X0 B0
 rcases hr with ⟨hz, rfl⟩ | ⟨hz, rfl⟩
 ·have HZ : Hid (Wd.ground ks W = 0) := hz
  obtain ⟨x0, x1, x2, x3, x4, x5, x6, x7, x8⟩ := X1.out
  clear hz
  go_wp2_with fail
  refine (numbad_any _ W w1 (H.out.below B1.out)).mono ?_
  rintro e w2 ⟨r, rfl, hr, hb2⟩
  have B2 : Hid (Below w.heap.size w w2) := B1.out.trans (hb2.mono B1.out.size)
  have X2 : Hid (Bw w2 w.heap.size W (.slice p1 W.gs.length q1) (.slice p2 W.os.length q2) (.slice p3 W.gold.length q3) (.slice p4 W.us.length q4) (.slice p5 W.qs.length q5)) := X1.out.below hb2 X1.out.lt
  clear hb2 X1 B1 x0 x1 x2 x3 x4 x5 x6 x7 x8
  rcases hr with ⟨hn, rfl⟩ | ⟨hn, rfl⟩
  ·have HN : Hid (Wd.numsBad W = false) := by
    unfold Hid
    unfold numsF at hn
    cases h : Wd.numsBad W with
    | false => rfl
    | true => rw [h] at hn; cases hn
   clear hn
   have x7 := X2.out.c7
   by_cases h40 : 40 < W.us.length
   ·have F4 : Hid (Wd.wfault ks W = 4) := by unfold Hid Wd.wfault; rw [if_neg (by rw [HZ.out]; simp), HN.out, if_neg (by simp), if_pos h40]
    have h40i : (40 : Int) < (W.us.length : Int) := by omega
    go_wp2
    go_ret
    exact ⟨_, rfl, by rw [F4.out]; exact Er.no (by decide), B2.out⟩
   ·have h40i : ¬ (40 : Int) < (W.us.length : Int) := by omega
    have KL : Hid (ks.length ≤ 8) := by
     have := HZ.out
     unfold Wd.ground at this
     split at this
     ·rename_i h0
      exact kinds_len h0
     ·rename_i h0
      exact absurd this h0
    have GD : Hid (∃ Wn Hn : Nat, W.wide = Wn ∧ W.high = Hn ∧ Fd.Good Wn Hn W.gs W.os) := by
     have := HZ.out
     unfold Wd.ground at this
     split at this
     ·exact Fd.fault_zero this
     ·rename_i h0
      exact absurd this h0
    obtain ⟨Wn, Hn, hWn, hHn, hG⟩ := GD.out
    have GG : Hid (W.wide = Wn ∧ W.high = Hn ∧ Fd.Good Wn Hn W.gs W.os) := ⟨hWn, hHn, hG⟩
    have US : Hid (W.us.length ≤ 40) := by unfold Hid; omega
    have WF : Hid (Wd.unitsGo ks W 0 W.us ≠ 0 → Wd.wfault ks W = Wd.unitsGo ks W 0 W.us) := fun hne => by unfold Wd.wfault; rw [if_neg (by rw [HZ.out]; simp), HN.out, if_neg (by simp), if_neg h40, if_pos hne]
    have WG : Hid (Wd.unitsGo ks W 0 W.us = 0 → Wd.wfault ks W = if 12 < W.qs.length then 4 else Wd.jobsGo ks W W.qs) := fun h0 => by unfold Wd.wfault; rw [if_neg (by rw [HZ.out]; simp), HN.out, if_neg (by simp), if_neg h40, if_neg (by rw [h0]; simp)]
    clear hWn hHn hG h40
    go_wp2
    clear x7
    go_loopw [32] (fun iv V => ∃ i : Nat, i ≤ W.us.length ∧ iv = .int .i64 (i : Nat) ∧ Wd.unitsGo ks W i (W.us.drop i) = Wd.unitsGo ks W 0 W.us ∧ Bw V w.heap.size W (.slice p1 W.gs.length q1) (.slice p2 W.os.length q2) (.slice p3 W.gold.length q3) (.slice p4 W.us.length q4) (.slice p5 W.qs.length q5) ∧ Below w.heap.size w V) (fun iv _ => W.us.length - (intOf iv).toNat)
    case atStart => exact ⟨0, Nat.zero_le _, rfl, rfl, X2.out, B2.out⟩
    case round =>
     obtain ⟨i, hi, rfl, hgo, hX, hB⟩ := hrel
     have XR : Hid (Bw wr w.heap.size W (.slice p1 W.gs.length q1) (.slice p2 W.os.length q2) (.slice p3 W.gold.length q3) (.slice p4 W.us.length q4) (.slice p5 W.qs.length q5)) := hX
     have BR : Hid (Below w.heap.size w wr) := hB
     have GO : Hid (Wd.unitsGo ks W i (W.us.drop i) = Wd.unitsGo ks W 0 W.us) := hgo
     clear hX hB hgo X2 B2
     by_cases hil : i = W.us.length
     ·have U0 : Hid (Wd.unitsGo ks W 0 W.us = 0) := by unfold Hid; rw [← GO.out, hil, List.drop_length]; rfl
      have x8 := XR.out.c8
      subst hil
      clear hi
      by_cases h12 : 12 < W.qs.length
      ·have F4 : Hid (Wd.wfault ks W = 4) := by unfold Hid; rw [WG.out U0.out, if_pos h12]
       have h12i : (12 : Int) < (W.qs.length : Int) := by omega
       go_wp2
       go_ret
       exact ⟨_, rfl, by rw [F4.out]; exact Er.no (by decide), BR.out⟩
      ·have h12i : ¬ (12 : Int) < (W.qs.length : Int) := by omega
       have FJ : Hid (Wd.wfault ks W = Wd.jobsGo ks W W.qs) := by unfold Hid; rw [WG.out U0.out, if_neg h12]
       have ALL : Hid (∀ u ∈ W.us, 0 ≤ u.kind ∧ u.kind < (ks.length : Int)) := fun u hu => by
        obtain ⟨j, hj⟩ := units_all W.us 0 U0.out u hu
        exact fault_kind hj
       go_wp2
       clear x8
       go_loopw [51] (fun iv V => ∃ i : Nat, i ≤ W.qs.length ∧ iv = .int .i64 (i : Nat) ∧ Wd.jobsGo ks W (W.qs.drop i) = Wd.jobsGo ks W W.qs ∧ Bw V w.heap.size W (.slice p1 W.gs.length q1) (.slice p2 W.os.length q2) (.slice p3 W.gold.length q3) (.slice p4 W.us.length q4) (.slice p5 W.qs.length q5) ∧ Below w.heap.size w V) (fun iv _ => W.qs.length - (intOf iv).toNat)
       case atStart => exact ⟨0, Nat.zero_le _, rfl, rfl, XR.out, BR.out⟩
       case round =>
        obtain ⟨i, hi, rfl, hgo, hX, hB⟩ := hrel
        have XR : Hid (Bw wr w.heap.size W (.slice p1 W.gs.length q1) (.slice p2 W.os.length q2) (.slice p3 W.gold.length q3) (.slice p4 W.us.length q4) (.slice p5 W.qs.length q5)) := hX
        have BR : Hid (Below w.heap.size w wr) := hB
        have GO : Hid (Wd.jobsGo ks W (W.qs.drop i) = Wd.jobsGo ks W W.qs) := hgo
        clear hX hB hgo
        by_cases hil : i = W.qs.length
        ·have J0 : Hid (Wd.wfault ks W = 0) := by unfold Hid; rw [FJ.out, ← GO.out, hil, List.drop_length]; rfl
         subst hil
         clear hi
         go_wp2
         go_ret
         exact ⟨_, rfl, by rw [J0.out]; exact Er.nil, BR.out⟩
        ·have hlt : i < W.qs.length := by omega
         have hli : (i : Int) < (W.qs.length : Int) := by omega
         obtain ⟨j, hj⟩ : ∃ j, W.qs[i]? = some j := ⟨_, List.getElem?_eq_getElem hlt⟩
         obtain ⟨x, rfl, hx, hcell⟩ := JC.out (by intro e; rw [e] at hlt; simp at hlt)
         obtain ⟨d0, d1, d2, d3⟩ := (hcell i j hj).below BR.out (by rw [add_block]; exact hx)
         have GA : Hid (Wd.jobsGo ks W W.qs = if Wd.jobFault ks W j = 0 then Wd.jobsGo ks W (W.qs.drop (i + 1)) else Wd.jobFault ks W j) := by unfold Hid; rw [← GO.out, Wd.jobsGo_at hj]
         obtain ⟨x0, x1, x2, x3, x4, x5, x6, x7, x8⟩ := XR.out
         clear hcell hx hj hil
         go_upto_region 21 with fail
         have BA : Hid (Below wr.heap.size wr (wr.alloc (Obj.cells #[.int .i64 j.player, .int .i64 j.unit, .int .i64 j.kind, .int .i64 j.left] 71))) := (Below.refl _ _).alloc (Nat.le_refl _) _
         have J1 : Hid (Jbc (wr.alloc (Obj.cells #[.int .i64 j.player, .int .i64 j.unit, .int .i64 j.kind, .int .i64 j.left] 71)) ⟨wr.heap.size, 0, none⟩ j) := Jbc.mk' j rfl
         generalize (wr.alloc (Obj.cells #[.int .i64 j.player, .int .i64 j.unit, .int .i64 j.kind, .int .i64 j.left] 71)) = w5 at *
         have B5 : Hid (Below w.heap.size w w5) := BR.out.trans (BA.out.mono BR.out.size)
         have X5 : Hid (Bw w5 w.heap.size W (.slice p1 W.gs.length q1) (.slice p2 W.os.length q2) (.slice p3 W.gold.length q3) (.slice p4 W.us.length q4) (.slice (some x) W.qs.length q5)) := XR.out.below BA.out XR.out.lt
         clear d0 d1 d2 d3 x0 x1 x2 x3 x4 x5 x6 x7 x8 XR BR BA
         obtain ⟨x0, x1, x2, x3, x4, x5, x6, x7, x8⟩ := X5.out
         obtain ⟨j0, j1, j2, j3⟩ := J1.out
         generalize wr.heap.size = zj at *
         simp only [Nat.zero_add] at j1 j2 j3
         go_wp2_with fail
         refine (job_any _ _ ks W j w5 (K.out.1.below B5.out) (H.out.below B5.out) US.out KL.out ALL.out).mono ?_
         rintro e w6 ⟨r, rfl, hr, hb6⟩
         have B6 : Hid (Below w.heap.size w w6) := B5.out.trans (hb6.mono B5.out.size)
         have X6 : Hid (Bw w6 w.heap.size W (.slice p1 W.gs.length q1) (.slice p2 W.os.length q2) (.slice p3 W.gold.length q3) (.slice p4 W.us.length q4) (.slice (some x) W.qs.length q5)) := X5.out.below hb6 X5.out.lt
         clear hb6 x0 x1 x2 x3 x4 x5 x6 x7 x8 j0 j1 j2 j3 X5 B5 J1
         rcases hr with ⟨h0, rfl⟩ | ⟨h0, rfl⟩
         ·have G2 : Hid (Wd.jobsGo ks W (W.qs.drop (i + 1)) = Wd.jobsGo ks W W.qs) := by unfold Hid; rw [GA.out, if_pos h0]
          clear h0
          go_wp2
          go_roundw
          case rel => exact ⟨i + 1, by omega, rfl, G2.out, X6.out, B6.out⟩
          case measure => simp [intOf]; omega
         ·have FB : Hid (Wd.wfault ks W = Wd.jobFault ks W j) := by unfold Hid; rw [FJ.out, GA.out, if_neg h0]
          have H0 : Hid (Wd.jobFault ks W j ≠ 0) := h0
          clear h0
          go_wp2
          go_ret
          exact ⟨_, rfl, by rw [FB.out]; exact Er.no H0.out, B6.out⟩
     ·have hlt : i < W.us.length := by omega
      have hli : (i : Int) < (W.us.length : Int) := by omega
      obtain ⟨u, hu⟩ : ∃ u, W.us[i]? = some u := ⟨_, List.getElem?_eq_getElem hlt⟩
      have HU : Hid (W.us[i]? = some u) := hu
      have GA : Hid (Wd.unitsGo ks W 0 W.us = if Wd.unitFault ks W i u = 0 then Wd.unitsGo ks W (i + 1) (W.us.drop (i + 1)) else Wd.unitFault ks W i u) := by unfold Hid; rw [← GO.out, Wd.unitsGo_at hu]
      obtain ⟨x0, x1, x2, x3, x4, x5, x6, x7, x8⟩ := XR.out
      clear hu hil
      go_wp2_with fail
      refine (unit_any _ _ ks W Wn Hn i u wr (K.out.1.below BR.out) (H.out.below BR.out) GG.out.1 GG.out.2.1 GG.out.2.2 HU.out (nums_ok HN.out).1 US.out KL.out (nums_ok HN.out).2).mono ?_
      rintro e w6 ⟨r, rfl, hr, hb6⟩
      have B6 : Hid (Below w.heap.size w w6) := BR.out.trans (hb6.mono BR.out.size)
      have X6 : Hid (Bw w6 w.heap.size W (.slice p1 W.gs.length q1) (.slice p2 W.os.length q2) (.slice p3 W.gold.length q3) (.slice p4 W.us.length q4) (.slice p5 W.qs.length q5)) := XR.out.below hb6 XR.out.lt
      clear hb6 x0 x1 x2 x3 x4 x5 x6 x7 x8 XR BR
      rcases hr with ⟨h0, rfl⟩ | ⟨h0, rfl⟩
      ·have G2 : Hid (Wd.unitsGo ks W (i + 1) (W.us.drop (i + 1)) = Wd.unitsGo ks W 0 W.us) := by unfold Hid; rw [GA.out, if_pos h0]
       clear h0
       go_wp2
       go_roundw
       case rel => exact ⟨i + 1, by omega, rfl, G2.out, X6.out, B6.out⟩
       case measure => simp [intOf]; omega
      ·have EU : Wd.unitsGo ks W 0 W.us = Wd.unitFault ks W i u := by rw [GA.out, if_neg h0]
       have FB : Hid (Wd.wfault ks W = Wd.unitFault ks W i u) := by unfold Hid; rw [WF.out (by rw [EU]; exact h0), EU]
       have H0 : Hid (Wd.unitFault ks W i u ≠ 0) := h0
       clear h0 EU
       go_wp2
       go_ret
       exact ⟨_, rfl, by rw [FB.out]; exact Er.no H0.out, B6.out⟩
  ·have F1 : Hid (Wd.wfault ks W = numsF W) := by
    unfold Hid Wd.wfault
    unfold numsF at hn ⊢
    have hbad : Wd.numsBad W = true := by
     cases h : Wd.numsBad W with
     | true => rfl
     | false => rw [h] at hn; exact absurd rfl hn
    rw [if_neg (by rw [HZ.out]; simp), hbad]
    rfl
   have H0 : Hid (numsF W ≠ 0) := hn
   clear hn
   go_wp2
   go_ret
   exact ⟨_, rfl, by rw [F1.out]; exact Er.no H0.out, B2.out⟩
 ·have F1 : Hid (Wd.wfault ks W = Wd.ground ks W) := by unfold Hid Wd.wfault; rw [if_pos hz]
  have H0 : Hid (Wd.ground ks W ≠ 0) := hz
  clear hz
  go_wp2
  go_ret
  exact ⟨_, rfl, by rw [F1.out]; exact Er.no H0.out, B1.out⟩
end Go.Proofs.YteieikgkmfglaaaGreatDoor
namespace Go.Proofs.YteieikgkmfglaaaGreatDoor
open Go.RowKit
set_option linter.unusedVariables false
theorem info_un : (Tryz.prog.info? 44).map (fun i => (i.zero, i.size, i.bytes)) = some (some (.agg #[.int .i64 0, .int .i64 0, .int .i64 0, .int .i64 0, .int .i64 0, .int .i64 0, .int .i64 0, .int .i64 0]), 8, 64) := by kernel_rfl
def UnV.cs (k : UnV) : List Value := [.int .i64 k.id, .int .i64 k.player, .int .i64 k.kind, .int .i64 k.at_, .int .i64 k.life, .int .i64 k.load, .int .i64 k.task, .int .i64 k.goal]
theorem flat_un : ∀ (ks : List UnV) (i j : Nat) (k : UnV), ks[i]? = some k → j < 8 → (ks.flatMap UnV.cs)[i * 8 + j]? = k.cs[j]?
 | [], i, j, k, h, _ => by simp at h
 | x :: ks, 0, j, k, h, hj => by
  simp at h
  subst h
  rw [List.flatMap_cons, List.getElem?_append_left (by simp [UnV.cs]; omega)]
  simp
 | x :: ks, i + 1, j, k, h, hj => by
  rw [List.flatMap_cons, List.getElem?_append_right (by simp [UnV.cs]; omega)]
  have : (i + 1) * 8 + j - (UnV.cs x).length = i * 8 + j := by simp [UnV.cs]; omega
  rw [this]
  exact flat_un ks i j k (by simpa using h) hj
/-- v is a slice of them, in a block of its own from base on. -/
def Uno (w : World) (base : Nat) (v : Value) (ks : List UnV) : Prop := w.ownsRow base 44 8 v ks.length (ks.flatMap UnV.cs)
theorem Uno.nil (w : World) (base : Nat) : Uno w base (.slice none 0 0) [] := World.ownsRow_nil _ _ _ _
theorem Uno.below {w w' : World} {base : Nat} {v : Value} {ks : List UnV} (h : Uno w base v ks) (hb : Below w.heap.size w w') : Uno w' base v ks :=
 World.ownsRow.kept h (row := none) ⟨hb.os, hb.tape, hb.output, hb.size, fun k hk _ => hb.block k hk⟩ (by cases v.ownBlock <;> simp)
theorem Uno.alloc {w : World} {base : Nat} {v : Value} {ks : List UnV} (h : Uno w base v ks) (o : Obj) : Uno (w.alloc o) base v ks := World.ownsRow.alloc h o
theorem Uno.block {w : World} {base : Nat} {v : Value} {ks : List UnV} (h : Uno w base v ks) : ∀ k, v.ownBlock = some k → base ≤ k ∧ k < w.heap.size := World.ownsRow.lt h
theorem Uno.mono {w : World} {base base' : Nat} {v : Value} {ks : List UnV} (h : Uno w base v ks) (hb : base' ≤ base) : Uno w base' v ks := by
 refine ⟨h.1, ?_⟩
 rcases h.2 with h1 | ⟨g, cap, cur, h1, h2, h3⟩
 ·exact .inl h1
 ·exact .inr ⟨g, cap, cur, h1, Nat.le_trans hb h2, h3⟩
theorem Uno.l {w : World} {base : Nat} {v : Value} {ks : List UnV} (h : Uno w base v ks) : Unl w v ks := by
 rcases h.2 with ⟨hv, h0⟩ | ⟨g, cap, cur, hv, hb, hg, h1, h2, h3, h4⟩
 ·exact ⟨none, 0, by rw [hv, h0], by omega, by omega, fun hn => absurd (List.length_eq_zero_iff.1 h0) hn⟩
 ·refine ⟨_, cap, hv, h1, by unfold maxLen at h2; omega, fun _ => ⟨_, rfl, lt_of_block hg, fun i k hi => ?_⟩⟩
  have hil : i < ks.length := (List.getElem?_eq_some_iff.1 hi).1
  have h5 : w.ownsRow base 44 8 (.slice (some ⟨g, 0, none⟩) ks.length cap) ks.length (ks.flatMap UnV.cs) := by rw [← hv]; exact h
  have hc : ∀ j u, j < 8 → k.cs[j]? = some u → w.cell? ⟨g, i * 8 + j, none⟩ = some u := fun j u hj hu => by
   rw [h5.cellAt (i * 8 + j) (by omega), flat_un ks i j k hi hj, hu]
  rw [Addr.add_lit, Nat.zero_add]
  exact ⟨hc 0 _ (by decide) rfl, hc 1 _ (by decide) rfl, hc 2 _ (by decide) rfl, hc 3 _ (by decide) rfl, hc 4 _ (by decide) rfl, hc 5 _ (by decide) rfl, hc 6 _ (by decide) rfl, hc 7 _ (by decide) rfl⟩
theorem Uno.len {w : World} {base : Nat} {v : Value} {ks : List UnV} (h : Uno w base v ks) : ∃ a c, v = .slice a ks.length c := by
 obtain ⟨a, c, h1, -⟩ := h.l
 exact ⟨a, c, h1⟩
end Go.Proofs.YteieikgkmfglaaaGreatDoor
namespace Go.Proofs.YteieikgkmfglaaaGreatDoor
open Go.RowKit
set_option linter.unusedVariables false
theorem info_jb : (Tryz.prog.info? 71).map (fun i => (i.zero, i.size, i.bytes)) = some (some (.agg #[.int .i64 0, .int .i64 0, .int .i64 0, .int .i64 0]), 4, 32) := by kernel_rfl
def JbV.cs (k : JbV) : List Value := [.int .i64 k.player, .int .i64 k.unit, .int .i64 k.kind, .int .i64 k.left]
theorem flat_jb : ∀ (ks : List JbV) (i j : Nat) (k : JbV), ks[i]? = some k → j < 4 → (ks.flatMap JbV.cs)[i * 4 + j]? = k.cs[j]?
 | [], i, j, k, h, _ => by simp at h
 | x :: ks, 0, j, k, h, hj => by
  simp at h
  subst h
  rw [List.flatMap_cons, List.getElem?_append_left (by simp [JbV.cs]; omega)]
  simp
 | x :: ks, i + 1, j, k, h, hj => by
  rw [List.flatMap_cons, List.getElem?_append_right (by simp [JbV.cs]; omega)]
  have : (i + 1) * 4 + j - (JbV.cs x).length = i * 4 + j := by simp [JbV.cs]; omega
  rw [this]
  exact flat_jb ks i j k (by simpa using h) hj
/-- v is a slice of them, in a block of its own from base on. -/
def Jbo (w : World) (base : Nat) (v : Value) (ks : List JbV) : Prop := w.ownsRow base 71 4 v ks.length (ks.flatMap JbV.cs)
theorem Jbo.nil (w : World) (base : Nat) : Jbo w base (.slice none 0 0) [] := World.ownsRow_nil _ _ _ _
theorem Jbo.below {w w' : World} {base : Nat} {v : Value} {ks : List JbV} (h : Jbo w base v ks) (hb : Below w.heap.size w w') : Jbo w' base v ks :=
 World.ownsRow.kept h (row := none) ⟨hb.os, hb.tape, hb.output, hb.size, fun k hk _ => hb.block k hk⟩ (by cases v.ownBlock <;> simp)
theorem Jbo.kept {w w' : World} {base : Nat} {v : Value} {ks : List JbV} {row : Option Nat} (h : Jbo w base v ks) (hg : w.grownBy w' row) (hne : v.ownBlock = none ∨ v.ownBlock ≠ row) : Jbo w' base v ks := World.ownsRow.kept h hg hne
theorem Jbo.block {w : World} {base : Nat} {v : Value} {ks : List JbV} (h : Jbo w base v ks) : ∀ k, v.ownBlock = some k → base ≤ k ∧ k < w.heap.size := World.ownsRow.lt h
theorem Jbo.mono {w : World} {base base' : Nat} {v : Value} {ks : List JbV} (h : Jbo w base v ks) (hb : base' ≤ base) : Jbo w base' v ks := by
 refine ⟨h.1, ?_⟩
 rcases h.2 with h1 | ⟨g, cap, cur, h1, h2, h3⟩
 ·exact .inl h1
 ·exact .inr ⟨g, cap, cur, h1, Nat.le_trans hb h2, h3⟩
theorem Jbo.l {w : World} {base : Nat} {v : Value} {ks : List JbV} (h : Jbo w base v ks) : Jbl w v ks := by
 rcases h.2 with ⟨hv, h0⟩ | ⟨g, cap, cur, hv, hb, hg, h1, h2, h3, h4⟩
 ·exact ⟨none, 0, by rw [hv, h0], by omega, by omega, fun hn => absurd (List.length_eq_zero_iff.1 h0) hn⟩
 ·refine ⟨_, cap, hv, h1, by unfold maxLen at h2; omega, fun _ => ⟨_, rfl, lt_of_block hg, fun i k hi => ?_⟩⟩
  have hil : i < ks.length := (List.getElem?_eq_some_iff.1 hi).1
  have h5 : w.ownsRow base 71 4 (.slice (some ⟨g, 0, none⟩) ks.length cap) ks.length (ks.flatMap JbV.cs) := by rw [← hv]; exact h
  have hc : ∀ j u, j < 4 → k.cs[j]? = some u → w.cell? ⟨g, i * 4 + j, none⟩ = some u := fun j u hj hu => by
   rw [h5.cellAt (i * 4 + j) (by omega), flat_jb ks i j k hi hj, hu]
  rw [Addr.add_lit, Nat.zero_add]
  exact ⟨hc 0 _ (by decide) rfl, hc 1 _ (by decide) rfl, hc 2 _ (by decide) rfl, hc 3 _ (by decide) rfl⟩
theorem Jbo.len {w : World} {base : Nat} {v : Value} {ks : List JbV} (h : Jbo w base v ks) : ∃ a c, v = .slice a ks.length c := by
 obtain ⟨a, c, h1, -⟩ := h.l
 exact ⟨a, c, h1⟩
/-- one more. -/
theorem app_jb {ops : Array Oper} {rest : List Oper} {o : Oper} {a : Act} {Q : Exit → Act → World → Prop} (w : World) (hgd : o.guard = none) (s x : Operand)
  (ho : o.op = .call { callee := .builtin .append, args := #[s, x], argTypes := #[27, 27] }) (base : Nat) (v : Value) (ks : List JbV) (hs : a.eval s = v) (hown : Jbo w base v ks)
  (b : Nat) (d : JbV) (hx : a.eval x = .slice (some ⟨b, 0, none⟩) 1 1) (hd : Jbc w ⟨b, 0, none⟩ d) (hl : ks.length ≤ 1000000000) (hbase : base ≤ w.heap.size)
  (h : ∀ g cap w', Jbo w' base (.slice (some ⟨g, 0, none⟩) (ks.length + 1) cap) (ks ++ [d]) → w.grownBy w' v.ownBlock → (v.ownBlock = some g ∨ g = w.heap.size) → g < w'.heap.size → wpList Tryz.prog ops Q rest (a.put o.dst (.slice (some ⟨g, 0, none⟩) (ks.length + 1) cap)) w') :
  wpList Tryz.prog ops Q (o :: rest) a w := by
 obtain ⟨i0, hi, hz0, hz1, hz2⟩ := info_parts info_jb
 refine wpList_append_lies w hgd s x 27 ho base 71 i0 (.agg #[.int .i64 0, .int .i64 0, .int .i64 0, .int .i64 0]) 4 32 Tryz.underlying27 hi hz0 hz1 hz2 rfl (by decide) v ks.length _ hs hown ⟨b, 0, none⟩ 1 1 d.cs hx rfl ?_ ?_ (by decide) (by unfold maxLen; omega) (by omega) hbase _ rfl ?_
 ·intro j u hj
  have hjn : j < 4 := (List.getElem?_eq_some_iff.1 hj).1
  rw [Addr.add_lit, Nat.zero_add]
  match j, hjn, hj with
  | 0, _, hj => simp [JbV.cs] at hj; subst hj; exact hd.c0
  | 1, _, hj => simp [JbV.cs] at hj; subst hj; exact hd.c1
  | 2, _, hj => simp [JbV.cs] at hj; subst hj; exact hd.c2
  | 3, _, hj => simp [JbV.cs] at hj; subst hj; exact hd.c3
 ·intro u hu
  simp [JbV.cs] at hu
  rcases hu with rfl | rfl | rfl | rfl <;> rfl
 ·intro g cap w' h1 h2 h3 h4
  refine h g cap w' ?_ h2 h3 h4
  unfold Jbo
  rw [List.length_append, List.flatMap_append]
  simpa using h1
end Go.Proofs.YteieikgkmfglaaaGreatDoor
namespace Go.Proofs.YteieikgkmfglaaaGreatDoor
open Go.RowKit
set_option linter.unusedVariables false
/-- v is a world whose lists are owned from base on. -/
def Wo (w : World) (base : Nat) (v : Value) (W : WV) : Prop := ∃ u1 u2 u3 u4 u5, v = .agg #[.int .i64 W.turn, .int .i64 W.next, .int .i64 W.wide, .int .i64 W.high, u1, u2, u3, u4, u5] ∧ Ow w base u1 W.gs ∧ Ow w base u2 W.os ∧ Ow w base u3 W.gold ∧ Uno w base u4 W.us ∧ Jbo w base u5 W.qs
theorem Wo.l {w : World} {base : Nat} {v : Value} {W : WV} (h : Wo w base v W) : Wl w v W := by
 obtain ⟨u1, u2, u3, u4, u5, h1, h2, h3, h4, h5, h6⟩ := h
 exact ⟨u1, u2, u3, u4, u5, h1, h2.ro, h3.ro, h4.ro, h5.l, h6.l⟩
theorem Wo.below {w w' : World} {base : Nat} {v : Value} {W : WV} (h : Wo w base v W) (hb : Below w.heap.size w w') : Wo w' base v W := by
 obtain ⟨u1, u2, u3, u4, u5, h1, h2, h3, h4, h5, h6⟩ := h
 exact ⟨u1, u2, u3, u4, u5, h1, h2.below hb, h3.below hb, h4.below hb, h5.below hb, h6.below hb⟩
theorem Wo.mono {w : World} {base base' : Nat} {v : Value} {W : WV} (h : Wo w base v W) (hb : base' ≤ base) : Wo w base' v W := by
 obtain ⟨u1, u2, u3, u4, u5, h1, h2, h3, h4, h5, h6⟩ := h
 exact ⟨u1, u2, u3, u4, u5, h1, h2.mono hb, h3.mono hb, h4.mono hb, h5.mono hb, h6.mono hb⟩
theorem owns_kp {z : Nat} {w w' : World} {base : Nat} {T : TypeId} {size : Nat} {u : Value} {n : Nat} {cs : List Value} (h : w.ownsRow base T size u n cs) (k : Kp z w w') (hz : z < base) : w'.ownsRow base T size u n cs := by
 refine ⟨h.1, ?_⟩
 rcases h.2 with h1 | ⟨g, cap, cur, h1, h2, h3, h4⟩
 ·exact .inl h1
 ·exact .inr ⟨g, cap, cur, h1, h2, (k.block g (lt_of_block h3) (by omega)).trans h3, h4⟩
theorem Ow.kp {z : Nat} {w w' : World} {base : Nat} {u : Value} {xs : List Int} (h : Ow w base u xs) (k : Kp z w w') (hz : z < base) : Ow w' base u xs := owns_kp h k hz
theorem Uno.kp {z : Nat} {w w' : World} {base : Nat} {u : Value} {xs : List UnV} (h : Uno w base u xs) (k : Kp z w w') (hz : z < base) : Uno w' base u xs := owns_kp h k hz
theorem Jbo.kp {z : Nat} {w w' : World} {base : Nat} {u : Value} {xs : List JbV} (h : Jbo w base u xs) (k : Kp z w w') (hz : z < base) : Jbo w' base u xs := owns_kp h k hz
theorem Wo.kp {z : Nat} {w w' : World} {base : Nat} {v : Value} {W : WV} (h : Wo w base v W) (k : Kp z w w') (hz : z < base) : Wo w' base v W := by
 obtain ⟨u1, u2, u3, u4, u5, h1, h2, h3, h4, h5, h6⟩ := h
 exact ⟨u1, u2, u3, u4, u5, h1, h2.kp k hz, h3.kp k hz, h4.kp k hz, h5.kp k hz, h6.kp k hz⟩
/-- they lie in blocks of their own. -/
def Dif (u v : Value) : Prop := ∀ k, u.ownBlock = some k → v.ownBlock ≠ some k
theorem Dif.symm {u v : Value} (h : Dif u v) : Dif v u := fun k h1 h2 => h k h2 h1
theorem Dif.ne {u v : Value} (h : Dif u v) : u.ownBlock = none ∨ u.ownBlock ≠ v.ownBlock := by
 cases e : u.ownBlock with
 | none => exact .inl rfl
 | some k => exact .inr (fun h2 => h k e h2.symm)
theorem Dif.of {u v : Value} {n : Nat} (hu : ∀ k, u.ownBlock = some k → k < n) (hv : ∀ k, v.ownBlock = some k → n ≤ k) : Dif u v := fun k h1 h2 => by have := hu k h1; have := hv k h2; omega
/-- v is a world whose lists are owned from base on, each in a block of its own. -/
def Wi (w : World) (base : Nat) (v : Value) (W : WV) : Prop := ∃ u1 u2 u3 u4 u5, v = .agg #[.int .i64 W.turn, .int .i64 W.next, .int .i64 W.wide, .int .i64 W.high, u1, u2, u3, u4, u5] ∧ (Ow w base u1 W.gs ∧ Ow w base u2 W.os ∧ Ow w base u3 W.gold ∧ Uno w base u4 W.us ∧ Jbo w base u5 W.qs) ∧ Dif u1 u2 ∧ Dif u1 u3 ∧ Dif u1 u4 ∧ Dif u1 u5 ∧ Dif u2 u3 ∧ Dif u2 u4 ∧ Dif u2 u5 ∧ Dif u3 u4 ∧ Dif u3 u5 ∧ Dif u4 u5
theorem Wi.mono {w : World} {base base' : Nat} {v : Value} {W : WV} (h : Wi w base v W) (hb : base' ≤ base) : Wi w base' v W := by
 obtain ⟨u1, u2, u3, u4, u5, h1, ⟨h2, h3, h4, h5, h6⟩, hd⟩ := h
 exact ⟨u1, u2, u3, u4, u5, h1, ⟨h2.mono hb, h3.mono hb, h4.mono hb, h5.mono hb, h6.mono hb⟩, hd⟩
/-- a world's nine cells, in a block of their own. -/
def Wx (w : World) (z : Nat) (c0 c1 c2 c3 c4 c5 c6 c7 c8 : Value) : Prop := w.heap[z]? = some (.cells #[c0, c1, c2, c3, c4, c5, c6, c7, c8] 29 (0, 0))
theorem Wx.lt {w : World} {z : Nat} {c0 c1 c2 c3 c4 c5 c6 c7 c8 : Value} (h : Wx w z c0 c1 c2 c3 c4 c5 c6 c7 c8) : z < w.heap.size := lt_of_block h
theorem Wx.cells {w : World} {z : Nat} {c0 c1 c2 c3 c4 c5 c6 c7 c8 : Value} (h : Wx w z c0 c1 c2 c3 c4 c5 c6 c7 c8) : w.cell? ⟨z, 0, none⟩ = some c0 ∧ w.cell? ⟨z, 1, none⟩ = some c1 ∧ w.cell? ⟨z, 2, none⟩ = some c2 ∧ w.cell? ⟨z, 3, none⟩ = some c3 ∧ w.cell? ⟨z, 4, none⟩ = some c4 ∧ w.cell? ⟨z, 5, none⟩ = some c5 ∧ w.cell? ⟨z, 6, none⟩ = some c6 ∧ w.cell? ⟨z, 7, none⟩ = some c7 ∧ w.cell? ⟨z, 8, none⟩ = some c8 := by
 unfold Wx at h
 refine ⟨?_, ?_, ?_, ?_, ?_, ?_, ?_, ?_, ?_⟩ <;> simp [World.cell?, h]
theorem Wx.thaw {w : World} {z : Nat} {c0 c1 c2 c3 c4 c5 c6 c7 c8 : Value} (h : Wx w z c0 c1 c2 c3 c4 c5 c6 c7 c8) (i : Nat) : w.frozen? ⟨z, i, none⟩ = false := by
 unfold Wx at h
 simp [World.frozen?, h]
theorem Wx.thaws {w : World} {z : Nat} {c0 c1 c2 c3 c4 c5 c6 c7 c8 : Value} (h : Wx w z c0 c1 c2 c3 c4 c5 c6 c7 c8) : w.frozen? ⟨z, 0, none⟩ = false ∧ w.frozen? ⟨z, 1, none⟩ = false ∧ w.frozen? ⟨z, 2, none⟩ = false ∧ w.frozen? ⟨z, 3, none⟩ = false ∧ w.frozen? ⟨z, 4, none⟩ = false ∧ w.frozen? ⟨z, 5, none⟩ = false ∧ w.frozen? ⟨z, 6, none⟩ = false ∧ w.frozen? ⟨z, 7, none⟩ = false ∧ w.frozen? ⟨z, 8, none⟩ = false := ⟨h.thaw 0, h.thaw 1, h.thaw 2, h.thaw 3, h.thaw 4, h.thaw 5, h.thaw 6, h.thaw 7, h.thaw 8⟩
theorem Wx.new {w : World} {z : Nat} (c0 c1 c2 c3 c4 c5 c6 c7 c8 : Value) (hz : w.heap.size = z) : Wx (w.alloc (.cells #[c0, c1, c2, c3, c4, c5, c6, c7, c8] 29)) z c0 c1 c2 c3 c4 c5 c6 c7 c8 := by
 subst hz
 exact heap_alloc_new _ _
theorem Wx.below {w w' : World} {z n : Nat} {c0 c1 c2 c3 c4 c5 c6 c7 c8 : Value} (h : Wx w z c0 c1 c2 c3 c4 c5 c6 c7 c8) (hb : Below n w w') (hn : z < n) : Wx w' z c0 c1 c2 c3 c4 c5 c6 c7 c8 := (hb.block z hn).trans h
theorem Wx.kp {w w' : World} {z y : Nat} {c0 c1 c2 c3 c4 c5 c6 c7 c8 : Value} (h : Wx w z c0 c1 c2 c3 c4 c5 c6 c7 c8) (k : Kp y w w') (hn : z ≠ y) : Wx w' z c0 c1 c2 c3 c4 c5 c6 c7 c8 := (k.block z h.lt hn).trans h
theorem Wx.set0 {w : World} {z : Nat} {c0 c1 c2 c3 c4 c5 c6 c7 c8 : Value} (h : Wx w z c0 c1 c2 c3 c4 c5 c6 c7 c8) (u : Value) : Wx (w.setCell ⟨z, 0, none⟩ u) z u c1 c2 c3 c4 c5 c6 c7 c8 := by
 exact heap_setCell_same w z 0 _ _ u h
theorem Wx.set1 {w : World} {z : Nat} {c0 c1 c2 c3 c4 c5 c6 c7 c8 : Value} (h : Wx w z c0 c1 c2 c3 c4 c5 c6 c7 c8) (u : Value) : Wx (w.setCell ⟨z, 1, none⟩ u) z c0 u c2 c3 c4 c5 c6 c7 c8 := by
 exact heap_setCell_same w z 1 _ _ u h
theorem Wx.set2 {w : World} {z : Nat} {c0 c1 c2 c3 c4 c5 c6 c7 c8 : Value} (h : Wx w z c0 c1 c2 c3 c4 c5 c6 c7 c8) (u : Value) : Wx (w.setCell ⟨z, 2, none⟩ u) z c0 c1 u c3 c4 c5 c6 c7 c8 := by
 exact heap_setCell_same w z 2 _ _ u h
theorem Wx.set3 {w : World} {z : Nat} {c0 c1 c2 c3 c4 c5 c6 c7 c8 : Value} (h : Wx w z c0 c1 c2 c3 c4 c5 c6 c7 c8) (u : Value) : Wx (w.setCell ⟨z, 3, none⟩ u) z c0 c1 c2 u c4 c5 c6 c7 c8 := by
 exact heap_setCell_same w z 3 _ _ u h
theorem Wx.set4 {w : World} {z : Nat} {c0 c1 c2 c3 c4 c5 c6 c7 c8 : Value} (h : Wx w z c0 c1 c2 c3 c4 c5 c6 c7 c8) (u : Value) : Wx (w.setCell ⟨z, 4, none⟩ u) z c0 c1 c2 c3 u c5 c6 c7 c8 := by
 exact heap_setCell_same w z 4 _ _ u h
theorem Wx.set5 {w : World} {z : Nat} {c0 c1 c2 c3 c4 c5 c6 c7 c8 : Value} (h : Wx w z c0 c1 c2 c3 c4 c5 c6 c7 c8) (u : Value) : Wx (w.setCell ⟨z, 5, none⟩ u) z c0 c1 c2 c3 c4 u c6 c7 c8 := by
 exact heap_setCell_same w z 5 _ _ u h
theorem Wx.set6 {w : World} {z : Nat} {c0 c1 c2 c3 c4 c5 c6 c7 c8 : Value} (h : Wx w z c0 c1 c2 c3 c4 c5 c6 c7 c8) (u : Value) : Wx (w.setCell ⟨z, 6, none⟩ u) z c0 c1 c2 c3 c4 c5 u c7 c8 := by
 exact heap_setCell_same w z 6 _ _ u h
theorem Wx.set7 {w : World} {z : Nat} {c0 c1 c2 c3 c4 c5 c6 c7 c8 : Value} (h : Wx w z c0 c1 c2 c3 c4 c5 c6 c7 c8) (u : Value) : Wx (w.setCell ⟨z, 7, none⟩ u) z c0 c1 c2 c3 c4 c5 c6 u c8 := by
 exact heap_setCell_same w z 7 _ _ u h
theorem Wx.set8 {w : World} {z : Nat} {c0 c1 c2 c3 c4 c5 c6 c7 c8 : Value} (h : Wx w z c0 c1 c2 c3 c4 c5 c6 c7 c8) (u : Value) : Wx (w.setCell ⟨z, 8, none⟩ u) z c0 c1 c2 c3 c4 c5 c6 c7 u := by
 exact heap_setCell_same w z 8 _ _ u h
theorem Wx.put {w : World} {z : Nat} {c0 c1 c2 c3 c4 c5 c6 c7 c8 : Value} (h : Wx w z c0 c1 c2 c3 c4 c5 c6 c7 c8) (e0 e1 e2 e3 e4 e5 e6 e7 e8 : Value) : Wx (((((((((w.setCell ⟨z, 0, none⟩ e0).setCell ⟨z, 1, none⟩ e1).setCell ⟨z, 2, none⟩ e2).setCell ⟨z, 3, none⟩ e3).setCell ⟨z, 4, none⟩ e4).setCell ⟨z, 5, none⟩ e5).setCell ⟨z, 6, none⟩ e6).setCell ⟨z, 7, none⟩ e7).setCell ⟨z, 8, none⟩ e8) z e0 e1 e2 e3 e4 e5 e6 e7 e8 := (((((((((h.set0 e0).set1 e1).set2 e2).set3 e3).set4 e4).set5 e5).set6 e6).set7 e7).set8 e8)
theorem put_kp (w : World) (z : Nat) (e0 e1 e2 e3 e4 e5 e6 e7 e8 : Value) : Kp z w (((((((((w.setCell ⟨z, 0, none⟩ e0).setCell ⟨z, 1, none⟩ e1).setCell ⟨z, 2, none⟩ e2).setCell ⟨z, 3, none⟩ e3).setCell ⟨z, 4, none⟩ e4).setCell ⟨z, 5, none⟩ e5).setCell ⟨z, 6, none⟩ e6).setCell ⟨z, 7, none⟩ e7).setCell ⟨z, 8, none⟩ e8) :=
 ((((((((Kp.set w 0 e0).trans (Kp.set _ 1 e1)).trans (Kp.set _ 2 e2)).trans (Kp.set _ 3 e3)).trans (Kp.set _ 4 e4)).trans (Kp.set _ 5 e5)).trans (Kp.set _ 6 e6)).trans (Kp.set _ 7 e7)).trans (Kp.set _ 8 e8)
/-- lists that may be copied. -/
structure WLen (W : WV) : Prop where
 g : W.gs.length ≤ 100000000
 o : W.os.length ≤ 100000000
 p : W.gold.length ≤ 100000000
 u : W.us.length ≤ 100000000
 q : W.qs.length ≤ 100000000
end Go.Proofs.YteieikgkmfglaaaGreatDoor
namespace Go.Proofs.YteieikgkmfglaaaGreatDoor
open Go.RowKit
set_option linter.unusedVariables false
namespace Wd
/-- what is wrong with a unit that is to be put. -/
def placeFault (ks : List KV) (W : WV) (pl kd at_ : Int) : Int :=
 if 40 ≤ (W.us.length : Int) ∨ 1000000 ≤ W.next then 4
 else if ¬ (0 ≤ pl ∧ pl < (W.gold.length : Int)) ∨ ¬ (0 ≤ kd ∧ kd < (ks.length : Int)) then 1
 else if ¬ (0 ≤ at_ ∧ at_ < (W.gs.length : Int)) then 6
 else match ks[kd.toNat]? with
  | some k => if open_ W.gs W.us at_ k.f = false then 7 else 0
  | none => 1
theorem pf4 {ks : List KV} {W : WV} {pl kd at_ : Int} (h : 40 ≤ (W.us.length : Int) ∨ 1000000 ≤ W.next) : placeFault ks W pl kd at_ = 4 := by unfold placeFault; rw [if_pos h]
theorem pf1 {ks : List KV} {W : WV} {pl kd at_ : Int} (h : ¬ (40 ≤ (W.us.length : Int) ∨ 1000000 ≤ W.next)) (h1 : ¬ (0 ≤ pl ∧ pl < (W.gold.length : Int)) ∨ ¬ (0 ≤ kd ∧ kd < (ks.length : Int))) : placeFault ks W pl kd at_ = 1 := by unfold placeFault; rw [if_neg h, if_pos h1]
theorem pf6 {ks : List KV} {W : WV} {pl kd at_ : Int} (h : ¬ (40 ≤ (W.us.length : Int) ∨ 1000000 ≤ W.next)) (h1 : 0 ≤ pl ∧ pl < (W.gold.length : Int)) (h2 : 0 ≤ kd ∧ kd < (ks.length : Int)) (h3 : ¬ (0 ≤ at_ ∧ at_ < (W.gs.length : Int))) : placeFault ks W pl kd at_ = 6 := by unfold placeFault; rw [if_neg h, if_neg (by omega), if_pos h3]
theorem pfk {ks : List KV} {W : WV} {pl kd at_ : Int} {k : KV} (h : ¬ (40 ≤ (W.us.length : Int) ∨ 1000000 ≤ W.next)) (h1 : 0 ≤ pl ∧ pl < (W.gold.length : Int)) (h2 : 0 ≤ kd ∧ kd < (ks.length : Int)) (h3 : 0 ≤ at_ ∧ at_ < (W.gs.length : Int)) (hk : ks[kd.toNat]? = some k) : placeFault ks W pl kd at_ = if open_ W.gs W.us at_ k.f = false then 7 else 0 := by unfold placeFault; rw [if_neg h, if_neg (by omega), if_neg (by omega), hk]
end Wd
structure WRight (ks : List KV) (W : WV) : Prop where
 kinds : Kd.kindsFault (ks.map KV.k) = 0
 good : ∃ Wn Hn : Nat, W.wide = Wn ∧ W.high = Hn ∧ Fd.Good Wn Hn W.gs W.os
 nums : Wd.numsBad W = false
 ul : W.us.length ≤ 40
 units : Wd.unitsGo ks W 0 W.us = 0
 ql : W.qs.length ≤ 12
 jobs : Wd.jobsGo ks W W.qs = 0
theorem wright_of {ks : List KV} {W : WV} (h : Wd.wfault ks W = 0) : WRight ks W := by
 unfold Wd.wfault at h
 by_cases h0 : Wd.ground ks W = 0
 ·rw [if_neg (by rw [h0]; simp)] at h
  cases h1 : Wd.numsBad W with
  | true => rw [h1, if_pos rfl] at h; cases h
  | false =>
   rw [h1, if_neg (by simp)] at h
   by_cases h2 : 40 < W.us.length
   ·rw [if_pos h2] at h; cases h
   ·rw [if_neg h2] at h
    by_cases h3 : Wd.unitsGo ks W 0 W.us = 0
    ·rw [if_neg (by rw [h3]; simp)] at h
     by_cases h4 : 12 < W.qs.length
     ·rw [if_pos h4] at h; cases h
     ·rw [if_neg h4] at h
      unfold Wd.ground at h0
      by_cases h5 : Kd.kindsFault (ks.map KV.k) = 0
      ·rw [if_pos h5] at h0
       exact ⟨h5, Fd.fault_zero h0, h1, by omega, h3, by omega, h⟩
      ·rw [if_neg h5] at h0; exact absurd h0 h5
    ·rw [if_pos h3] at h; exact absurd h h3
 ·rw [if_pos h0] at h; exact absurd h h0
theorem WRight.len {ks : List KV} {W : WV} (h : WRight ks W) : WLen W := by
 obtain ⟨Wn, Hn, -, -, G⟩ := h.good
 have h1 := G.pos
 have h2 := G.gl
 have h3 := G.ol
 have h4 := (nums_ok h.nums).2
 have h5 := h.ul
 have h6 := h.ql
 exact ⟨by omega, by omega, by omega, by omega, by omega⟩
namespace Wd
/-- what is told where a unit is put. -/
def putFault (ks : List KV) (W : WV) (pl kd at_ : Int) : Int := if wfault ks W = 0 then placeFault ks W pl kd at_ else wfault ks W
def newUnit (ks : List KV) (W : WV) (pl kd at_ : Int) : UnV := ⟨W.next, pl, kd, at_, (match ks[kd.toNat]? with | some k => k.n0 | none => 0), 0, 0, 0⟩
/-- the world behind it. -/
def put (ks : List KV) (W : WV) (pl kd at_ : Int) : WV := { W with next := W.next + 1, us := W.us ++ [newUnit ks W pl kd at_] }
def placed (ks : List KV) (W : WV) (pl kd at_ : Int) : WV := if putFault ks W pl kd at_ = 0 then put ks W pl kd at_ else WV.zero
end Wd
theorem placed_bad {ks : List KV} {W : WV} {pl kd at_ : Int} (h : Wd.putFault ks W pl kd at_ ≠ 0) : Wd.placed ks W pl kd at_ = WV.zero := by unfold Wd.placed; rw [if_neg h]
theorem placed_ok {ks : List KV} {W : WV} {pl kd at_ : Int} (h : Wd.putFault ks W pl kd at_ = 0) : Wd.placed ks W pl kd at_ = Wd.put ks W pl kd at_ := by unfold Wd.placed; rw [if_pos h]
theorem zero_wo (w : World) (base : Nat) : Wo w base (.agg #[.int .i64 0, .int .i64 0, .int .i64 0, .int .i64 0, .slice none 0 0, .slice none 0 0, .slice none 0 0, .slice none 0 0, .slice none 0 0]) WV.zero := ⟨_, _, _, _, _, rfl, Ow.nil _ _, Ow.nil _ _, Ow.nil _ _, Uno.nil _ _, Jbo.nil _ _⟩
theorem pf_zero {ks : List KV} {W : WV} {pl kd at_ : Int} (h : Wd.placeFault ks W pl kd at_ = 0) : ¬ (40 ≤ (W.us.length : Int) ∨ 1000000 ≤ W.next) ∧ (0 ≤ pl ∧ pl < (W.gold.length : Int)) ∧ (0 ≤ at_ ∧ at_ < (W.gs.length : Int)) ∧ ∃ kn k, kd = ((kn : Nat) : Int) ∧ kn < ks.length ∧ ks[kn]? = some k ∧ Wd.open_ W.gs W.us at_ k.f = true := by
 unfold Wd.placeFault at h
 split at h
 ·cases h
 ·rename_i h1
  split at h
  ·cases h
  ·rename_i h2
   split at h
   ·cases h
   ·rename_i h3
    split at h
    ·rename_i k hk
     split at h
     ·cases h
     ·rename_i h4
      have hl := (List.getElem?_eq_some_iff.1 hk).1
      exact ⟨h1, by omega, by omega, kd.toNat, k, by omega, hl, hk, by simpa using h4⟩
    ·cases h
end Go.Proofs.YteieikgkmfglaaaGreatDoor
namespace Go.Proofs.YteieikgkmfglaaaGreatDoor
set_option linter.unusedVariables false
namespace Wd
theorem unitsGo_zero {ks : List KV} {W : WV} : ∀ (l : List UnV) (i : Nat), unitsGo ks W i l = 0 ↔ ∀ (j : Nat) (u : UnV), l[j]? = some u → unitFault ks W (i + j) u = 0
 | [], i => by
  constructor
  ·intro _ j u h; simp at h
  ·intro _; rfl
 | x :: l, i => by
  unfold unitsGo
  constructor
  ·intro h
   split at h
   ·rename_i h0
    intro j u hj
    cases j with
    | zero => simp at hj; subst hj; exact h0
    | succ j =>
     have := (unitsGo_zero l (i + 1)).1 h j u (by simpa using hj)
     rwa [show i + 1 + j = i + (j + 1) by omega] at this
   ·rename_i h0; exact absurd h h0
  ·intro h
   rw [if_pos (show unitFault ks W i x = 0 from h 0 x rfl)]
   refine (unitsGo_zero l (i + 1)).2 fun j u hj => ?_
   have := h (j + 1) u (by simpa using hj)
   rwa [show i + (j + 1) = i + 1 + j by omega] at this
theorem jobsGo_zero {ks : List KV} {W : WV} : ∀ (l : List JbV), jobsGo ks W l = 0 ↔ ∀ j ∈ l, jobFault ks W j = 0
 | [] => by
  constructor
  ·intro _ j h; cases h
  ·intro _; rfl
 | x :: l => by
  unfold jobsGo
  constructor
  ·intro h
   split at h
   ·rename_i h0
    intro j hj
    rcases List.mem_cons.1 hj with rfl | hj
    ·exact h0
    ·exact (jobsGo_zero l).1 h j hj
   ·rename_i h0; exact absurd h h0
  ·intro h
   rw [if_pos (h x (List.mem_cons_self ..))]
   exact (jobsGo_zero l).2 fun j hj => h j (List.mem_cons_of_mem _ hj)
theorem nor1 {a : Bool} (h : ¬ (!a) = true) : a = true := by cases a <;> simp_all
theorem nor2 {a b : Bool} (h : ¬ (!a || !b) = true) : a = true ∧ b = true := by cases a <;> cases b <;> simp_all
theorem nor3 {a b c : Bool} (h : ¬ (!a || (!b || !c)) = true) : a = true ∧ b = true ∧ c = true := by cases a <;> cases b <;> cases c <;> simp_all
theorem nor6 {a b : Bool} (h : ¬ (!a || b) = true) : a = true ∧ b = false := by cases a <;> cases b <;> simp_all
/-- nothing is wrong with a unit. -/
structure UFine (ks : List KV) (W : WV) (i : Nat) (u : UnV) (k : KV) : Prop where
 id1 : 1 ≤ u.id
 id2 : u.id ≤ W.next - 1
 up : notAbove W.us i u = false
 p : 0 ≤ u.player ∧ u.player < (W.gold.length : Int)
 k0 : 0 ≤ u.kind ∧ u.kind < (ks.length : Int)
 kk : ks[u.kind.toNat]? = some k
 life : 1 ≤ u.life ∧ u.life ≤ k.n0
 load : 0 ≤ u.load ∧ u.load ≤ k.n7
 task : 0 ≤ u.task ∧ u.task ≤ 2
 at_ : 0 ≤ u.at_ ∧ u.at_ < (W.gs.length : Int)
 goal : 0 ≤ u.goal ∧ u.goal < (W.gs.length : Int)
 opn : open_ W.gs (W.us.take i) u.at_ k.f = true
 rest : u.goal = 0 ∨ u.task ≠ 0
theorem unit_fine {ks : List KV} {W : WV} {i : Nat} {u : UnV} : unitFault ks W i u = 0 ↔ ∃ k, UFine ks W i u k := by
 constructor
 ·intro h
  unfold unitFault at h
  split at h
  ·cases h
  rename_i h1
  split at h
  ·cases h
  rename_i h2
  split at h
  ·cases h
  rename_i h3
  split at h
  ·cases h
  rename_i k hk
  unfold kindPart at h
  split at h
  ·cases h
  rename_i h4
  split at h
  ·cases h
  rename_i h5
  split at h
  ·cases h
  rename_i h6
  have g1 := of_decide_eq_true (nor1 h1)
  have g3 := nor2 h3
  have g4 := nor3 h4
  have g5 := nor2 h5
  have g6 := nor6 h6
  refine ⟨k, ⟨g1.1, g1.2, by simpa using h2, of_decide_eq_true g3.1, of_decide_eq_true g3.2, hk, of_decide_eq_true g4.1, of_decide_eq_true g4.2.1, of_decide_eq_true g4.2.2, of_decide_eq_true g5.1, of_decide_eq_true g5.2, g6.1, ?_⟩⟩
  have g7 := g6.2
  simp only [Bool.and_eq_false_iff, bne_eq_false_iff_eq, beq_eq_false_iff_ne] at g7
  exact g7
 ·rintro ⟨k, h⟩
  unfold unitFault
  rw [if_neg (by simp [h.id1, h.id2]), if_neg (by simp [h.up]), if_neg (by simp [has, h.p.1, h.p.2, h.k0.1, h.k0.2]), h.kk]
  show kindPart W (W.us.take i) u k = 0
  unfold kindPart
  rw [if_neg (by simp [h.life.1, h.life.2, h.load.1, h.load.2, h.task.1, h.task.2]), if_neg (by simp [has, h.at_.1, h.at_.2, h.goal.1, h.goal.2]), if_neg]
  simp only [h.opn, Bool.not_true, Bool.false_or, Bool.and_eq_true, bne_iff_ne, beq_iff_eq, ne_eq, not_and]
  intro hg ht
  rcases h.rest with h1 | h1
  ·exact hg h1
  ·exact h1 ht
/-- a world with which nothing is wrong. -/
theorem wfault_zero {ks : List KV} {W : WV} (hk : Kd.kindsFault (ks.map KV.k) = 0) (hf : Fd.fault W.wide W.high W.gs W.os = 0) (hn : numsBad W = false) (hu : W.us.length ≤ 40) (hus : ∀ (i : Nat) (u : UnV), W.us[i]? = some u → ∃ k, UFine ks W i u k) (hq : W.qs.length ≤ 12) (hqs : ∀ j ∈ W.qs, jobFault ks W j = 0) : wfault ks W = 0 := by
 have h1 : ground ks W = 0 := by unfold ground; rw [if_pos hk, hf]
 have h2 : unitsGo ks W 0 W.us = 0 := (unitsGo_zero W.us 0).2 fun j u hj => by rw [Nat.zero_add]; exact unit_fine.2 (hus j u hj)
 unfold wfault
 rw [if_neg (by rw [h1]; simp), hn, if_neg (by simp), if_neg (by omega), if_neg (by rw [h2]; simp), if_neg (by omega)]
 exact (jobsGo_zero W.qs).2 hqs
end Wd
theorem WRight.fine {ks : List KV} {W : WV} (h : WRight ks W) {i : Nat} {u : UnV} (hu : W.us[i]? = some u) : ∃ k, Wd.UFine ks W i u k := by
 have := (Wd.unitsGo_zero W.us 0).1 h.units i u hu
 rw [Nat.zero_add] at this
 exact Wd.unit_fine.1 this
theorem WRight.job {ks : List KV} {W : WV} (h : WRight ks W) {j : JbV} (hj : j ∈ W.qs) : Wd.jobFault ks W j = 0 := (Wd.jobsGo_zero W.qs).1 h.jobs j hj
theorem WRight.zero {ks : List KV} {W : WV} (h : WRight ks W) : Wd.wfault ks W = 0 := by
 obtain ⟨Wn, Hn, e1, e2, G⟩ := h.good
 exact Wd.wfault_zero h.kinds (by rw [e1, e2]; exact Fd.fault_good G) h.nums h.ul (fun i u hu => h.fine hu) h.ql (fun j hj => h.job hj)
end Go.Proofs.YteieikgkmfglaaaGreatDoor
namespace Go.Proofs.YteieikgkmfglaaaGreatDoor
open Go.RowKit
set_option linter.unusedVariables false
theorem kgo_nums : ∀ {l acc : List Kd.K}, Kd.kindsGo acc l = 0 → ∀ k ∈ l, Kd.numsFault k.nums = 0
 | [], _, _, k, hk => by simp at hk
 | x :: l, acc, h, k, hk => by
  unfold Kd.kindsGo at h
  split at h
  ·rename_i h0
   rcases List.mem_cons.1 hk with rfl | hk
   ·unfold Kd.kindFault at h0
    split at h0
    ·split at h0
     ·omega
     ·exact h0
    ·omega
   ·exact kgo_nums h k hk
  ·rename_i h0
   exact absurd h h0
end Go.Proofs.YteieikgkmfglaaaGreatDoor
namespace Go.Proofs.YteieikgkmfglaaaGreatDoor
open Go.RowKit
set_option linter.unusedVariables false
structure EvV where
 what : Int
 unit : Int
 arg : Int
/-- its cells, from an address on. -/
structure Evc (w : World) (y : Addr) (k : EvV) : Prop where
 c0 : w.cell? y = some (.int .i64 k.what)
 c1 : w.cell? ⟨y.block, y.off + 1, none⟩ = some (.int .i64 k.unit)
 c2 : w.cell? ⟨y.block, y.off + 2, none⟩ = some (.int .i64 k.arg)
theorem Evc.below {w w' : World} {y : Addr} {k : EvV} {B : Nat} (h : Evc w y k) (hb : Below B w w') (hy : y.block < B) : Evc w' y k :=
 ⟨by rw [hb.cell (p := y) hy]; exact h.c0, by rw [hb.cell (p := ⟨y.block, y.off + 1, none⟩) hy]; exact h.c1, by rw [hb.cell (p := ⟨y.block, y.off + 2, none⟩) hy]; exact h.c2⟩
/-- v is a slice of them. -/
def Evl (w : World) (v : Value) (ks : List EvV) : Prop := ∃ a c, v = .slice a ks.length c ∧ ks.length ≤ c ∧ c ≤ 9223372036854775807 ∧ (ks ≠ [] → ∃ x, a = some x ∧ x.block < w.heap.size ∧ ∀ (i : Nat) k, ks[i]? = some k → Evc w (x.add (i * 3)) k)
theorem Evl.below {w w' : World} {v : Value} {ks : List EvV} (h : Evl w v ks) (hb : Below w.heap.size w w') : Evl w' v ks := by
 obtain ⟨a, c, h1, h2, h3, h4⟩ := h
 refine ⟨a, c, h1, h2, h3, fun hn => ?_⟩
 obtain ⟨x, e, hx, hk⟩ := h4 hn
 exact ⟨x, e, Nat.lt_of_lt_of_le hx hb.size, fun i k hi => (hk i k hi).below hb (by rw [add_block]; exact hx)⟩
theorem Evc.mk' {w : World} {z : Nat} (k : EvV) (hz : w.heap.size = z) : Evc (w.alloc (.cells #[.int .i64 k.what, .int .i64 k.unit, .int .i64 k.arg] 73)) ⟨z, 0, none⟩ k := by
 subst hz
 constructor <;> simp
end Go.Proofs.YteieikgkmfglaaaGreatDoor
namespace Go.Proofs.YteieikgkmfglaaaGreatDoor
set_option linter.unusedVariables false
def carryOf (ks : List KV) (u : UnV) : Int := match ks[u.kind.toNat]? with | some k => k.n7 | none => 0
/-- how much a unit takes where it stands. -/
def yieldN (ks : List KV) (Y : WV) (u : UnV) : Int := if u.task = 2 ∧ u.at_ = u.goal then min (min (carryOf ks u - u.load) (Y.os.getD u.at_.toNat 0)) 10 else 0
def loadU (u : UnV) (n : Int) : UnV := { u with load := n }
def takeW (Y : WV) (i : Nat) (u : UnV) (n : Int) : WV := { Y with us := Y.us.set i (loadU u (u.load + n)), os := Y.os.set u.at_.toNat (Y.os.getD u.at_.toNat 0 - n) }
/-- the first q units have taken; what happened. -/
def tk (ks : List KV) (Y : WV) : Nat → WV × List EvV
 | 0 => (Y, [])
 | q + 1 => match (tk ks Y q).1.us[q]? with
  | none => tk ks Y q
  | some u => if 0 < yieldN ks (tk ks Y q).1 u then (takeW (tk ks Y q).1 q u (yieldN ks (tk ks Y q).1 u), (tk ks Y q).2 ++ [⟨4, u.id, yieldN ks (tk ks Y q).1 u⟩]) else tk ks Y q
theorem tk_yes {ks : List KV} {Y : WV} {q : Nat} {u : UnV} (hu : (tk ks Y q).1.us[q]? = some u) (h : 0 < yieldN ks (tk ks Y q).1 u) : tk ks Y (q + 1) = (takeW (tk ks Y q).1 q u (yieldN ks (tk ks Y q).1 u), (tk ks Y q).2 ++ [⟨4, u.id, yieldN ks (tk ks Y q).1 u⟩]) := by
 rw [tk]; simp only [hu]; rw [if_pos h]
theorem tk_no {ks : List KV} {Y : WV} {q : Nat} {u : UnV} (hu : (tk ks Y q).1.us[q]? = some u) (h : ¬ 0 < yieldN ks (tk ks Y q).1 u) : tk ks Y (q + 1) = tk ks Y q := by
 rw [tk]; simp only [hu]; rw [if_neg h]
/-- what must hold for ore to be dug. -/
structure DFit (ks : List KV) (Y : WV) : Prop where
 wide : ∃ Wn Hn : Nat, Y.wide = Wn ∧ Y.high = Hn ∧ Fd.Good Wn Hn Y.gs Y.os
 units : ∀ u ∈ Y.us, (∃ kn : Nat, ∃ k, u.kind = kn ∧ ks[kn]? = some k ∧ 0 ≤ u.load ∧ u.load ≤ k.n7 ∧ k.n7 ≤ 1000) ∧ (∃ an : Nat, u.at_ = an ∧ an < Y.os.length) ∧ ∃ pn : Nat, u.player = pn ∧ pn < Y.gold.length
 gold : ∀ g ∈ Y.gold, 0 ≤ g ∧ g ≤ 1000000
 ul : Y.us.length ≤ 40
theorem DFit.ore {ks : List KV} {Y : WV} (h : DFit ks Y) {i : Nat} {x : Int} (hx : Y.os[i]? = some x) : 0 ≤ x ∧ x ≤ 1000000 := by
 obtain ⟨Wn, Hn, -, -, G⟩ := h.wide
 have hi := (List.getElem?_eq_some_iff.1 hx).1
 have hg := List.getElem?_eq_getElem (l := Y.gs) (i := i) (by rw [G.gl, ← G.ol]; exact hi)
 have := G.cell i _ x hg hx
 omega
theorem kinds_carry {ks : List KV} (h : Kd.kindsFault (ks.map KV.k) = 0) : ∀ k ∈ ks, 0 ≤ k.n7 ∧ k.n7 ≤ 1000 := by
 intro k hk
 unfold Kd.kindsFault at h
 split at h
 ·omega
 ·have h2 := kgo_nums h k.k (List.mem_map.2 ⟨k, hk, rfl⟩)
  unfold Kd.numsFault at h2
  split at h2
  ·omega
  ·rename_i h3
   rw [Bool.not_eq_true, List.any_eq_false] at h3
   have := h3 k.n7 (by simp [KV.k])
   simp only [decide_eq_true_eq] at this
   omega
theorem gold_inD {Y : WV} (h : Wd.numsBad Y = false) : ∀ g ∈ Y.gold, 0 ≤ g ∧ g ≤ 1000000 := by
 unfold Wd.numsBad at h
 simp only [Bool.or_eq_false_iff] at h
 obtain ⟨-, -, h3, h4⟩ := h
 intro g hg
 rw [List.any_eq_false] at h4
 have := h4 g hg
 unfold Wd.off at this
 simp at this
 exact this
theorem WRight.dfit {ks : List KV} {Y : WV} (h : WRight ks Y) : DFit ks Y := by
 have kc := kinds_carry h.kinds
 obtain ⟨Wn, Hn, e1, e2, G⟩ := h.good
 refine ⟨⟨Wn, Hn, e1, e2, G⟩, fun u hu => ?_, gold_inD h.nums, h.ul⟩
 obtain ⟨i, hi⟩ := List.mem_iff_getElem?.1 hu
 obtain ⟨k, F⟩ := h.fine hi
 have hl : Y.os.length = Y.gs.length := by rw [G.gl, G.ol]
 exact ⟨⟨u.kind.toNat, k, by have := F.k0; omega, F.kk, F.load.1, F.load.2, (kc k (List.mem_of_getElem? F.kk)).2⟩, ⟨u.at_.toNat, by have := F.at_; omega, by have := F.at_; omega⟩, ⟨u.player.toNat, by have := F.p; omega, by have := F.p; omega⟩⟩
theorem yield_le {ks : List KV} {Y : WV} {u : UnV} {kn an : Nat} {k : KV} {x : Int} (hk : u.kind = kn) (hkk : ks[kn]? = some k) (ha : u.at_ = an) (hx : Y.os[an]? = some x) : yieldN ks Y u = (if u.task = 2 ∧ u.at_ = u.goal then min (min (k.n7 - u.load) x) 10 else 0) := by
 unfold yieldN carryOf
 rw [hk, ha, Int.toNat_natCast, Int.toNat_natCast]
 simp only [hkk, List.getD_eq_getElem?_getD, hx, Option.getD_some]
theorem DFit.take {ks : List KV} {Y : WV} (h : DFit ks Y) {i : Nat} {u : UnV} (hu : Y.us[i]? = some u) (hn : 0 < yieldN ks Y u) : DFit ks (takeW Y i u (yieldN ks Y u)) := by
 obtain ⟨⟨kn, k, e1, e2, l1, l2, l3⟩, ⟨an, e3, hal⟩, pn, e4, hpl⟩ := h.units u (List.mem_of_getElem? hu)
 obtain ⟨x, hx⟩ : ∃ x, Y.os[an]? = some x := ⟨_, List.getElem?_eq_getElem hal⟩
 have ey := yield_le (ks := ks) (Y := Y) e1 e2 e3 hx
 have hox := h.ore hx
 have hy : yieldN ks Y u ≤ k.n7 - u.load ∧ yieldN ks Y u ≤ x := by
  rw [ey] at hn ⊢
  split
  ·omega
  ·rename_i hh; rw [if_neg hh] at hn; omega
 have eg : Y.os.getD u.at_.toNat 0 = x := by rw [e3, Int.toNat_natCast, List.getD_eq_getElem?_getD, hx, Option.getD_some]
 refine ⟨?_, fun v hv => ?_, h.gold, by simpa [takeW] using h.ul⟩
 ·obtain ⟨Wn, Hn, a1, a2, G⟩ := h.wide
  refine ⟨Wn, Hn, a1, a2, ⟨G.w1, G.w2, G.h1, G.h2, G.gl, by simpa [takeW] using G.ol, fun j g o hg ho => ?_⟩⟩
  unfold takeW at ho
  simp only at ho
  rw [eg, e3, Int.toNat_natCast, List.getElem?_set] at ho
  split at ho
  ·rename_i ej
   subst ej
   injection ho with ho
   have c := G.cell an g x hg hx
   refine ⟨c.1, c.2.1, by omega, by omega, fun h9 => c.2.2.2.2 (by omega)⟩
  ·exact G.cell j g o hg ho
 ·have hlen : (takeW Y i u (yieldN ks Y u)).os.length = Y.os.length := by simp [takeW]
  rw [hlen]
  rcases List.mem_or_eq_of_mem_set hv with hv | rfl
  ·exact h.units v hv
  ·exact ⟨⟨kn, k, e1, e2, by show 0 ≤ u.load + _; omega, by show u.load + _ ≤ _; omega, l3⟩, ⟨an, e3, hal⟩, pn, e4, hpl⟩
/-- what taking leaves as it was. -/
def TkK (Y Z : WV) : Prop := Z.turn = Y.turn ∧ Z.next = Y.next ∧ Z.wide = Y.wide ∧ Z.high = Y.high ∧ Z.gs = Y.gs ∧ Z.gold = Y.gold ∧ Z.qs = Y.qs ∧ Z.us.length = Y.us.length ∧ Z.os.length = Y.os.length
theorem tk_keep {ks : List KV} {Y : WV} : ∀ q, TkK Y (tk ks Y q).1
 | 0 => ⟨rfl, rfl, rfl, rfl, rfl, rfl, rfl, rfl, rfl⟩
 | q + 1 => by
  have ih := tk_keep (ks := ks) (Y := Y) q
  cases hu : (tk ks Y q).1.us[q]? with
  | none => rw [tk]; simp only [hu]; exact ih
  | some u =>
   by_cases h : 0 < yieldN ks (tk ks Y q).1 u
   ·rw [tk_yes hu h]
    obtain ⟨a1, a2, a3, a4, a5, a6, a7, a8, a9⟩ := ih
    exact ⟨a1, a2, a3, a4, a5, a6, a7, by simpa [takeW] using a8, by simpa [takeW] using a9⟩
   ·rw [tk_no hu h]; exact ih
theorem tk_fit {ks : List KV} {Y : WV} (h : DFit ks Y) : ∀ q, DFit ks (tk ks Y q).1
 | 0 => h
 | q + 1 => by
  have ih := tk_fit h q
  cases hu : (tk ks Y q).1.us[q]? with
  | none => rw [tk]; simp only [hu]; exact ih
  | some u =>
   by_cases hh : 0 < yieldN ks (tk ks Y q).1 u
   ·rw [tk_yes hu hh]; exact ih.take hu hh
   ·rw [tk_no hu hh]; exact ih
theorem tk_evs {ks : List KV} {Y : WV} : ∀ q, (tk ks Y q).2.length ≤ q
 | 0 => by simp [tk]
 | q + 1 => by
  have ih := tk_evs (ks := ks) (Y := Y) q
  cases hu : (tk ks Y q).1.us[q]? with
  | none => rw [tk]; simp only [hu]; omega
  | some u =>
   by_cases h : 0 < yieldN ks (tk ks Y q).1 u
   ·rw [tk_yes hu h]; simp; omega
   ·rw [tk_no hu h]; omega
end Go.Proofs.YteieikgkmfglaaaGreatDoor
namespace Go.Proofs.YteieikgkmfglaaaGreatDoor
open Go.RowKit
set_option linter.unusedVariables false
theorem wl_shape9 {w : World} {v : Value} {X : WV} (h : Wl w v X) : ∃ p1 q1 p2 q2 p3 q3 p4 q4 p5 q5, v = .agg #[.int .i64 X.turn, .int .i64 X.next, .int .i64 X.wide, .int .i64 X.high, .slice p1 X.gs.length q1, .slice p2 X.os.length q2, .slice p3 X.gold.length q3, .slice p4 X.us.length q4, .slice p5 X.qs.length q5] := by
 obtain ⟨u1, u2, u3, u4, u5, rfl, ⟨p1, q1, rfl, -⟩, ⟨p2, q2, rfl, -⟩, ⟨p3, q3, rfl, -⟩, ⟨p4, q4, rfl, -⟩, ⟨p5, q5, rfl, -⟩⟩ := h
 exact ⟨_, _, _, _, _, _, _, _, _, _, rfl⟩
theorem fl_of {w : World} {X : WV} {u1 u2 u3 u4 u5 : Value} (h : Wl w (.agg #[.int .i64 X.turn, .int .i64 X.next, .int .i64 X.wide, .int .i64 X.high, u1, u2, u3, u4, u5]) X) : Fl w (.agg #[.int .i64 X.wide, .int .i64 X.high, u1, u2]) X.wide X.high X.gs X.os :=
 ⟨u1, u2, rfl, h.slices.1, h.slices.2.1⟩
end Go.Proofs.YteieikgkmfglaaaGreatDoor
namespace Go.Proofs.YteieikgkmfglaaaGreatDoor
open Go.RowKit
set_option linter.unusedVariables false
theorem len_un (ks : List UnV) : (ks.flatMap UnV.cs).length = ks.length * 8 := by
 induction ks with
 | nil => rfl
 | cons x l ih => rw [List.flatMap_cons, List.length_append, ih, List.length_cons, Nat.succ_mul, Nat.add_comm]; rfl
theorem cell_un {w : World} {y : Addr} {ks : List UnV} (hc : ∀ (i : Nat) k, ks[i]? = some k → Unc w (y.add (i * 8)) k) (j : Nat) (u : Value) (hj : (ks.flatMap UnV.cs)[j]? = some u) : w.cell? (y.add j) = some u := by
 have hjl : j < ks.length * 8 := by rw [← len_un]; exact (List.getElem?_eq_some_iff.1 hj).1
 obtain ⟨i, r, hr, rfl⟩ : ∃ i r, r < 8 ∧ j = i * 8 + r := ⟨j / 8, j % 8, Nat.mod_lt _ (by decide), by omega⟩
 have hi : i < ks.length := by omega
 obtain ⟨k, hk⟩ : ∃ k, ks[i]? = some k := ⟨_, List.getElem?_eq_getElem hi⟩
 rw [flat_un ks i r k hk hr] at hj
 have h := hc i k hk
 rcases Nat.eq_zero_or_pos r with rfl | hr0
 ·simp [UnV.cs] at hj
  subst hj
  exact h.c0
 ·have ea : y.add (i * 8 + r) = ⟨(y.add (i * 8)).block, (y.add (i * 8)).off + r, none⟩ := by
   unfold Addr.add
   rw [if_neg (by omega)]
   split <;> simp <;> omega
  rw [ea]
  match r, hr, hr0, hj with
  | 1, _, _, hj => simp [UnV.cs] at hj; subst hj; exact h.c1
  | 2, _, _, hj => simp [UnV.cs] at hj; subst hj; exact h.c2
  | 3, _, _, hj => simp [UnV.cs] at hj; subst hj; exact h.c3
  | 4, _, _, hj => simp [UnV.cs] at hj; subst hj; exact h.c4
  | 5, _, _, hj => simp [UnV.cs] at hj; subst hj; exact h.c5
  | 6, _, _, hj => simp [UnV.cs] at hj; subst hj; exact h.c6
  | 7, _, _, hj => simp [UnV.cs] at hj; subst hj; exact h.c7
theorem app_uns {ops : Array Oper} {rest : List Oper} {o : Oper} {a : Act} {Q : Exit → Act → World → Prop} (w : World) (hgd : o.guard = none) (s x : Operand)
  (ho : o.op = .call { callee := .builtin .append, args := #[s, x], argTypes := #[26, 26] }) (base : Nat) (v : Value) (ks : List UnV) (hs : a.eval s = v) (hown : Uno w base v ks)
  (u : Value) (ys : List UnV) (hx : a.eval x = u) (hu : Unl w u ys) (hl : ks.length + ys.length ≤ 100000000) (hbase : base ≤ w.heap.size)
  (h : ∀ v' w', Uno w' base v' (ks ++ ys) → w.grownBy w' v.ownBlock → (v'.ownBlock = v.ownBlock ∨ v'.ownBlock = some w.heap.size) → wpList Tryz.prog ops Q rest (a.put o.dst v') w') :
  wpList Tryz.prog ops Q (o :: rest) a w := by
 obtain ⟨i0, hi, hz0, hz1, hz2⟩ := info_parts info_un
 obtain ⟨ad, c, rfl, h1, h2, h3⟩ := hu
 by_cases hn : ys = []
 ·subst hn
  refine wpList_plain hgd fun K hK => ?_
  have hrun := run_append_no (P := Tryz.prog) (w := w) base 26 o.type 44 i0 8 Tryz.underlying26 hi v ks.length _ hown ad c
  have hx' : a.eval x = .slice ad 0 c := hx
  unfold Oper.wp
  simp [execOp, ho, resolve, invoke, builtin, hs, hx', hrun, Result.andThen]
  exact hK _ _ (h v w (by simpa using hown) (World.grownBy.refl _ _) (.inl rfl))
 ·obtain ⟨y, rfl, hy, hc⟩ := h3 hn
  refine wpList_append_lies w hgd s x 26 ho base 44 i0 _ 8 64 Tryz.underlying26 hi hz0 hz1 hz2 rfl (by decide) v ks.length _ hs hown y ys.length c (ys.flatMap UnV.cs) hx (len_un ys) (cell_un hc) ?_ (List.length_pos_iff.2 hn) (by unfold maxLen; omega) (by omega) hbase _ rfl ?_
  ·intro u hu
   obtain ⟨k, -, hk⟩ := List.mem_flatMap.1 hu
   simp [UnV.cs] at hk
   rcases hk with rfl | rfl | rfl | rfl | rfl | rfl | rfl | rfl <;> rfl
  ·intro g cap w' k1 k2 k3 _
   refine h _ w' ?_ k2 ?_
   ·unfold Uno
    rw [List.length_append, List.flatMap_append]
    exact k1
   ·rcases k3 with k3 | k3
    ·exact .inl k3.symm
    ·exact .inr (by rw [k3]; rfl)
end Go.Proofs.YteieikgkmfglaaaGreatDoor
namespace Go.Proofs.YteieikgkmfglaaaGreatDoor
open Go.RowKit
set_option linter.unusedVariables false
/-- block g has these units, and more behind them. -/
def Ub (w : World) (g : Nat) (ks : List UnV) (rest : List Value) : Prop := w.heap[g]? = some (.cells (ks.flatMap UnV.cs ++ rest).toArray 44 (0, 0))
theorem Ub.lt {w : World} {g : Nat} {ks : List UnV} {rest : List Value} (h : Ub w g ks rest) : g < w.heap.size := lt_of_block h
theorem Ub.thaw {w : World} {g : Nat} {ks : List UnV} {rest : List Value} (h : Ub w g ks rest) (i : Nat) : w.frozen? ⟨g, i, none⟩ = false := by
 unfold Ub at h
 simp [World.frozen?, h]
theorem Ub.below {w w' : World} {g B : Nat} {ks : List UnV} {rest : List Value} (h : Ub w g ks rest) (hb : Below B w w') (hB : g < B) : Ub w' g ks rest := by
 unfold Ub at *
 rw [hb.block g hB]; exact h
theorem Ub.at_ {w : World} {g : Nat} {ks : List UnV} {rest : List Value} (h : Ub w g ks rest) {i : Nat} {o : UnV} (ho : ks[i]? = some o) {j : Nat} (hj : j < 8) : w.cell? ⟨g, i * 8 + j, none⟩ = o.cs[j]? := by
 unfold Ub at h
 have hi : i < ks.length := (List.getElem?_eq_some_iff.1 ho).1
 simp only [World.cell?, h]
 have e : (ks.flatMap UnV.cs ++ rest).toArray[i * 8 + j]? = o.cs[j]? := by
  rw [List.getElem?_toArray, List.getElem?_append_left (by rw [len_un]; omega), flat_un ks i j o ho hj]
 simp only [e]
 simp
theorem Ub.unc {w : World} {g : Nat} {ks : List UnV} {rest : List Value} (h : Ub w g ks rest) {i : Nat} {o : UnV} (ho : ks[i]? = some o) : Unc w ⟨g, i * 8, none⟩ o :=
 ⟨h.at_ ho (j := 0) (by decide), h.at_ ho (j := 1) (by decide), h.at_ ho (j := 2) (by decide), h.at_ ho (j := 3) (by decide), h.at_ ho (j := 4) (by decide), h.at_ ho (j := 5) (by decide), h.at_ ho (j := 6) (by decide), h.at_ ho (j := 7) (by decide)⟩
theorem uflat_set3 : ∀ (ks : List UnV) (i : Nat) (o : UnV) (a : Int) (rest : List Value), ks[i]? = some o → (ks.set i { o with at_ := a }).flatMap UnV.cs ++ rest = (ks.flatMap UnV.cs ++ rest).set (i * 8 + 3) (.int .i64 a)
 | [], i, o, a, rest, h => by simp at h
 | k :: ks, 0, o, a, rest, h => by
  simp at h
  subst h
  simp [UnV.cs]
 | k :: ks, i + 1, o, a, rest, h => by
  have ih := uflat_set3 ks i o a rest (by simpa using h)
  rw [show (i + 1) * 8 + 3 = i * 8 + 3 + 8 by omega, List.set_cons_succ, List.flatMap_cons, List.append_assoc, ih, List.flatMap_cons]
  simp [UnV.cs]
theorem uflat_set5 : ∀ (ks : List UnV) (i : Nat) (o : UnV) (a : Int) (rest : List Value), ks[i]? = some o → (ks.set i { o with load := a }).flatMap UnV.cs ++ rest = (ks.flatMap UnV.cs ++ rest).set (i * 8 + 5) (.int .i64 a)
 | [], i, o, a, rest, h => by simp at h
 | k :: ks, 0, o, a, rest, h => by
  simp at h
  subst h
  simp [UnV.cs]
 | k :: ks, i + 1, o, a, rest, h => by
  have ih := uflat_set5 ks i o a rest (by simpa using h)
  rw [show (i + 1) * 8 + 5 = i * 8 + 5 + 8 by omega, List.set_cons_succ, List.flatMap_cons, List.append_assoc, ih, List.flatMap_cons]
  simp [UnV.cs]
theorem Ub.set5 {w : World} {g : Nat} {ks : List UnV} {rest : List Value} (h : Ub w g ks rest) {i : Nat} {o : UnV} (ho : ks[i]? = some o) (a : Int) : Ub (w.setCell ⟨g, i * 8 + 5, none⟩ (.int .i64 a)) g (ks.set i { o with load := a }) rest := by
 unfold Ub at *
 have h0 := heap_setCell_same w g (i * 8 + 5) _ _ (.int .i64 a) h
 rw [h0, uflat_set5 ks i o a rest ho]
 simp
/-- a list of its own, as a block. -/
theorem Uno.ub {w : World} {base : Nat} {v : Value} {ks : List UnV} (h : Uno w base v ks) : (v = .slice none 0 0 ∧ ks = []) ∨ ∃ g cap rest, v = .slice (some ⟨g, 0, none⟩) ks.length cap ∧ base ≤ g ∧ ks.length ≤ cap ∧ cap ≤ maxLen ∧ ks.length * 8 + rest.length = cap * 8 ∧ Ub w g ks rest := by
 rcases h.2 with ⟨h1, h2⟩ | ⟨g, cap, cur, h1, h2, h3, h4, h5, h6, h7⟩
 ·exact .inl ⟨h1, List.length_eq_zero_iff.1 h2⟩
 ·refine .inr ⟨g, cap, cur.toList.drop (ks.length * 8), h1, h2, h4, h5, ?_, ?_⟩
  ·have e6 : cur.toList.length = cap * 8 := by simpa using h6
   rw [List.length_drop, e6]
   have : ks.length * 8 ≤ cap * 8 := Nat.mul_le_mul_right _ h4
   omega
  ·unfold Ub
   rw [← h7, List.take_append_drop, Array.toArray_toList]
   exact h3
theorem Ub.uno {w : World} {base g cap : Nat} {ks : List UnV} {rest : List Value} (h : Ub w g ks rest) (hb : base ≤ g) (h1 : ks.length ≤ cap) (h2 : cap ≤ maxLen) (h3 : ks.length * 8 + rest.length = cap * 8) : Uno w base (.slice (some ⟨g, 0, none⟩) ks.length cap) ks := by
 refine ⟨len_un ks, .inr ⟨g, cap, _, rfl, hb, h, h1, h2, ?_, ?_⟩⟩
 ·simp only [List.size_toArray, List.length_append, len_un]; omega
 ·show (ks.flatMap UnV.cs ++ rest).take (ks.length * 8) = _
  rw [List.take_append_of_le_length (by rw [len_un]; exact Nat.le_refl _), List.take_of_length_le (by rw [len_un]; exact Nat.le_refl _)]
end Go.Proofs.YteieikgkmfglaaaGreatDoor
namespace Go.Proofs.YteieikgkmfglaaaGreatDoor
open Go.RowKit
set_option linter.unusedVariables false
theorem unit_one {w : World} {z : Nat} (y : UnV) (hz : w.heap.size = z) : Ub (w.alloc (Obj.cells #[.int .i64 y.id, .int .i64 y.player, .int .i64 y.kind, .int .i64 y.at_, .int .i64 y.life, .int .i64 y.load, .int .i64 y.task, .int .i64 y.goal] 44)) z [y] [] := by
 subst hz
 exact heap_alloc_new _ _
theorem ret_inty {a b : Int} (h : a = b) : Ending.returned (.int .i64 a) = Ending.returned (.int .i64 b) := by rw [h]
set_option maxRecDepth 100000 in
set_option maxHeartbeats 8000000 in
theorem yield_any (vk vw : Value) (ks : List KV) (Y : WV) (u : UnV) (kn an : Nat) (k : KV) (x : Int) (w : World) (hk : Kl w vk ks) (hw : Wl w vw Y) (hkn : u.kind = kn) (hkk : ks[kn]? = some k) (han : u.at_ = an) (hx : Y.os[an]? = some x)
  (l1 : 0 ≤ u.load) (l2 : u.load ≤ 1000) (l3 : 0 ≤ k.n7) (l4 : k.n7 ≤ 1000) (l5 : 0 ≤ x ∧ x ≤ 1000000) :
  Calls Tryz.prog 60 #[vk, vw, u.val] w fun e w' => e = .returned (.int .i64 (yieldN ks Y u)) ∧ Below w.heap.size w w' := by
 have K : Hid (Kl w vk ks) := hk
 have H : Hid (Wl w vw Y) := hw
 have NN : Hid (u.kind = (kn : Nat) ∧ ks[kn]? = some k ∧ u.at_ = (an : Nat) ∧ Y.os[an]? = some x) := ⟨hkn, hkk, han, hx⟩
 have EY : Hid (yieldN ks Y u = (if u.task = 2 ∧ u.at_ = u.goal then min (min (k.n7 - u.load) x) 10 else 0)) := yield_le hkn hkk han hx
 have hkl : kn < ks.length := (List.getElem?_eq_some_iff.1 hkk).1
 have hal : an < Y.os.length := (List.getElem?_eq_some_iff.1 hx).1
 have hki : ((kn : Nat) : Int) < (ks.length : Nat) := by omega
 have hai : ((an : Nat) : Int) < (Y.os.length : Nat) := by omega
 obtain ⟨p1, q1, p2, q2, p3, q3, p4, q4, p5, q5, rfl⟩ := wl_shape9 hw
 obtain ⟨pk, qk, rfl, ck1, ck2, kc⟩ := hk
 obtain ⟨xk, rfl, hxk1, hxk⟩ := kc (by rintro hn; rw [hn] at hkl; simp at hkl)
 have KC : Hid (xk.block < w.heap.size ∧ Kc w (xk.add (kn * 11)) k) := ⟨hxk1, hxk kn k hkk⟩
 obtain ⟨xo, rfl, hxo⟩ : ∃ xo, p2 = some xo ∧ xo.block < w.heap.size ∧ w.cell? (xo.add an) = some (.int .i64 x) := by
  obtain ⟨k1, k2, k3, k4, k5, ev, r1, r2, r3, hu, r5⟩ := hw
  have e9 : k2 = .slice p2 Y.os.length q2 := by simp only [Value.agg.injEq, Array.mk.injEq, List.cons.injEq] at ev; exact ev.2.2.2.2.2.1.symm
  subst e9
  obtain ⟨a', c', e', -, -, hz⟩ := r2
  injection e' with e1' e2' e3'
  subst e1'
  obtain ⟨y, e, h1, h2⟩ := hz (by rintro hn; rw [hn] at hal; simp at hal)
  exact ⟨y, e, h1, h2 an x hx⟩
 have XO : Hid (xo.block < w.heap.size ∧ w.cell? (xo.add an) = some (.int .i64 x)) := hxo
 clear hw hxo hkn hkk han hx kc hxk hxk1
 unfold UnV.val
 go_enter Tryz.func60, Tryz.ntmps60
 go_upto_region 1 with fail
 have BA : Hid (Below w.heap.size w (w.alloc (Obj.cells #[.int .i64 Y.turn, .int .i64 Y.next, .int .i64 Y.wide, .int .i64 Y.high, .slice p1 Y.gs.length q1, .slice (some xo) Y.os.length q2, .slice p3 Y.gold.length q3, .slice p4 Y.us.length q4, .slice p5 Y.qs.length q5] 29))) := (Below.refl _ _).alloc (Nat.le_refl _) _
 have X0 : Hid (Bw (w.alloc (Obj.cells #[.int .i64 Y.turn, .int .i64 Y.next, .int .i64 Y.wide, .int .i64 Y.high, .slice p1 Y.gs.length q1, .slice (some xo) Y.os.length q2, .slice p3 Y.gold.length q3, .slice p4 Y.us.length q4, .slice p5 Y.qs.length q5] 29)) w.heap.size Y (.slice p1 Y.gs.length q1) (.slice (some xo) Y.os.length q2) (.slice p3 Y.gold.length q3) (.slice p4 Y.us.length q4) (.slice p5 Y.qs.length q5)) := Bw.mk' Y _ _ _ _ _ rfl
 have U0 : Hid (Ub ((w.alloc (Obj.cells #[.int .i64 Y.turn, .int .i64 Y.next, .int .i64 Y.wide, .int .i64 Y.high, .slice p1 Y.gs.length q1, .slice (some xo) Y.os.length q2, .slice p3 Y.gold.length q3, .slice p4 Y.us.length q4, .slice p5 Y.qs.length q5] 29)).alloc (Obj.cells #[.int .i64 u.id, .int .i64 u.player, .int .i64 u.kind, .int .i64 u.at_, .int .i64 u.life, .int .i64 u.load, .int .i64 u.task, .int .i64 u.goal] 44)) (w.heap.size + 1) [u] []) := unit_one u (by simp)
 have B1 : Hid (Below w.heap.size w ((w.alloc (Obj.cells #[.int .i64 Y.turn, .int .i64 Y.next, .int .i64 Y.wide, .int .i64 Y.high, .slice p1 Y.gs.length q1, .slice (some xo) Y.os.length q2, .slice p3 Y.gold.length q3, .slice p4 Y.us.length q4, .slice p5 Y.qs.length q5] 29)).alloc (Obj.cells #[.int .i64 u.id, .int .i64 u.player, .int .i64 u.kind, .int .i64 u.at_, .int .i64 u.life, .int .i64 u.load, .int .i64 u.task, .int .i64 u.goal] 44))) := BA.out.alloc (by simp) _
 have X1 : Hid (Bw ((w.alloc (Obj.cells #[.int .i64 Y.turn, .int .i64 Y.next, .int .i64 Y.wide, .int .i64 Y.high, .slice p1 Y.gs.length q1, .slice (some xo) Y.os.length q2, .slice p3 Y.gold.length q3, .slice p4 Y.us.length q4, .slice p5 Y.qs.length q5] 29)).alloc (Obj.cells #[.int .i64 u.id, .int .i64 u.player, .int .i64 u.kind, .int .i64 u.at_, .int .i64 u.life, .int .i64 u.load, .int .i64 u.task, .int .i64 u.goal] 44)) w.heap.size Y (.slice p1 Y.gs.length q1) (.slice (some xo) Y.os.length q2) (.slice p3 Y.gold.length q3) (.slice p4 Y.us.length q4) (.slice p5 Y.qs.length q5)) := X0.out.below ((Below.refl _ _).alloc (Nat.le_refl _) _) X0.out.lt
 generalize ((w.alloc (Obj.cells #[.int .i64 Y.turn, .int .i64 Y.next, .int .i64 Y.wide, .int .i64 Y.high, .slice p1 Y.gs.length q1, .slice (some xo) Y.os.length q2, .slice p3 Y.gold.length q3, .slice p4 Y.us.length q4, .slice p5 Y.qs.length q5] 29)).alloc (Obj.cells #[.int .i64 u.id, .int .i64 u.player, .int .i64 u.kind, .int .i64 u.at_, .int .i64 u.life, .int .i64 u.load, .int .i64 u.task, .int .i64 u.goal] 44)) = w1 at *
 clear BA X0
 have kc1 := KC.out.2.below B1.out (by rw [add_block]; exact KC.out.1)
 have k8 := kc1.c8
 have co : w1.cell? (xo.add an) = some (.int .i64 x) := by rw [B1.out.cell (by rw [add_block]; exact XO.out.1)]; exact XO.out.2
 obtain ⟨x0, x1, x2, x3, x4, x5, x6, x7, x8⟩ := X1.out
 obtain ⟨y0, y1, y2, y3, y4, y5, y6, y7⟩ := U0.out.unc (i := 0) (o := u) rfl
 simp only [Nat.zero_mul, Nat.zero_add] at y0 y1 y2 y3 y4 y5 y6 y7
 rw [NN.out.1] at y2
 by_cases h2 : u.task = 2
 ·rw [h2] at y6
  by_cases hg : u.at_ = u.goal
  ·have E : Hid (yieldN ks Y u = min (min (k.n7 - u.load) x) 10) := by unfold Hid; rw [EY.out, if_pos ⟨h2, hg⟩]
   rw [← hg, NN.out.2.2.1] at y7
   rw [NN.out.2.2.1] at y3
   have wr : IntKind.i64.wrap (k.n7 - u.load) = k.n7 - u.load := by rw [IntKind.wrap_i64]; omega
   clear h2 hg
   go_upto_region 3 with fail
   go_region
   all_goals (try go_wp2)
   all_goals go_ret
   all_goals refine ⟨?_, ⟨B1.out.os, B1.out.tape, B1.out.output, B1.out.size, B1.out.block⟩⟩
   all_goals (rw [E.out]; exact ret_inty (by omega))
  ·have E : Hid (yieldN ks Y u = 0) := by unfold Hid; rw [EY.out, if_neg (fun h => hg h.2)]
   clear h2
   go_wp2
   go_ret
   exact ⟨by rw [E.out]; rfl, ⟨B1.out.os, B1.out.tape, B1.out.output, B1.out.size, B1.out.block⟩⟩
 ·have E : Hid (yieldN ks Y u = 0) := by unfold Hid; rw [EY.out, if_neg (fun h => h2 h.1)]
  go_wp2
  go_ret
  exact ⟨by rw [E.out]; rfl, ⟨B1.out.os, B1.out.tape, B1.out.output, B1.out.size, B1.out.block⟩⟩
end Go.Proofs.YteieikgkmfglaaaGreatDoor
