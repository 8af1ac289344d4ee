/- feed.Apply. · Numbers in bytes: fold. · Numbers in bytes: fold, unfold, Read. · Numbers that are read one by one: what is kept meanwhile. · feed.Unpack: what next reads. · feed.Unpack. · api.Unit: records in memory. · api.Job: records in memory. · Worlds in bytes. Plain mathematics. · The reference: a number in bytes. -/
import Derived.Test.YtkejdkajfnaieaaGreatDoorZFeedReads1
import Derived.BigQuiet
import Derived.Deep.DeepCutAuto
namespace Go.Proofs.YtkejdkajfnaieaaGreatDoor
open Go.RowKit
set_option linter.unusedVariables false

/-- what is wrong ahead of all else. -/
def aFault (a : List UInt8) (l : List ChV) : Int := if 6000 < a.length then 4 else chk (Fe.isThere a) l
/-- what Apply tells. -/
def AppSays (a : List UInt8) (l : List ChV) (w w' : World) (v r : Value) : Prop :=
  (aFault a l ≠ 0 ∧ v = .slice none 0 0 ∧ Er r (aFault a l)) ∨ (aFault a l = 0 ∧ Fe.applied a l 6000 = none ∧ v = .slice none 0 0 ∧ Er r 3) ∨ (aFault a l = 0 ∧ ∃ b, Fe.applied a l 6000 = some b ∧ r = .nilIface ∧ Ob w' w.heap.size v b)
theorem chk_zero {ok : ChV → Bool} {l : List ChV} (h : chk ok l = 0) : l.length ≤ 6000 ∧ Fe.Fine ok (-1) l := by
  unfold chk at h
  split at h
  · cases h
  · exact ⟨by omega, Fe.fine_zero.1 h⟩
theorem chk_of {ok : ChV → Bool} {l : List ChV} (h1 : l.length ≤ 6000) (h2 : Fe.Fine ok (-1) l) : chk ok l = 0 := by
  unfold chk
  rw [if_neg (by omega)]
  exact Fe.fine_zero.2 h2
set_option maxRecDepth 100000 in
set_option maxHeartbeats 8000000 in
theorem Apply_any (va vl : Value) (a : List UInt8) (ks : List ChV) (w : World) (ha : By w va a) (hl : Chl w vl ks) :
    Calls Tryz.prog 27 #[va, vl] w fun e w' => ∃ v r, e = .returned (.tuple #[v, r]) ∧ AppSays a ks w w' v r ∧ Below w.heap.size w w' := by
  have A : Hid (By w va a) := ha
  have L : Hid (Chl w vl ks) := hl
  obtain ⟨pa, ca, rfl, a1, a2, -⟩ := ha
  obtain ⟨pl, cl, rfl, l1, l2, -⟩ := hl
  have a2' : ca ≤ 9223372036854775807 := by unfold maxLen at a2; omega
  clear a2
  have B0 : Hid (Below w.heap.size w (w.alloc (Obj.cells #[.slice pa a.length ca] 46))) := (Below.refl _ _).alloc (Nat.le_refl _) _
  have c0 : Hid ((w.alloc (Obj.cells #[.slice pa a.length ca] 46)).cell? ⟨w.heap.size, 0, none⟩ = some (.slice pa a.length ca) ∧ w.heap.size < (w.alloc (Obj.cells #[.slice pa a.length ca] 46)).heap.size) := ⟨by simp, by simp⟩
  by_cases h6 : 6000 < a.length
  · have h6' : (6000 : Int) < (a.length : Int) := by omega
    have E : Hid (aFault a ks = 4) := by unfold Hid aFault; rw [if_pos h6]
    clear h6
    go_enter Tryz.func27, Tryz.ntmps27
    go_wp2
    go_ret2
    exact ⟨_, _, rfl, .inl ⟨by rw [E.out]; decide, rfl, by rw [E.out]; exact Er.no (by decide)⟩, B0.out⟩
  have h6' : ¬ (6000 : Int) < (a.length : Int) := by omega
  have E : Hid (aFault a ks = chk (Fe.isThere a) ks) := by unfold Hid aFault; rw [if_neg h6]
  clear h6
  go_enter Tryz.func27, Tryz.ntmps27
  go_upto_region 4 with fail
  generalize w.alloc (Obj.cells #[.slice pa a.length ca] 46) = w0 at *
  obtain ⟨z, hz⟩ : ∃ z, w.heap.size = z := ⟨_, rfl⟩
  have HZ : Hid (w.heap.size = z) := hz
  rw [hz] at c0 ⊢
  have y0 := c0.out.1
  go_wp2_with fail
  refine (fcheck_any 81 (by intro args w; go_simp) _ #[.pointer (some ⟨z, 0, none⟩)] ks (Fe.isThere a) w0 (L.out.below B0.out) ?_).mono ?_
  · intro W hW c hc
    exact isThere_any _ a z c W ((A.out.below B0.out).below hW) (by rw [hW.cell c0.out.2]; exact c0.out.1) hc
  rintro e w1 ⟨r, rfl, hr, hb⟩
  have B1 : Hid (Below w.heap.size w w1) := B0.out.trans (hb.mono B0.out.size)
  have y1 : w1.cell? ⟨z, 0, none⟩ = some (.slice pa a.length ca) := by rw [hb.cell c0.out.2]; exact c0.out.1
  have HR : Hid (Er r (aFault a ks)) := by unfold Hid; rw [E.out]; exact hr
  obtain ⟨f, hf⟩ : ∃ f, aFault a ks = f := ⟨_, rfl⟩
  have HF : Hid (aFault a ks = f) := hf
  rw [hf] at HR
  clear hr hb hf y0
  rcases HR.out with ⟨rfl, rfl⟩ | ⟨hne, rfl⟩
  case inr =>
    have NE : Hid (f ≠ 0) := hne
    clear hne
    go_wp2
    go_ret2
    exact ⟨_, _, rfl, .inl ⟨by rw [HF.out]; exact NE.out, rfl, by rw [HF.out]; exact HR.out⟩, B1.out⟩
  obtain ⟨k1, k2⟩ := chk_zero (by rw [← E.out]; exact HF.out)
  have KF : Hid (ks.length ≤ 6000 ∧ ∀ c ∈ ks, ¬ Fe.Bad c) := ⟨k1, Fe.fine_mem k2⟩
  clear k1 k2
  go_wp2_with fail
  refine (changed_any _ _ a ks w1 (A.out.below B1.out) (L.out.below B1.out) KF.out.1 KF.out.2).mono ?_
  rintro e w2 ⟨v, r, rfl, hs, hb⟩
  have B2 : Hid (Below w.heap.size w w2) := B1.out.trans (hb.mono B1.out.size)
  have HS : Hid (ChgSays a ks w1 w2 v r) := hs
  clear hb hs
  go_wp2
  go_ret2
  refine ⟨_, _, rfl, .inr ?_, B2.out⟩
  rcases HS.out with ⟨h1, h2, h3⟩ | ⟨b, h1, h2, h3⟩
  · exact .inl ⟨HF.out, h1, h2, by rw [h3]; exact Er.no (by decide)⟩
  · exact .inr ⟨HF.out, b, h1, h2, Go.Joins.ownsRow_le h3 B1.out.size⟩
end Go.Proofs.YtkejdkajfnaieaaGreatDoor

namespace Go.Proofs.YtkejdkajfnaieaaGreatDoor
open Go.RowKit
set_option linter.unusedVariables false

set_option maxHeartbeats 1000000 in
theorem fold_any (n : Int) (w : World) (h : Wd.In64 n) : Calls Tryz.prog 130 #[.int .i64 n] w fun e w' => e = .returned (.int .u64 (Wd.zz n : Nat)) ∧ w' = w := by
  unfold Wd.In64 at h
  by_cases h0 : n < 0
  · obtain ⟨m, hm⟩ : ∃ m : Nat, n = -((m : Int) + 1) := ⟨(-(n + 1)).toNat, by omega⟩
    subst hm
    have E : Hid (Wd.zz (-((m : Int) + 1)) = m * 2 + 1) := by unfold Hid Wd.zz; rw [if_pos h0]; omega
    have e1 : -((m : Int) + 1) + 1 = -(m : Int) := by omega
    have e2 : - -(m : Int) = m := by omega
    have w1 : IntKind.i64.wrap (-(m : Int)) = -(m : Int) := by rw [IntKind.wrap_i64]; omega
    have w2 : IntKind.i64.wrap (m : Int) = (m : Int) := by rw [IntKind.wrap_i64]; omega
    have hm : (m : Int) < 9223372036854775808 := by omega
    clear h
    go_enter Tryz.func130, Tryz.ntmps130
    go_wp2
    go_ret
    refine ⟨?_, rfl⟩
    rw [E.out]
    show Ending.returned (.int .u64 _) = _
    congr 2
    try simp only [w2]
    omega
  · obtain ⟨m, rfl⟩ : ∃ m : Nat, n = m := ⟨n.toNat, by omega⟩
    have E : Hid (Wd.zz (m : Int) = m * 2) := by unfold Hid Wd.zz; rw [if_neg h0]; omega
    have hm : (m : Int) < 9223372036854775808 := by omega
    clear h
    go_enter Tryz.func130, Tryz.ntmps130
    go_wp2
    go_ret
    refine ⟨?_, rfl⟩
    rw [E.out]
    show Ending.returned (.int .u64 _) = _
    congr 2
    try simp only [w2]
    omega
end Go.Proofs.YtkejdkajfnaieaaGreatDoor

namespace Go.Proofs.YtkejdkajfnaieaaGreatDoor
open Go.RowKit
set_option linter.unusedVariables false

set_option maxHeartbeats 1000000 in
theorem unfold_any (x : Nat) (w : World) (h : x < 18446744073709551616) : Calls Tryz.prog 120 #[.int .u64 (x : Nat)] w fun e w' => e = .returned (.int .i64 (Wd.unz x)) ∧ w' = w := by
  obtain ⟨m, hm⟩ : ∃ m : Nat, x / 2 = m := ⟨_, rfl⟩
  have hi : (x : Int) / 2 = m := by omega
  have hb : (m : Int) < 9223372036854775808 := by omega
  have w2 : IntKind.i64.wrap (m : Int) = (m : Int) := by rw [IntKind.wrap_i64]; omega
  by_cases h1 : x % 2 = 1
  · have E : Hid (Wd.unz x = -(m : Int) - 1) := by unfold Hid Wd.unz; rw [if_pos h1, hm]
    have hr : (x : Int) % 2 = 1 := by omega
    go_enter Tryz.func120, Tryz.ntmps120
    go_wp2
    go_ret
    refine ⟨?_, rfl⟩
    rw [E.out]
    rfl
  · have E : Hid (Wd.unz x = (m : Int)) := by unfold Hid Wd.unz; rw [if_neg h1, hm]
    have hr : (x : Int) % 2 = 0 := by omega
    go_enter Tryz.func120, Tryz.ntmps120
    go_wp2
    go_ret
    refine ⟨?_, rfl⟩
    rw [E.out]
    rfl

/-- what Read says. -/
def ReadSays (l : List UInt8) (u : Value) : Prop := match Wd.rd 0 0 l with
  | none => u = .tuple #[.int .i64 0, .int .i64 0]
  | some (x, n) => u = .tuple #[.int .i64 (Wd.unz x), .int .i64 (n : Nat)]
theorem rd_step {l : List UInt8} {k x : Nat} {c : UInt8} (h : l[k]? = some c) : Wd.rd k x (l.drop k) = if k = 9 ∧ 1 < c.toNat then none else if 128 ≤ c.toNat then Wd.rd (k + 1) (x + c.toNat % 128 * 128 ^ k) (l.drop (k + 1)) else if c.toNat = 0 ∧ 0 < k then none else some (x + c.toNat * 128 ^ k, k + 1) := by
  obtain ⟨hi, e⟩ := List.getElem?_eq_some_iff.1 h
  rw [List.drop_eq_getElem_cons hi, e]
  rfl
set_option maxRecDepth 100000 in
set_option maxHeartbeats 4000000 in
theorem read_any (v : Value) (l : List UInt8) (w : World) (h : By w v l) :
    Calls Tryz.prog 56 #[v] w fun e w' => (∃ u, e = .returned u ∧ ReadSays l u) ∧ w' = w := by
  obtain ⟨a, cap, rfl, h1, h2, h3⟩ := h
  have H : Hid (l ≠ [] → ∃ x, a = some x ∧ x.block < w.heap.size ∧ ∀ (i : Nat) d, l[i]? = some d → w.cell? (x.add i) = some (.int .u8 (d.toNat : Int))) := h3
  have HL : Hid (l.length ≤ 9223372036854775807) := by unfold Hid; unfold maxLen at h2; omega
  clear h1 h2 h3
  go_enter Tryz.func56, Tryz.ntmps56
  go_wp2
  go_loopw [4, 9] (fun xv iv W => ∃ (x k : Nat), xv = .int .u64 (x : Nat) ∧ iv = .int .i64 (k : Nat) ∧ k ≤ l.length ∧ k ≤ 9 ∧ x < 128 ^ k ∧ Wd.rd k x (l.drop k) = Wd.rd 0 0 l ∧ W = w) (fun _ iv _ => l.length - (intOf iv).toNat)
  case atStart => exact ⟨0, 0, rfl, rfl, Nat.zero_le _, by omega, by decide, rfl, rfl⟩
  case round =>
    obtain ⟨x, k, rfl, rfl, hk, hk9, hx, hrd, rfl⟩ := hrel
    have HR : Hid (Wd.rd k x (l.drop k) = Wd.rd 0 0 l) := hrd
    clear hrd
    by_cases hkl : k = l.length
    · have E : Hid (Wd.rd 0 0 l = none) := by
        unfold Hid
        rw [← HR.out, hkl, List.drop_length]
        rfl
      clear hx hk hk9
      subst hkl
      go_wp2
      go_ret2
      refine ⟨⟨_, rfl, ?_⟩, rfl⟩
      unfold ReadSays
      rw [E.out]
      rfl
    · have hlt : k < l.length := by omega
      obtain ⟨c, hc⟩ : ∃ c, l[k]? = some c := ⟨_, List.getElem?_eq_getElem hlt⟩
      obtain ⟨ad, rfl, had, hcell⟩ := H.out (by intro e; subst e; simp at hlt)
      have HS := rd_step (x := x) hc
      rw [HR.out] at HS
      have HC : Hid (Wd.rd 0 0 l = if k = 9 ∧ 1 < c.toNat then none else if 128 ≤ c.toNat then Wd.rd (k + 1) (x + c.toNat % 128 * 128 ^ k) (l.drop (k + 1)) else if c.toNat = 0 ∧ 0 < k then none else some (x + c.toNat * 128 ^ k, k + 1)) := HS
      have hcc : wr.cell? (ad.add k) = some (.int .u8 (c.toNat : Int)) := hcell k c hc
      have hcl : c.toNat < 256 := c.toNat_lt
      generalize c.toNat = n at *
      clear hcell had HS HR hc
      have hli : (k : Int) < (l.length : Int) := by omega
      by_cases h9 : k = 9 ∧ 1 < n
      · obtain ⟨hk0, hn1⟩ := h9
        have E : Hid (Wd.rd 0 0 l = none) := by unfold Hid; rw [HC.out, if_pos ⟨hk0, hn1⟩]
        have hkb : (((k : Nat) : Int) == 9) = true := by
          have : ((k : Nat) : Int) = 9 := by omega
          simpa using this
        have hni : (1 : Int) < (n : Int) := by omega
        clear HC hx hk0
        go_wp2
        go_ret2
        refine ⟨⟨_, rfl, ?_⟩, rfl⟩
        unfold ReadSays
        rw [E.out]
        rfl
      · have E9 : Hid (Wd.rd 0 0 l = if 128 ≤ n then Wd.rd (k + 1) (x + n % 128 * 128 ^ k) (l.drop (k + 1)) else if n = 0 ∧ 0 < k then none else some (x + n * 128 ^ k, k + 1)) := by unfold Hid; rw [HC.out, if_neg h9]
        obtain ⟨m, hm⟩ : ∃ m, n % 128 = m := ⟨_, rfl⟩
        have hmi : (n : Int) % 128 = m := by omega
        have hm2 : m < 128 := by omega
        have HX : Hid (x < 128 ^ k) := hx
        obtain ⟨y, hy⟩ : ∃ y, m * 128 ^ k = y := ⟨_, rfl⟩
        obtain ⟨z, hz⟩ : ∃ z, x + y = z := ⟨_, rfl⟩
        have e2 : (2 : Int) ^ (7 * k) = ((128 ^ k : Nat) : Int) := by
          have h := Nat.pow_mul 2 7 k
          rw [show (2 ^ 7 : Nat) = 128 from rfl] at h
          rw [← h]
          simp
        have ey : (m : Int) * 2 ^ (7 * k) = (y : Nat) := by rw [e2, ← hy]; simp
        have hb : y ≤ 9223372036854775808 ∧ z < 18446744073709551616 := by
          by_cases hk0 : k = 9
          · subst hk0
            have : m ≤ 1 := by omega
            have h2 : m * 128 ^ 9 ≤ 1 * 128 ^ 9 := Nat.mul_le_mul_right _ this
            rw [Wd.pow9] at h2 hx
            omega
          · have h8 : 128 ^ k ≤ 128 ^ 8 := Nat.pow_le_pow_right (by decide) (by omega)
            have h82 : (128 : Nat) ^ 8 = 72057594037927936 := by decide
            have : m * 128 ^ k ≤ 127 * 128 ^ k := Nat.mul_le_mul_right _ (by omega)
            omega
        have wy : IntKind.u64.wrap ((y : Nat) : Int) = (y : Nat) := by rw [IntKind.wrap_u64]; omega
        have ez : ((x : Nat) : Int) + (y : Nat) = (z : Nat) := by omega
        have wz : IntKind.u64.wrap ((z : Nat) : Int) = (z : Nat) := by rw [IntKind.wrap_u64]; omega
        have zb : z < 18446744073709551616 := hb.2
        have HZ : Hid (x + m * 128 ^ k = z) := by unfold Hid; rw [hy]; exact hz
        have HM : Hid (n % 128 = m) := hm
        have hk7 : (7 : Int) * (k : Int) < 64 := by omega
        clear HC hx e2 hb hy hz hm
        have KB : (∃ c : Bool, (((k : Nat) : Int) == 9) = c ∧ (c = true → n ≤ 1)) := ⟨_, rfl, fun h => by
          have : ((k : Nat) : Int) = 9 := by simpa using h
          omega⟩
        obtain ⟨c, hkb, hcn⟩ := KB
        have HK9 : Hid (k ≤ 9 ∧ ¬ (k = 9 ∧ 1 < n)) := ⟨hk9, h9⟩
        clear h9
        rcases Nat.lt_or_ge n 128 with hn | hn
        · have hmn : m = n := by have := HM.out; omega
          have hni : ¬ (128 : Int) ≤ (n : Int) := by omega
          by_cases h0 : n = 0 ∧ 0 < k
          · obtain ⟨rfl, hk0⟩ := h0
            have E : Hid (Wd.rd 0 0 l = none) := by unfold Hid; rw [E9.out, if_neg (by omega), if_pos ⟨rfl, hk0⟩]
            have hk0i : (0 : Int) < (k : Int) := by omega
            cases c
            all_goals
              go_wp2
              go_ret2
              refine ⟨⟨_, rfl, ?_⟩, rfl⟩
              unfold ReadSays
              rw [E.out]
              rfl
          · have E : Hid (Wd.rd 0 0 l = some (z, k + 1)) := by unfold Hid; rw [E9.out, if_neg (by omega), if_neg h0, ← HZ.out, hmn]
            have h0b : ∃ d : Bool, (((n : Nat) : Int) == 0) = d ∧ (d = true → ¬ (0 : Int) < (k : Int)) := ⟨_, rfl, fun h => by
              have : ((n : Nat) : Int) = 0 := by simpa using h
              omega⟩
            obtain ⟨d, hd, hdk⟩ := h0b
            have wk : IntKind.i64.wrap ((k : Int) + 1) = (k : Int) + 1 := by rw [IntKind.wrap_i64]; omega
            clear hmn h0
            have fin : ReadSays l (.tuple #[.int .i64 (Wd.unz z), .int .i64 ((k + 1 : Nat) : Int)]) := by
              unfold ReadSays
              rw [E.out]
            have FIN : Hid (ReadSays l (.tuple #[.int .i64 (Wd.unz z), .int .i64 ((k + 1 : Nat) : Int)])) := fin
            clear fin
            cases c
            all_goals
              have hc1 : Hid (_ = true → n ≤ 1) := hcn
              cases d
              all_goals
                have hd1 : Hid (_ = true → ¬ (0 : Int) < (k : Int)) := hdk
                try (have hcx : ¬ (1 : Int) < (n : Int) := by have := hc1.out rfl; omega)
                try (have hdx : ¬ (0 : Int) < (k : Int) := hd1.out rfl)
                clear hcn hdk hc1 hd1
                go_wp2_with fail
                refine (unfold_any z _ zb).mono ?_
                rintro e w1 ⟨rfl, rfl⟩
                go_wp2
                go_ret2
                exact ⟨⟨_, rfl, FIN.out⟩, rfl⟩
        · have hni : (128 : Int) ≤ (n : Int) := by omega
          cases c
          · have HK : Hid (k < 9) := by
              unfold Hid
              have : ¬ ((k : Nat) : Int) = 9 := by simpa using hkb
              omega
            have E : Hid (Wd.rd (k + 1) z (l.drop (k + 1)) = Wd.rd 0 0 l) := by unfold Hid; rw [E9.out, if_pos hn, HM.out, HZ.out]
            clear hcn
            go_wp2
            go_roundw
            case rel =>
              refine ⟨z, k + 1, rfl, rfl, by omega, by have := HK.out; omega, ?_, E.out, trivial⟩
              have hs : 128 ^ (k + 1) = 128 ^ k * 128 := Nat.pow_succ ..
              have : m * 128 ^ k ≤ 127 * 128 ^ k := Nat.mul_le_mul_right _ (by omega)
              have h1 := HZ.out
              have h2 := HX.out
              omega
            case measure => simp [intOf]; omega
          · have := hcn rfl
            omega
end Go.Proofs.YtkejdkajfnaieaaGreatDoor

namespace Go.Proofs.YtkejdkajfnaieaaGreatDoor
open Go.RowKit
set_option linter.unusedVariables false

/-- nothing that was there has turned but blocks y and z. -/
structure K2 (y z : Nat) (w w' : World) : Prop where
  os : w'.os = w.os
  tape : w'.tape = w.tape
  output : w'.output = w.output
  size : w.heap.size ≤ w'.heap.size
  block : ∀ k, k < w.heap.size → k ≠ y → k ≠ z → w'.heap[k]? = w.heap[k]?
theorem K2.of {y z : Nat} {w w' : World} (h : Below w.heap.size w w') : K2 y z w w' := ⟨h.os, h.tape, h.output, h.size, fun k hk _ _ => h.block k hk⟩
theorem K2.refl (y z : Nat) (w : World) : K2 y z w w := K2.of (Below.refl _ _)
theorem K2.trans {y z : Nat} {a b c : World} (h : K2 y z a b) (k : K2 y z b c) : K2 y z a c :=
  ⟨k.os.trans h.os, k.tape.trans h.tape, k.output.trans h.output, Nat.le_trans h.size k.size, fun i hi hy hz => (k.block i (Nat.lt_of_lt_of_le hi h.size) hy hz).trans (h.block i hi hy hz)⟩
theorem K2.setY {y z : Nat} (w : World) (i : Nat) (u : Value) : K2 y z w (w.setCell ⟨y, i, none⟩ u) :=
  ⟨rfl, rfl, rfl, by simp [World.setCell], fun k _ hy _ => Below.heap_setCell _ _ _ _ hy⟩
theorem K2.setZ {y z : Nat} (w : World) (i : Nat) (u : Value) : K2 y z w (w.setCell ⟨z, i, none⟩ u) :=
  ⟨rfl, rfl, rfl, by simp [World.setCell], fun k _ _ hz => Below.heap_setCell _ _ _ _ hz⟩
theorem K2.below {y z B : Nat} {a w w' : World} (h : Below B a w) (k : K2 y z w w') (hB : B ≤ w.heap.size) (hy : B ≤ y) (hz : B ≤ z) : Below B a w' :=
  h.trans ⟨k.os, k.tape, k.output, k.size, fun i hi => k.block i (by omega) (by omega) (by omega)⟩
theorem K2.cell {y z : Nat} {w w' : World} (k : K2 y z w w') (p : Addr) (hp : p.block < w.heap.size) (hy : p.block ≠ y) (hz : p.block ≠ z) : w'.cell? p = w.cell? p := by
  have := k.block p.block hp hy hz
  simp only [World.cell?, this]
theorem K2.grown {y z : Nat} {w w' : World} (k : K2 y z w w') {row : Option Nat} {w'' : World} (h : w'.grownBy w'' row) (hr : ∀ b, row = some b → w.heap.size ≤ b) : K2 y z w w'' :=
  ⟨h.os.trans k.os, h.tape.trans k.tape, h.output.trans k.output, Nat.le_trans k.size h.size, fun i hi hy hz => (h.block i (Nat.lt_of_lt_of_le hi k.size) (fun e => by have := hr i e.symm; omega)).trans (k.block i hi hy hz)⟩

/-- what is read, how far, and whether something was wrong. -/
structure Dc (w0 : World) (zb za zf : Nat) (v : Value) (l : List UInt8) (w : World) (a : Nat) (f : Bool) : Prop where
  src : By w0 v l
  low : w0.heap.size ≤ zb
  ba : zb < za
  af : za < zf
  bl : Below zb w0 w
  cb : w.cell? ⟨zb, 0, none⟩ = some v
  ca : w.heap[za]? = some (.cells #[.int .i64 (a : Nat)] 3 (0, 0))
  cf : w.heap[zf]? = some (.cells #[.bool f] 4 (0, 0))
  le : a ≤ l.length
theorem Dc.ltf {w0 w : World} {zb za zf a : Nat} {v : Value} {l : List UInt8} {f : Bool} (h : Dc w0 zb za zf v l w a f) : zf < w.heap.size := lt_of_block h.cf
theorem Dc.kept {w0 w w' : World} {zb za zf a : Nat} {v : Value} {l : List UInt8} {f : Bool} (h : Dc w0 zb za zf v l w a f) (hb : Below (zf + 1) w w') : Dc w0 zb za zf v l w' a f := by
  have h1 := h.ba
  have h2 := h.af
  exact ⟨h.src, h.low, h.ba, h.af, h.bl.trans (hb.mono (by omega)), by rw [hb.cell (p := ⟨zb, 0, none⟩) (by show zb < _; omega)]; exact h.cb, by rw [hb.block za (by omega)]; exact h.ca, by rw [hb.block zf (by omega)]; exact h.cf, h.le⟩
theorem Dc.la {w0 w : World} {zb za zf a : Nat} {v : Value} {l : List UInt8} {f : Bool} (h : Dc w0 zb za zf v l w a f) : w.cell? ⟨za, 0, none⟩ = some (.int .i64 (a : Nat)) ∧ w.frozen? ⟨za, 0, none⟩ = false := ⟨by simp [World.cell?, h.ca], by simp [World.frozen?, h.ca]⟩
theorem Dc.lf {w0 w : World} {zb za zf a : Nat} {v : Value} {l : List UInt8} {f : Bool} (h : Dc w0 zb za zf v l w a f) : w.cell? ⟨zf, 0, none⟩ = some (.bool f) ∧ w.frozen? ⟨zf, 0, none⟩ = false := ⟨by simp [World.cell?, h.cf], by simp [World.frozen?, h.cf]⟩
theorem Dc.by_ {w0 w : World} {zb za zf a : Nat} {v : Value} {l : List UInt8} {f : Bool} (h : Dc w0 zb za zf v l w a f) : By w v l := h.src.below (h.bl.mono h.low)

/-- what it says. -/
def NextSays (w0 : World) (zb za zf : Nat) (v : Value) (l : List UInt8) (w : World) (a : Nat) (f : Bool) (e : Ending) (w' : World) : Prop :=
  ∃ (n : Int) (a' : Nat) (f' : Bool), e = .returned (.int .i64 n) ∧ Wd.Rd (Wd.pnum l) a f n a' f' ∧ Dc w0 zb za zf v l w' a' f' ∧ K2 za zf w w'
theorem By.drop {w : World} {ad : Option Addr} {n : Nat} {l : List UInt8} {c k : Nat} (h : By w (.slice ad n c) l) (hk : k ≤ l.length) : By w (.slice (Option.map (fun x => x.add k) ad) (l.length - k) (c - k)) (l.drop k) := by
  obtain ⟨a, c', e, h1, h2, h3⟩ := h
  injection e with e1 e2 e3
  subst e1 e3
  refine ⟨_, _, by rw [List.length_drop], by rw [List.length_drop]; omega, by omega, fun hn => ?_⟩
  obtain ⟨y, e, hy, hc⟩ := h3 (by intro h; subst h; simp at hn)
  subst e
  refine ⟨_, rfl, by rw [add_block]; exact hy, fun i d hi => ?_⟩
  rw [List.getElem?_drop] at hi
  rw [Addr.add_add]
  exact hc _ d hi
theorem By.end_ (w : World) (ad : Option Addr) (l : List UInt8) {k : Nat} (hk : l.length ≤ k) : By w (.slice ad (l.length - k) 0) (l.drop k) := by
  have : l.drop k = [] := List.drop_eq_nil_of_le hk
  rw [this]
  exact ⟨ad, 0, by rw [List.length_nil]; congr 1; omega, Nat.le_refl _, by omega, fun h => absurd rfl h⟩
theorem Dc.put {w0 w : World} {zb za zf a a' : Nat} {v : Value} {l : List UInt8} {f f' : Bool} (h : Dc w0 zb za zf v l w a f) (hle : a' ≤ l.length) : Dc w0 zb za zf v l ((w.setCell ⟨za, 0, none⟩ (.int .i64 (a' : Nat))).setCell ⟨zf, 0, none⟩ (.bool f')) a' f' ∧ K2 za zf w ((w.setCell ⟨za, 0, none⟩ (.int .i64 (a' : Nat))).setCell ⟨zf, 0, none⟩ (.bool f')) := by
  have h1 := h.ba
  have h2 := h.af
  have hs : K2 za zf w ((w.setCell ⟨za, 0, none⟩ (.int .i64 (a' : Nat))).setCell ⟨zf, 0, none⟩ (.bool f')) := (K2.setY w 0 _).trans (K2.setZ _ 0 _)
  have lf := h.ltf
  refine ⟨⟨h.src, h.low, h.ba, h.af, hs.below h.bl (by omega) (by omega) (by omega), ?_, ?_, ?_, hle⟩, hs⟩
  · rw [hs.cell ⟨zb, 0, none⟩ (by show zb < _; omega) (by show zb ≠ _; omega) (by show zb ≠ _; omega)]; exact h.cb
  · rw [Below.heap_setCell _ _ _ _ (by show za ≠ zf; omega)]
    exact heap_setCell_same w za 0 _ _ (.int .i64 (a' : Nat)) h.ca
  · exact heap_setCell_same _ zf 0 _ _ (.bool f') ((Below.heap_setCell w ⟨za, 0, none⟩ _ _ (by show zf ≠ za; omega)).trans h.cf)
theorem owns_k2 {y z : Nat} {w w' : World} {base : Nat} {T : TypeId} {size : Nat} {u : Value} {n : Nat} {cs : List Value} (h : w.ownsRow base T size u n cs) (k : K2 y z w w') (hy : y < base) (hz : z < base) : w'.ownsRow base T size u n cs := by
  refine ⟨h.1, ?_⟩
  rcases h.2 with h1 | ⟨g, cap, cur, h1, h2, h3, h4⟩
  · exact .inl h1
  · exact .inr ⟨g, cap, cur, h1, h2, (k.block g (lt_of_block h3) (by omega) (by omega)).trans h3, h4⟩
end Go.Proofs.YtkejdkajfnaieaaGreatDoor

namespace Go.Proofs.YtkejdkajfnaieaaGreatDoor
open Go.RowKit
set_option linter.unusedVariables false

set_option maxHeartbeats 2000000 in
theorem unext_any (w0 : World) (zb za zf : Nat) (v : Value) (l : List UInt8) (w : World) (a : Nat) (f : Bool) (h : Dc w0 zb za zf v l w a f) :
    Calls Tryz.prog 55 #[.pointer (some ⟨zb, 0, none⟩), .pointer (some ⟨za, 0, none⟩), .pointer (some ⟨zf, 0, none⟩)] w (NextSays w0 zb za zf v l w a f) := by
  have D : Hid (Dc w0 zb za zf v l w a f) := h
  have B : Hid (By w v l) := h.by_
  obtain ⟨ad, cap, rfl, h1, h2, h3⟩ := h.by_
  have cb := h.cb
  obtain ⟨ca, fa⟩ := h.la
  obtain ⟨cf, ff⟩ := h.lf
  have le := h.le
  have cm : cap ≤ 9223372036854775807 := by unfold maxLen at h2; omega
  clear h h2 h3
  go_enter Tryz.func55, Tryz.ntmps55
  go_wp2_with fail
  all_goals
    refine (read_any _ (l.drop a) _ (by first | exact B.out.drop le | exact By.end_ _ _ _ (by omega))).mono ?_
    rintro e w1 ⟨⟨u, rfl, hu⟩, rfl⟩
    have ne : za ≠ zf := by have := D.out.af; omega
    have ne' : zf ≠ za := fun e => ne e.symm
    unfold ReadSays at hu
    cases hr : Wd.rd 0 0 (l.drop a) with
    | none =>
      rw [hr] at hu
      subst hu
      have E : Hid (Wd.pnum l a = none) := by unfold Hid Wd.pnum; rw [hr]
      have F : Hid (NextSays w0 zb za zf (.slice ad l.length _) l w1 a f (.returned (.int .i64 0)) ((w1.setCell ⟨za, 0, none⟩ (.int .i64 (a : Nat))).setCell ⟨zf, 0, none⟩ (.bool true))) := ⟨0, a, true, rfl, ⟨fun _ => rfl, fun _ => .inr ⟨E.out, rfl⟩⟩, (D.out.put le).1, (D.out.put le).2⟩
      cases f
      all_goals
        go_wp2
        go_ret
        exact F.out
    | some p =>
      obtain ⟨x, n⟩ := p
      rw [hr] at hu
      subst hu
      obtain ⟨k1, k2, k3, k4⟩ := Wd.rd_le _ 0 0 x n (by omega) (by decide) hr
      rw [List.length_drop] at k2
      obtain ⟨a', ha'⟩ : ∃ a', a + n = a' := ⟨_, rfl⟩
      have E : Hid (Wd.pnum l a = some (Wd.unz x, a')) := by unfold Hid Wd.pnum; rw [hr, ← ha']
      have ai : (a : Int) + (n : Int) = (a' : Nat) := by omega
      have wa : IntKind.i64.wrap ((a' : Nat) : Int) = (a' : Nat) := by rw [IntKind.wrap_i64]; omega
      have hn0 : (((n : Nat) : Int) == 0) = false := by
        have : ¬ ((n : Nat) : Int) = 0 := by omega
        simpa using this
      have F : Hid (NextSays w0 zb za zf (.slice ad l.length _) l w1 a f (.returned (.int .i64 (Wd.unz x))) ((w1.setCell ⟨za, 0, none⟩ (.int .i64 (a' : Nat))).setCell ⟨zf, 0, none⟩ (.bool f))) := ⟨_, a', f, rfl, ⟨fun h => h, fun h => .inl ⟨E.out, h⟩⟩, (D.out.put (by omega)).1, (D.out.put (by omega)).2⟩
      clear hr k1 k2 k3 k4 ha'
      cases f
      all_goals
        go_wp2
        go_ret
        exact F.out
end Go.Proofs.YtkejdkajfnaieaaGreatDoor

namespace Go.Proofs.YtkejdkajfnaieaaGreatDoor
open Go.RowKit
set_option linter.unusedVariables false

theorem i64_to64 (n : Int) : IntKind.i64.wrap n = wrap64 n := by unfold wrap64; exact IntKind.wrap_i64 n
namespace Fe
theorem ptr_next {l : List UInt8} {a0 n : Nat} {ls : List ChV} {p : Int} {a : Nat} {x y z : Int} {a1 a2 a3 : Nat} {f1 f2 f3 : Bool} (h : ptr l a0 n = some (ls, p, a)) (r1 : Wd.Rd (Wd.pnum l) a false x a1 f1) (r2 : Wd.Rd (Wd.pnum l) a1 f1 y a2 f2) (r3 : Wd.Rd (Wd.pnum l) a2 f2 z a3 f3) :
    (f3 = false ∧ ptr l a0 (n + 1) = some (ls ++ [⟨wrap (p + x), wrap (y - 1), wrap (z - 1)⟩], wrap (p + x), a3)) ∨ (f3 = true ∧ ptr l a0 (n + 1) = none) := by
  unfold ptr
  rw [h]
  simp only
  rcases r1.2 rfl with ⟨e1, rfl⟩ | ⟨e1, rfl⟩
  · rw [e1]
    simp only
    rcases r2.2 rfl with ⟨e2, rfl⟩ | ⟨e2, rfl⟩
    · rw [e2]
      simp only
      rcases r3.2 rfl with ⟨e3, rfl⟩ | ⟨e3, rfl⟩
      · rw [e3]
        exact .inl ⟨rfl, rfl⟩
      · rw [e3]
        exact .inr ⟨rfl, rfl⟩
    · rw [e2]
      exact .inr ⟨r3.1 rfl, rfl⟩
  · rw [e1]
    exact .inr ⟨r3.1 (r2.1 rfl), rfl⟩
theorem unp_no {l : List UInt8} (h : Wd.pnum l 0 = none) : unpack l = none := by unfold unpack; rw [h]
theorem unp_off {l : List UInt8} {m : Int} {a0 : Nat} (h : Wd.pnum l 0 = some (m, a0)) (hm : ¬ (0 ≤ m ∧ m ≤ 6000)) : unpack l = none := by unfold unpack; rw [h]; simp only; rw [if_neg hm]
theorem unp_early {l : List UInt8} {m : Int} {a0 n : Nat} (h : Wd.pnum l 0 = some (m, a0)) (hn : (n : Int) ≤ m) (hp : ptr l a0 n = none) : unpack l = none := by
  unfold unpack
  rw [h]
  simp only
  split
  · have : ptr l a0 m.toNat = none := by
      have := ptr_none hp (m.toNat - n)
      rwa [show n + (m.toNat - n) = m.toNat by omega] at this
    rw [this]
  · rfl
theorem unp_all {l : List UInt8} {m : Int} {a0 n : Nat} {ls : List ChV} {p : Int} {a : Nat} (h : Wd.pnum l 0 = some (m, a0)) (h1 : m ≤ 6000) (hn : (n : Int) = m) (hp : ptr l a0 n = some (ls, p, a)) : unpack l = if cfault (fun _ => true) (-1) ls = 0 then some (ls, a) else none := by
  unfold unpack
  rw [h]
  simp only
  rw [if_pos (by omega), show m.toNat = n by omega, hp]
end Fe
def slen : Value → Nat
  | .slice _ n _ => n
  | _ => 0
theorem Dc.setf {w0 w : World} {zb za zf a : Nat} {v : Value} {l : List UInt8} {f f' : Bool} (h : Dc w0 zb za zf v l w a f) : Dc w0 zb za zf v l (w.setCell ⟨zf, 0, none⟩ (.bool f')) a f' ∧ K2 za zf w (w.setCell ⟨zf, 0, none⟩ (.bool f')) := by
  have h1 := h.ba
  have h2 := h.af
  have hs : K2 za zf w (w.setCell ⟨zf, 0, none⟩ (.bool f')) := K2.setZ _ 0 _
  have lf := h.ltf
  refine ⟨⟨h.src, h.low, h.ba, h.af, hs.below h.bl (by omega) (by omega) (by omega), ?_, ?_, ?_, h.le⟩, hs⟩
  · rw [hs.cell ⟨zb, 0, none⟩ (by show zb < _; omega) (by show zb ≠ _; omega) (by show zb ≠ _; omega)]; exact h.cb
  · rw [Below.heap_setCell _ _ _ _ (by show za ≠ zf; omega)]
    exact h.ca
  · exact heap_setCell_same _ zf 0 _ _ (.bool f') h.cf
/-- what Unpack tells. -/
def UnpSays (l : List UInt8) (w w' : World) (v n r : Value) : Prop :=
  (Fe.unpack l = none ∧ v = .slice none 0 0 ∧ n = .int .i64 0 ∧ Er r 9) ∨ (∃ ls a, Fe.unpack l = some (ls, a) ∧ r = .nilIface ∧ n = .int .i64 (a : Nat) ∧ Cho w' w.heap.size v ls)
set_option maxRecDepth 100000 in
set_option maxHeartbeats 16000000 in
theorem Unpack_any (vb : Value) (l : List UInt8) (w : World) (hl : By w vb l) :
    Calls Tryz.prog 15 #[vb] w fun e w' => ∃ v n r, e = .returned (.tuple #[v, n, r]) ∧ UnpSays l w w' v n r ∧ Below w.heap.size w w' := by
  have L : Hid (By w vb l) := hl
  obtain ⟨pa, ca, rfl, a1, a2, -⟩ := hl
  clear a2
  go_enter Tryz.func15, Tryz.ntmps15
  go_upto_region 3 with fail
  have D0 : Hid (Dc w w.heap.size (w.heap.size + 1) (w.heap.size + 1 + 1) (.slice pa l.length ca) l (((w.alloc (Obj.cells #[.slice pa l.length ca] 46)).alloc (Obj.cells #[.int .i64 0] 3)).alloc (Obj.cells #[.bool false] 4)) 0 false) := by
    refine ⟨L.out, Nat.le_refl _, by omega, by omega, (((Below.refl _ _).alloc (Nat.le_refl _) _).alloc (by simp) _).alloc (by simp; omega) _, ?_, ?_, ?_, Nat.zero_le _⟩
    · have c9 : (w.alloc (Obj.cells #[.slice pa l.length ca] 46)).cell? ⟨w.heap.size, 0, none⟩ = some (.slice pa l.length ca) := by simp
      rw [(((Below.refl _ _).alloc (Nat.le_refl _) _).alloc (B := (w.alloc (Obj.cells #[.slice pa l.length ca] 46)).heap.size) (by simp) _).cell (p := ⟨w.heap.size, 0, none⟩) (by simp)]
      exact c9
    · have h9 := heap_alloc_new (w.alloc (Obj.cells #[.slice pa l.length ca] 46)) (Obj.cells #[.int .i64 0] 3)
      have e9 : (w.alloc (Obj.cells #[.slice pa l.length ca] 46)).heap.size = w.heap.size + 1 := by simp
      rw [e9] at h9
      rw [((Below.refl _ _).alloc (Nat.le_refl _) _).block (w.heap.size + 1) (by simp)]
      exact h9
    · have h9 := heap_alloc_new ((w.alloc (Obj.cells #[.slice pa l.length ca] 46)).alloc (Obj.cells #[.int .i64 0] 3)) (Obj.cells #[.bool false] 4)
      have e9 : ((w.alloc (Obj.cells #[.slice pa l.length ca] 46)).alloc (Obj.cells #[.int .i64 0] 3)).heap.size = w.heap.size + 1 + 1 := by simp
      rw [e9] at h9
      exact h9
  generalize (((w.alloc (Obj.cells #[.slice pa l.length ca] 46)).alloc (Obj.cells #[.int .i64 0] 3)).alloc (Obj.cells #[.bool false] 4)) = w0 at *
  obtain ⟨zb, hzb⟩ : ∃ z, w.heap.size = z := ⟨_, rfl⟩
  have HZ : Hid (w.heap.size = zb) := hzb
  rw [hzb] at D0 ⊢
  obtain ⟨za, hza⟩ : ∃ z, zb + 1 = z := ⟨_, rfl⟩
  obtain ⟨zf, hzf⟩ : ∃ z, zb + 1 + 1 = z := ⟨_, rfl⟩
  have HZ2 : Hid (zb + 1 = za ∧ za + 1 = zf) := ⟨hza, by omega⟩
  rw [hzf, hza] at D0 ⊢
  clear hza hzf hzb
  go_wp2_with fail
  refine (unext_any w zb za zf _ l w0 0 false D0.out).mono ?_
  rintro e w1 ⟨m, b0, f1, rfl, hrd, hd, hk2⟩
  have R1 : Hid (Wd.Rd (Wd.pnum l) 0 false m b0 f1) := hrd
  have D1 : Hid (Dc w zb za zf (.slice pa l.length ca) l w1 b0 f1) := hd
  clear hrd hd hk2 D0
  have UN : Hid (f1 = true → Fe.unpack l = none) := by
    intro hf
    rcases R1.out.2 rfl with ⟨-, e⟩ | ⟨e, -⟩
    · rw [hf] at e; cases e
    · exact Fe.unp_no e
  have PN : Hid (f1 = false → Wd.pnum l 0 = some (m, b0)) := by
    intro hf
    rcases R1.out.2 rfl with ⟨e, -⟩ | ⟨-, e⟩
    · exact e
    · rw [hf] at e; cases e
  obtain ⟨cf, tf⟩ := D1.out.lf
  go_upto_region 4 with fail
  go_cut [19] (fun v19 W => ∃ g : Bool, v19 = .bool g ∧ Dc w zb za zf (.slice pa l.length ca) l W b0 g ∧ (g = true → Fe.unpack l = none) ∧ (g = false → Wd.pnum l 0 = some (m, b0) ∧ 0 ≤ m ∧ m ≤ 6000))
  case first =>
    cases f1 with
    | true =>
      have UT : Hid (Fe.unpack l = none) := UN.out rfl
      clear UN PN R1
      have DN : Hid (Dc w zb za zf (.slice pa l.length ca) l (w1.setCell ⟨zf, 0, none⟩ (.bool true)) b0 true) := D1.out.setf.1
      go_wp2
      go_meet
      case rel => exact ⟨true, rfl, DN.out, fun _ => UT.out, fun h => (by cases h)⟩
    | false =>
      have PT : Hid (Wd.pnum l 0 = some (m, b0)) := PN.out rfl
      clear UN PN R1
      by_cases hm : 0 ≤ m ∧ m ≤ 6000
      · have WI := fwin_is m 0 6000 true (decide_eq_true hm)
        have HM : Hid (0 ≤ m ∧ m ≤ 6000) := hm
        have DN : Hid (Dc w zb za zf (.slice pa l.length ca) l (w1.setCell ⟨zf, 0, none⟩ (.bool false)) b0 false) := D1.out.setf.1
        clear hm
        go_wp2_with fail
        refine (WI.out _).mono ?_
        rintro e w2 ⟨rfl, rfl⟩
        go_wp2
        go_meet
        case rel => exact ⟨false, rfl, DN.out, fun h => (by cases h), fun _ => ⟨PT.out, HM.out.1, HM.out.2⟩⟩
      · have WI := fwin_is m 0 6000 false (decide_eq_false hm)
        have UF : Hid (Fe.unpack l = none) := Fe.unp_off PT.out hm
        have DN : Hid (Dc w zb za zf (.slice pa l.length ca) l (w1.setCell ⟨zf, 0, none⟩ (.bool true)) b0 true) := D1.out.setf.1
        clear hm
        go_wp2_with fail
        refine (WI.out _).mono ?_
        rintro e w2 ⟨rfl, rfl⟩
        go_wp2
        go_meet
        case rel => exact ⟨true, rfl, DN.out, fun _ => UF.out, fun h => (by cases h)⟩
  case rest =>
  obtain ⟨g, rfl, hd, hg1, hg2⟩ := hcut
  have D2 : Hid (Dc w zb za zf (.slice pa l.length ca) l wc b0 g) := hd
  have G : Hid ((g = true → Fe.unpack l = none) ∧ (g = false → Wd.pnum l 0 = some (m, b0) ∧ 0 ≤ m ∧ m ≤ 6000)) := ⟨hg1, hg2⟩
  clear hd hg1 hg2 D1 cf tf R1 UN PN
  go_wp2_with fail
  go_loopw [9, 10] (fun pv lv W => ∃ (n : Nat) (ls : List ChV) (p : Int) (a : Nat) (f : Bool), ls.length = n ∧ n ≤ 6000 ∧ pv = .int .i64 p ∧ Cho W (zf + 1) lv ls ∧ Dc w zb za zf (.slice pa l.length ca) l W a f ∧ (f = true → Fe.unpack l = none) ∧ (f = false → Wd.pnum l 0 = some (m, b0) ∧ 0 ≤ m ∧ m ≤ 6000 ∧ (n : Int) ≤ m ∧ Fe.ptr l b0 n = some (ls, p, a))) (fun _ lv _ => m.toNat - slen lv)
  case atStart => exact ⟨0, [], 0, b0, g, rfl, Nat.zero_le _, rfl, Cho.nil _ _, D2.out, G.out.1, fun h => ⟨(G.out.2 h).1, (G.out.2 h).2.1, (G.out.2 h).2.2, (G.out.2 h).2.1, rfl⟩⟩
  case round =>
  obtain ⟨n, ls, p, a, f, hln, hn6, rfl, ho, hd, hf1, hf2⟩ := hrel
  have LN : Hid (ls.length = n) := hln
  have O : Hid (Cho wr (zf + 1) u10 ls) := ho
  have D3 : Hid (Dc w zb za zf (.slice pa l.length ca) l wr a f) := hd
  have F1 : Hid (f = true → Fe.unpack l = none) := hf1
  have F2 : Hid (f = false → Wd.pnum l 0 = some (m, b0) ∧ 0 ≤ m ∧ m ≤ 6000 ∧ (n : Int) ≤ m ∧ Fe.ptr l b0 n = some (ls, p, a)) := hf2
  have BW : Hid (Below w.heap.size w wr) := by unfold Hid; rw [HZ.out]; exact D3.out.bl
  obtain ⟨op, oc, rfl⟩ := ho.len
  obtain ⟨cf, tf⟩ := D3.out.lf
  obtain ⟨cl, tl⟩ := D3.out.la
  clear ho hd hf1 hf2 D2 G
  rw [hln]
  clear hln
  cases f with
  | true =>
    have UN : Hid (Fe.unpack l = none) := F1.out rfl
    by_cases hnm : (n : Int) < m
    · go_wp2
      go_ret3
      exact ⟨_, _, _, rfl, .inl ⟨UN.out, rfl, rfl, Er.no (by decide)⟩, BW.out⟩
    · go_wp2
      go_ret3
      exact ⟨_, _, _, rfl, .inl ⟨UN.out, rfl, rfl, Er.no (by decide)⟩, BW.out⟩
  | false =>
    obtain ⟨pm, hm0, hm6, hnm, hptr⟩ := F2.out rfl
    have PM : Hid (Wd.pnum l 0 = some (m, b0)) := pm
    have PT : Hid (Fe.ptr l b0 n = some (ls, p, a)) := hptr
    clear pm hptr F1 F2
    by_cases hne : (n : Int) = m
    · have hlt : ¬ (n : Int) < m := by omega
      have UA : Hid (Fe.unpack l = if Fe.cfault (fun _ => true) (-1) ls = 0 then some (ls, a) else none) := Fe.unp_all PM.out hm6 hne PT.out
      have OC : Hid (Chl wr (.slice op n oc) ls) := by
        have := O.out.l
        rw [LN.out] at this
        exact this
      go_wp2_with fail
      refine (fcheck_any 59 (by intro args w; go_simp) _ #[] ls (fun _ => true) wr OC.out (fun W hW c hc => anywhere_any c W)).mono ?_
      rintro e w5 ⟨r, rfl, hr, hb⟩
      have B5 : Hid (Below w.heap.size w w5) := BW.out.trans (hb.mono BW.out.size)
      have O5 : Hid (Cho w5 w.heap.size (.slice op n oc) ls) := by
        have := (O.out.below hb).mono (base' := w.heap.size) (by have := HZ2.out; have := HZ.out; omega)
        rw [LN.out] at this
        exact this
      have cl5 : w5.cell? ⟨za, 0, none⟩ = some (.int .i64 (a : Nat)) := by rw [hb.cell (p := ⟨za, 0, none⟩) (cell_lt cl)]; exact cl
      have CF : Hid (Er r (Fe.cfault (fun _ => true) (-1) ls)) := by
        have : chk (fun _ => true) ls = Fe.cfault (fun _ => true) (-1) ls := by unfold chk; rw [if_neg (by rw [LN.out]; omega)]
        rw [this] at hr
        exact hr
      clear hr hb OC
      rcases CF.out with ⟨h0, rfl⟩ | ⟨h0, rfl⟩
      · have UE : Hid (Fe.unpack l = some (ls, a)) := by unfold Hid; rw [UA.out, if_pos h0]
        have BQ : Hid (∀ q, Below w.heap.size w (w5.drewN q)) := fun q => ⟨B5.out.os, B5.out.tape, B5.out.output, B5.out.size, B5.out.block⟩
        have OQ : Hid (∀ q, Cho (w5.drewN q) w.heap.size (.slice op n oc) ls) := fun q => O5.out
        clear h0
        go_wp2
        go_quiet (fail)
        go_wp2
        go_ret3
        exact ⟨_, _, _, rfl, .inr ⟨ls, a, UE.out, rfl, rfl, OQ.out _⟩, BQ.out _⟩
      · have UE : Hid (Fe.unpack l = none) := by unfold Hid; rw [UA.out, if_neg h0]
        clear h0
        go_wp2
        go_ret3
        exact ⟨_, _, _, rfl, .inl ⟨UE.out, rfl, rfl, Er.no (by decide)⟩, B5.out⟩
    have hlt : (n : Int) < m := by omega
    go_wp2_with fail
    refine (unext_any w zb za zf _ l wr a false D3.out).mono ?_
    rintro e w2 ⟨x, a1, f1, rfl, hr1, hd1, hk1⟩
    have R1 : Hid (Wd.Rd (Wd.pnum l) a false x a1 f1) := hr1
    have E1 : Hid (Dc w zb za zf (.slice pa l.length ca) l w2 a1 f1) := hd1
    have K1 : Hid (K2 za zf wr w2) := hk1
    clear hr1 hd1 hk1
    go_wp2_with fail
    refine (unext_any w zb za zf _ l w2 a1 f1 E1.out).mono ?_
    rintro e w3 ⟨y, a2, f2, rfl, hr1, hd1, hk1⟩
    have R2 : Hid (Wd.Rd (Wd.pnum l) a1 f1 y a2 f2) := hr1
    have E2 : Hid (Dc w zb za zf (.slice pa l.length ca) l w3 a2 f2) := hd1
    have K2' : Hid (K2 za zf wr w3) := K1.out.trans hk1
    clear hr1 hd1 hk1
    go_wp2_with fail
    refine (unext_any w zb za zf _ l w3 a2 f2 E2.out).mono ?_
    rintro e w4 ⟨zz, a3, f3, rfl, hr1, hd1, hk1⟩
    have R3 : Hid (Wd.Rd (Wd.pnum l) a2 f2 zz a3 f3) := hr1
    have E3 : Hid (Dc w zb za zf (.slice pa l.length ca) l w4 a3 f3) := hd1
    have K3 : Hid (K2 za zf wr w4) := K2'.out.trans hk1
    clear hr1 hd1 hk1
    have PX : Hid ((f3 = false ∧ Fe.ptr l b0 (n + 1) = some (ls ++ [⟨Fe.wrap (p + x), Fe.wrap (y - 1), Fe.wrap (zz - 1)⟩], Fe.wrap (p + x), a3)) ∨ (f3 = true ∧ Fe.ptr l b0 (n + 1) = none)) := Fe.ptr_next PT.out R1.out R2.out R3.out
    simp only [Fe.wrap, i64_to64] at PX
    obtain ⟨x', hx'⟩ : ∃ v, wrap64 (p + x) = v := ⟨_, rfl⟩
    obtain ⟨y', hy'⟩ : ∃ v, wrap64 (y - 1) = v := ⟨_, rfl⟩
    obtain ⟨z', hz'⟩ : ∃ v, wrap64 (zz - 1) = v := ⟨_, rfl⟩
    rw [hx', hy', hz'] at PX
    have O4 : Hid (Cho w4 (zf + 1) (.slice op n oc) ls) := by
      have := owns_k2 O.out K3.out (by have := HZ2.out; omega) (by omega)
      rw [LN.out] at this
      unfold Hid Cho
      rw [LN.out]
      exact this
    have S4 : Hid (zf + 1 ≤ w4.heap.size) := E3.out.ltf
    try rw [hx']
    go_wp2_with (at_builtin; refine app_ch _ rfl _ _ rfl (zf + 1) _ ls rfl (O4.out.alloc _) w4.heap.size ⟨x', y', z'⟩ rfl (Chc.mk' ⟨x', y', z'⟩ rfl) (by rw [LN.out]; omega) (by have := S4.out; simp; omega) ?_)
    intro gg cap w5 o5 g5 _ l5
    have O5 : Hid (Cho w5 (zf + 1) (.slice (some ⟨gg, 0, none⟩) (ls.length + 1) cap) (ls ++ [⟨x', y', z'⟩])) := o5
    have hob : ∀ j, (Value.slice op n oc).ownBlock = some j → zf + 1 ≤ j := fun j hj => (O4.out.block j hj).1
    have B5 : Hid (Below (zf + 1) w4 w5) := ((Below.refl _ _).alloc S4.out _).grown g5 (by have := S4.out; simp; omega) hob
    have E5 : Hid (Dc w zb za zf (.slice pa l.length ca) l w5 a3 f3) := E3.out.kept B5.out
    clear o5 g5 l5 hob
    go_wp2
    go_roundw
    case rel => exact ⟨n + 1, ls ++ [⟨x', y', z'⟩], x', a3, f3, by rw [List.length_append, LN.out]; rfl, by omega, rfl, O5.out, E5.out, fun h => by
        rcases PX.out with ⟨e, -⟩ | ⟨-, e⟩
        · rw [h] at e; cases e
        · exact Fe.unp_early PM.out (by omega) e, fun h => by
        rcases PX.out with ⟨-, e⟩ | ⟨e, -⟩
        · exact ⟨PM.out, hm0, hm6, by omega, e⟩
        · rw [h] at e; cases e⟩
    case measure => simp [slen, LN.out]; omega
end Go.Proofs.YtkejdkajfnaieaaGreatDoor

namespace Go.Proofs.YtkejdkajfnaieaaGreatDoor
open Go.RowKit
set_option linter.unusedVariables false

structure UnV where
  id : Int
  player : Int
  kind : Int
  at_ : Int
  life : Int
  load : Int
  task : Int
  goal : Int
def UnV.val (k : UnV) : Value := .agg #[.int .i64 k.id, .int .i64 k.player, .int .i64 k.kind, .int .i64 k.at_, .int .i64 k.life, .int .i64 k.load, .int .i64 k.task, .int .i64 k.goal]
/-- its cells, from an address on. -/
structure Unc (w : World) (y : Addr) (k : UnV) : Prop where
  c0 : w.cell? y = some (.int .i64 k.id)
  c1 : w.cell? ⟨y.block, y.off + 1, none⟩ = some (.int .i64 k.player)
  c2 : w.cell? ⟨y.block, y.off + 2, none⟩ = some (.int .i64 k.kind)
  c3 : w.cell? ⟨y.block, y.off + 3, none⟩ = some (.int .i64 k.at_)
  c4 : w.cell? ⟨y.block, y.off + 4, none⟩ = some (.int .i64 k.life)
  c5 : w.cell? ⟨y.block, y.off + 5, none⟩ = some (.int .i64 k.load)
  c6 : w.cell? ⟨y.block, y.off + 6, none⟩ = some (.int .i64 k.task)
  c7 : w.cell? ⟨y.block, y.off + 7, none⟩ = some (.int .i64 k.goal)
theorem Unc.lt {w : World} {y : Addr} {k : UnV} (h : Unc w y k) : y.block < w.heap.size := cell_lt h.c0
theorem Unc.below {w w' : World} {y : Addr} {k : UnV} {B : Nat} (h : Unc w y k) (hb : Below B w w') (hy : y.block < B) : Unc w' y k :=
  ⟨by rw [hb.cell (p := y) hy]; exact h.c0, by rw [hb.cell (p := ⟨y.block, y.off + 1, none⟩) hy]; exact h.c1, by rw [hb.cell (p := ⟨y.block, y.off + 2, none⟩) hy]; exact h.c2, by rw [hb.cell (p := ⟨y.block, y.off + 3, none⟩) hy]; exact h.c3, by rw [hb.cell (p := ⟨y.block, y.off + 4, none⟩) hy]; exact h.c4, by rw [hb.cell (p := ⟨y.block, y.off + 5, none⟩) hy]; exact h.c5, by rw [hb.cell (p := ⟨y.block, y.off + 6, none⟩) hy]; exact h.c6, by rw [hb.cell (p := ⟨y.block, y.off + 7, none⟩) hy]; exact h.c7⟩
/-- v is a slice of them. -/
def Unl (w : World) (v : Value) (ks : List UnV) : Prop := ∃ a c, v = .slice a ks.length c ∧ ks.length ≤ c ∧ c ≤ 9223372036854775807 ∧ (ks ≠ [] → ∃ x, a = some x ∧ x.block < w.heap.size ∧ ∀ (i : Nat) k, ks[i]? = some k → Unc w (x.add (i * 8)) k)
theorem Unl.below {w w' : World} {v : Value} {ks : List UnV} (h : Unl w v ks) (hb : Below w.heap.size w w') : Unl w' v ks := by
  obtain ⟨a, c, h1, h2, h3, h4⟩ := h
  refine ⟨a, c, h1, h2, h3, fun hn => ?_⟩
  obtain ⟨x, e, hx, hk⟩ := h4 hn
  exact ⟨x, e, Nat.lt_of_lt_of_le hx hb.size, fun i k hi => (hk i k hi).below hb (by rw [add_block]; exact hx)⟩
theorem Unc.mk' {w : World} {z : Nat} (k : UnV) (hz : w.heap.size = z) : Unc (w.alloc (.cells #[.int .i64 k.id, .int .i64 k.player, .int .i64 k.kind, .int .i64 k.at_, .int .i64 k.life, .int .i64 k.load, .int .i64 k.task, .int .i64 k.goal] 42)) ⟨z, 0, none⟩ k := by
  subst hz
  constructor <;> simp
end Go.Proofs.YtkejdkajfnaieaaGreatDoor

namespace Go.Proofs.YtkejdkajfnaieaaGreatDoor
open Go.RowKit
set_option linter.unusedVariables false

structure JbV where
  player : Int
  unit : Int
  kind : Int
  left : Int
def JbV.val (k : JbV) : Value := .agg #[.int .i64 k.player, .int .i64 k.unit, .int .i64 k.kind, .int .i64 k.left]
/-- its cells, from an address on. -/
structure Jbc (w : World) (y : Addr) (k : JbV) : Prop where
  c0 : w.cell? y = some (.int .i64 k.player)
  c1 : w.cell? ⟨y.block, y.off + 1, none⟩ = some (.int .i64 k.unit)
  c2 : w.cell? ⟨y.block, y.off + 2, none⟩ = some (.int .i64 k.kind)
  c3 : w.cell? ⟨y.block, y.off + 3, none⟩ = some (.int .i64 k.left)
theorem Jbc.lt {w : World} {y : Addr} {k : JbV} (h : Jbc w y k) : y.block < w.heap.size := cell_lt h.c0
theorem Jbc.below {w w' : World} {y : Addr} {k : JbV} {B : Nat} (h : Jbc w y k) (hb : Below B w w') (hy : y.block < B) : Jbc w' y k :=
  ⟨by rw [hb.cell (p := y) hy]; exact h.c0, by rw [hb.cell (p := ⟨y.block, y.off + 1, none⟩) hy]; exact h.c1, by rw [hb.cell (p := ⟨y.block, y.off + 2, none⟩) hy]; exact h.c2, by rw [hb.cell (p := ⟨y.block, y.off + 3, none⟩) hy]; exact h.c3⟩
/-- v is a slice of them. -/
def Jbl (w : World) (v : Value) (ks : List JbV) : Prop := ∃ a c, v = .slice a ks.length c ∧ ks.length ≤ c ∧ c ≤ 9223372036854775807 ∧ (ks ≠ [] → ∃ x, a = some x ∧ x.block < w.heap.size ∧ ∀ (i : Nat) k, ks[i]? = some k → Jbc w (x.add (i * 4)) k)
theorem Jbl.below {w w' : World} {v : Value} {ks : List JbV} (h : Jbl w v ks) (hb : Below w.heap.size w w') : Jbl w' v ks := by
  obtain ⟨a, c, h1, h2, h3, h4⟩ := h
  refine ⟨a, c, h1, h2, h3, fun hn => ?_⟩
  obtain ⟨x, e, hx, hk⟩ := h4 hn
  exact ⟨x, e, Nat.lt_of_lt_of_le hx hb.size, fun i k hi => (hk i k hi).below hb (by rw [add_block]; exact hx)⟩
theorem Jbc.mk' {w : World} {z : Nat} (k : JbV) (hz : w.heap.size = z) : Jbc (w.alloc (.cells #[.int .i64 k.player, .int .i64 k.unit, .int .i64 k.kind, .int .i64 k.left] 104)) ⟨z, 0, none⟩ k := by
  subst hz
  constructor <;> simp
end Go.Proofs.YtkejdkajfnaieaaGreatDoor

namespace Go.Proofs.YtkejdkajfnaieaaGreatDoor
set_option linter.unusedVariables false

structure WV where
  turn : Int
  next : Int
  wide : Int
  high : Int
  gs : List Int
  os : List Int
  gold : List Int
  us : List UnV
  qs : List JbV
namespace Wd

def punit (b : List UInt8) : Pr UnV := pbind (pnum b) fun v0 => pbind (pnum b) fun v1 => pbind (pnum b) fun v2 => pbind (pnum b) fun v3 => pbind (pnum b) fun v4 => pbind (pnum b) fun v5 => pbind (pnum b) fun v6 => pbind (pnum b) fun v7 => pret ⟨v0, v1, v2, v3, v4, v5, v6, v7⟩
def pjob (b : List UInt8) : Pr JbV := pbind (pnum b) fun v0 => pbind (pnum b) fun v1 => pbind (pnum b) fun v2 => pbind (pnum b) fun v3 => pret ⟨v0, v1, v2, v3⟩
def pworld (b : List UInt8) : Pr WV := pbind (pnum b) fun t => pbind (pnum b) fun x => pbind (pnum b) fun wd => pbind (pnum b) fun hg => pbind (plist b (pnum b)) fun gs => pbind (plist b (pnum b)) fun os => pbind (plist b (pnum b)) fun gold => pbind (plist b (punit b)) fun us => pbind (plist b (pjob b)) fun qs => pret ⟨t, x, wd, hg, gs, os, gold, us, qs⟩

def unums (u : UnV) : List Int := [u.id, u.player, u.kind, u.at_, u.life, u.load, u.task, u.goal]
def jnums (j : JbV) : List Int := [j.player, j.unit, j.kind, j.left]
def nums (W : WV) : List Int := [W.turn, W.next, W.wide, W.high] ++ ((W.gs.length : Int) :: W.gs) ++ ((W.os.length : Int) :: W.os) ++ ((W.gold.length : Int) :: W.gold) ++ ((W.us.length : Int) :: W.us.flatMap unums) ++ ((W.qs.length : Int) :: W.qs.flatMap jnums)
def enc (W : WV) : List UInt8 := wr (nums W)
structure Wok (W : WV) : Prop where
  in_ : ∀ n ∈ nums W, In64 n
  g : W.gs.length ≤ 200
  o : W.os.length ≤ 200
  p : W.gold.length ≤ 200
  u : W.us.length ≤ 200
  q : W.qs.length ≤ 200

theorem reads_unit (b : List UInt8) : Reads b (punit b) unums (fun u => ∀ n ∈ unums u, In64 n) := by
  have h := reads_num b
  have := Reads.bind UnV.id h (fun v0 => Reads.bind UnV.player h (fun v1 => Reads.bind UnV.kind h (fun v2 => Reads.bind UnV.at_ h (fun v3 => Reads.bind UnV.life h (fun v4 => Reads.bind UnV.load h (fun v5 => Reads.bind UnV.task h (fun v6 => Reads.bind UnV.goal h (fun v7 => reads_ret b (⟨v0, v1, v2, v3, v4, v5, v6, v7⟩ : UnV)) (by intro v u hu; subst hu; rfl)) (by intro v u hu; rw [hu.2])) (by intro v u hu; rw [hu.2.2])) (by intro v u hu; rw [hu.2.2.2])) (by intro v u hu; rw [hu.2.2.2.2])) (by intro v u hu; rw [hu.2.2.2.2.2])) (by intro v u hu; rw [hu.2.2.2.2.2.2])) (by intro v u hu; rw [hu.2.2.2.2.2.2.2])
  refine this.as (fun v => rfl) fun v => ?_
  simp [unums]
theorem reads_job (b : List UInt8) : Reads b (pjob b) jnums (fun u => ∀ n ∈ jnums u, In64 n) := by
  have h := reads_num b
  have := Reads.bind JbV.player h (fun v0 => Reads.bind JbV.unit h (fun v1 => Reads.bind JbV.kind h (fun v2 => Reads.bind JbV.left h (fun v3 => reads_ret b (⟨v0, v1, v2, v3⟩ : JbV)) (by intro v u hu; subst hu; rfl)) (by intro v u hu; rw [hu.2])) (by intro v u hu; rw [hu.2.2])) (by intro v u hu; rw [hu.2.2.2])
  refine this.as (fun v => rfl) fun v => ?_
  simp [jnums]
theorem fm_one : ∀ l : List Int, l.flatMap (fun n => [n]) = l
  | [] => rfl
  | x :: l => by rw [List.flatMap_cons, fm_one l]; rfl
theorem reads_ints (b : List UInt8) : Reads b (plist b (pnum b)) (fun l => (l.length : Int) :: l) (fun l => l.length ≤ 200 ∧ ∀ v ∈ l, In64 v) := (reads_num b).list.as (fun v => by rw [fm_one]) (fun v => Iff.rfl)
theorem reads_world (b : List UInt8) : Reads b (pworld b) nums Wok := by
  have h := reads_num b
  have hi := reads_ints b
  have := Reads.bind WV.turn h (fun v0 => Reads.bind WV.next h (fun v1 => Reads.bind WV.wide h (fun v2 => Reads.bind WV.high h (fun v3 => Reads.bind WV.gs hi (fun v4 => Reads.bind WV.os hi (fun v5 => Reads.bind WV.gold hi (fun v6 => Reads.bind WV.us (reads_unit b).list (fun v7 => Reads.bind WV.qs (reads_job b).list (fun v8 => reads_ret b (⟨v0, v1, v2, v3, v4, v5, v6, v7, v8⟩ : WV)) (by intro v u hu; subst hu; rfl)) (by intro v u hu; rw [hu.2])) (by intro v u hu; rw [hu.2.2])) (by intro v u hu; rw [hu.2.2.2])) (by intro v u hu; rw [hu.2.2.2.2])) (by intro v u hu; rw [hu.2.2.2.2.2])) (by intro v u hu; rw [hu.2.2.2.2.2.2])) (by intro v u hu; rw [hu.2.2.2.2.2.2.2])) (by intro v u hu; rw [hu.2.2.2.2.2.2.2.2])
  refine this.as (fun v => by simp [nums]) fun v => ?_
  constructor
  · intro k
    have i := k.in_
    have mem : ∀ {n : Int}, n ∈ nums v ↔ n = v.turn ∨ n = v.next ∨ n = v.wide ∨ n = v.high ∨ n = v.gs.length ∨ n ∈ v.gs ∨ n = v.os.length ∨ n ∈ v.os ∨ n = v.gold.length ∨ n ∈ v.gold ∨ n = v.us.length ∨ n ∈ v.us.flatMap unums ∨ n = v.qs.length ∨ n ∈ v.qs.flatMap jnums := by
      intro n; simp [nums]
    refine ⟨i _ (mem.2 (by simp)), i _ (mem.2 (by simp)), i _ (mem.2 (by simp)), i _ (mem.2 (by simp)), ⟨k.g, fun n hn => i _ (mem.2 (by simp [hn]))⟩, ⟨k.o, fun n hn => i _ (mem.2 (by simp [hn]))⟩, ⟨k.p, fun n hn => i _ (mem.2 (by simp [hn]))⟩, ⟨k.u, fun u hu n hn => i _ (mem.2 ?_)⟩, ⟨k.q, fun u hu n hn => i _ (mem.2 ?_)⟩, rfl⟩
    · have : n ∈ v.us.flatMap unums := List.mem_flatMap.2 ⟨u, hu, hn⟩
      simp only [this, true_or, or_true]
    · have : n ∈ v.qs.flatMap jnums := List.mem_flatMap.2 ⟨u, hu, hn⟩
      simp only [this, or_true]
  · rintro ⟨h0, h1, h2, h3, ⟨h4, h5⟩, ⟨h6, h7⟩, ⟨h8, h9⟩, ⟨h10, h11⟩, ⟨h12, h13⟩, -⟩
    refine ⟨?_, h4, h6, h8, h10, h12⟩
    intro n hn
    simp only [nums, List.mem_append, List.mem_cons, List.not_mem_nil, or_false, List.mem_flatMap] at hn
    rcases hn with (((((rfl | rfl | rfl | rfl) | (rfl | hn)) | (rfl | hn)) | (rfl | hn)) | (rfl | ⟨u, hu, hn⟩)) | (rfl | ⟨u, hu, hn⟩)
    · exact h0
    · exact h1
    · exact h2
    · exact h3
    · exact in_200 h4
    · exact h5 _ hn
    · exact in_200 h6
    · exact h7 _ hn
    · exact in_200 h8
    · exact h9 _ hn
    · exact in_200 h10
    · exact h11 u hu n hn
    · exact in_200 h12
    · exact h13 u hu n hn

theorem dec_enc {W : WV} (h : Wok W) (t : List UInt8) : pworld (enc W ++ t) 0 = some (W, (enc W).length) := by
  have := (reads_world (enc W ++ t)).fwd (a := 0) (v := W) (t := t) h rfl
  rw [Nat.zero_add] at this
  exact this
theorem dec_back {b : List UInt8} {W : WV} {n : Nat} (h : pworld b 0 = some (W, n)) : Wok W ∧ b = enc W ++ b.drop n ∧ n = (enc W).length := by
  obtain ⟨h1, h2, h3⟩ := (reads_world b).back h
  exact ⟨h1, h2, by rw [h3, Nat.zero_add]; rfl⟩
theorem num_pos (n : Int) : 0 < (num n).length := by
  unfold num
  by_cases h : zz n < 128
  · rw [vl_small h]; simp
  · rw [vl_great (by omega)]; simp
theorem dec_cut {W : WV} (h : Wok W) {m : Nat} (hm : m < (enc W).length) : pworld ((enc W).take m) 0 = none := by
  cases hp : pworld ((enc W).take m) 0 with
  | none => rfl
  | some x =>
    obtain ⟨W', n⟩ := x
    obtain ⟨k1, k2, k3⟩ := dec_back hp
    have e : enc W = enc W' ++ (((enc W).take m).drop n ++ (enc W).drop m) := by
      rw [← List.append_assoc, ← k2, List.take_append_drop]
    have d1 := dec_enc k1 (((enc W).take m).drop n ++ (enc W).drop m)
    rw [← e] at d1
    have d2 := dec_enc h []
    rw [List.append_nil, d1] at d2
    have d3 : (enc W').length = (enc W).length := by injection d2 with d2; injection d2
    have d4 := congrArg List.length k2
    rw [List.length_append, List.length_take] at d4
    omega
end Wd
end Go.Proofs.YtkejdkajfnaieaaGreatDoor

namespace Go.Proofs.YtkejdkajfnaieaaGreatDoor
open Go.RowKit
set_option linter.unusedVariables false

/-- what is read, how far, and whether something was wrong. -/
structure Dr (w0 : World) (z : Nat) (v : Value) (l : List UInt8) (w : World) (a : Nat) (f : Bool) : Prop where
  src : By w0 v l
  low : w0.heap.size ≤ z
  bl : Below z w0 w
  blk : w.heap[z]? = some (.cells #[v, .int .i64 (a : Nat), .bool f] 107 (0, 0))
  le : a ≤ l.length
theorem Dr.lt {w0 w : World} {z a : Nat} {v : Value} {l : List UInt8} {f : Bool} (h : Dr w0 z v l w a f) : z < w.heap.size := lt_of_block h.blk
theorem Dr.cells {w0 w : World} {z a : Nat} {v : Value} {l : List UInt8} {f : Bool} (h : Dr w0 z v l w a f) : w.cell? ⟨z, 0, none⟩ = some v ∧ w.cell? ⟨z, 1, none⟩ = some (.int .i64 (a : Nat)) ∧ w.cell? ⟨z, 2, none⟩ = some (.bool f) := by
  have := h.blk
  refine ⟨?_, ?_, ?_⟩ <;> simp [World.cell?, this]
theorem Dr.thaw {w0 w : World} {z a : Nat} {v : Value} {l : List UInt8} {f : Bool} (h : Dr w0 z v l w a f) (i : Nat) : w.frozen? ⟨z, i, none⟩ = false := by
  have := h.blk
  simp [World.frozen?, this]
theorem Dr.kept {w0 w w' : World} {z a : Nat} {v : Value} {l : List UInt8} {f : Bool} (h : Dr w0 z v l w a f) (hb : Below (z + 1) w w') : Dr w0 z v l w' a f :=
  ⟨h.src, h.low, h.bl.trans (hb.mono (by omega)), by rw [hb.block z (by omega)]; exact h.blk, h.le⟩
theorem Dr.by_ {w0 w : World} {z a : Nat} {v : Value} {l : List UInt8} {f : Bool} (h : Dr w0 z v l w a f) : By w v l := h.src.below (h.bl.mono h.low)
theorem Dr.at_ {w0 w : World} {z a : Nat} {v : Value} {l : List UInt8} {f : Bool} (h : Dr w0 z v l w a f) {a' : Nat} (hle : a' ≤ l.length) : Dr w0 z v l (w.setCell ⟨z, 1, none⟩ (.int .i64 (a' : Nat))) a' f :=
  ⟨h.src, h.low, Kp.below h.bl (Kp.set w 1 _) (Nat.le_of_lt h.lt) (Nat.le_refl _), heap_setCell_same w z 1 _ _ (.int .i64 (a' : Nat)) h.blk, hle⟩
theorem Dr.bad {w0 w : World} {z a : Nat} {v : Value} {l : List UInt8} {f : Bool} (h : Dr w0 z v l w a f) (f' : Bool) : Dr w0 z v l (w.setCell ⟨z, 2, none⟩ (.bool f')) a f' :=
  ⟨h.src, h.low, Kp.below h.bl (Kp.set w 2 _) (Nat.le_of_lt h.lt) (Nat.le_refl _), heap_setCell_same w z 2 _ _ (.bool f') h.blk, h.le⟩
theorem Dr.drewN {w0 w : World} {z a : Nat} {v : Value} {l : List UInt8} {f : Bool} (h : Dr w0 z v l w a f) (n : Nat) : Dr w0 z v l (w.drewN n) a f := h.kept (_root_.Go.below_drewN (Below.refl _ _) n)
theorem Wd.Rd.none {α : Type} {p : Wd.Pr α} {a : Nat} {v : α} {a' : Nat} (h : p a = Option.none) : Wd.Rd p a false v a' true := ⟨(fun h => by cases h), fun _ => .inr ⟨h, rfl⟩⟩
theorem Wd.Rd.some {α : Type} {p : Wd.Pr α} {a : Nat} {v : α} {a' : Nat} (h : p a = Option.some (v, a')) : Wd.Rd p a false v a' false := ⟨fun h => h, fun _ => .inl ⟨h, rfl⟩⟩
/-- what Num says. -/
def RnSays (w0 : World) (z : Nat) (v : Value) (l : List UInt8) (w : World) (a : Nat) (f : Bool) (e : Ending) (w' : World) : Prop :=
  ∃ (n : Int) (a' : Nat) (f' : Bool), e = .returned (.int .i64 n) ∧ Wd.Rd (Wd.pnum l) a f n a' f' ∧ Dr w0 z v l w' a' f' ∧ Kp z w w'
theorem pnum_none {l : List UInt8} {a : Nat} (h : Wd.rd 0 0 (l.drop a) = none) : Wd.pnum l a = none := by unfold Wd.pnum; rw [h]
theorem pnum_some {l : List UInt8} {a x n : Nat} (h : Wd.rd 0 0 (l.drop a) = some (x, n)) : Wd.pnum l a = some (Wd.unz x, a + n) := by unfold Wd.pnum; rw [h]
theorem Kp.cellsOf {z : Nat} {w w' : World} (k : Kp z w w') (p : Addr) (hp : p.block < w.heap.size) (hz : p.block ≠ z) : w'.cell? p = w.cell? p := by
  have := k.block p.block hp hz
  simp only [World.cell?, this]
set_option maxRecDepth 100000 in
set_option maxHeartbeats 4000000 in
theorem rnum_any (w0 : World) (z : Nat) (v : Value) (l : List UInt8) (w : World) (a : Nat) (f : Bool) (h : Dr w0 z v l w a f) :
    Calls Tryz.prog 53 #[.pointer (some ⟨z, 0, none⟩)] w (RnSays w0 z v l w a f) := by
  have D : Hid (Dr w0 z v l w a f) := h
  obtain ⟨ad, cap, rfl, hc1, hc2, hc3⟩ := h.by_
  clear hc3
  cases f with
  | true =>
    obtain ⟨c0, c1, c2⟩ := h.cells
    have t2 := h.thaw 2
    clear h
    have FIN : Hid (RnSays w0 z (.slice ad l.length cap) l w a true (.returned (.int .i64 0)) (w.setCell ⟨z, 2, none⟩ (.bool true))) := ⟨0, a, true, rfl, Wd.Rd.bad, D.out.bad true, Kp.set w 2 _⟩
    go_enter Tryz.func53, Tryz.ntmps53
    go_wp2
    refine wp_loop_rounds 1 ?_
    rw [rounds_succ]
    go_wp2
    go_ret
    exact FIN.out
  | false =>
    clear h
    go_enter Tryz.func53, Tryz.ntmps53
    go_wp2
    go_loopw [3, 4, 5] (fun xv bv iv W => ∃ (x k : Nat), xv = .int .u64 (x : Nat) ∧ bv = .int .u64 ((128 ^ k : Nat) : Int) ∧ iv = .int .i64 (k : Nat) ∧ k ≤ 9 ∧ x < 128 ^ k ∧ Dr w0 z (.slice ad l.length cap) l W (a + k) false ∧ Kp z w W ∧ Wd.rd k x (l.drop (a + k)) = Wd.rd 0 0 (l.drop a)) (fun _ _ iv _ => 10 - (intOf iv).toNat)
    case atStart => exact ⟨0, 0, rfl, rfl, rfl, by omega, by decide, D.out, Kp.refl _ _, rfl⟩
    case round =>
      obtain ⟨x, k, rfl, rfl, rfl, hk9, hx, hd, hk, hrd⟩ := hrel
      have D1 : Hid (Dr w0 z (.slice ad l.length cap) l wr (a + k) false) := hd
      have K1 : Hid (Kp z w wr) := hk
      have HR : Hid (Wd.rd k x (l.drop (a + k)) = Wd.rd 0 0 (l.drop a)) := hrd
      have hk10 : (k : Int) < 10 := by omega
      obtain ⟨b, hb⟩ : ∃ b, a + k = b := ⟨_, rfl⟩
      rw [hb] at D1 HR hd
      have HB : Hid (a + k = b) := hb
      obtain ⟨c0, c1, c2⟩ := hd.cells
      have hble : b ≤ l.length := hd.le
      have t1 := hd.thaw 1
      have t2 := hd.thaw 2
      have BY := hd.by_
      clear hd hk hrd hb
      by_cases hend : b = l.length
      · have E : Hid (Wd.rd 0 0 (l.drop a) = none) := by
          unfold Hid
          rw [← HR.out, hend, List.drop_length]
          rfl
        have hge : (l.length : Int) ≤ (b : Int) := by omega
        have FIN : Hid (∀ q, RnSays w0 z (.slice ad l.length cap) l w a false (.returned (.int .i64 0)) ((wr.drewN q).setCell ⟨z, 2, none⟩ (.bool true))) := fun q => ⟨0, b, true, rfl, Wd.Rd.none (pnum_none E.out), (D1.out.drewN q).bad true, (K1.out.drewN q).trans (Kp.set _ 2 _)⟩
        clear hx BY hend
        go_wp2
        go_quiet (fail)
        go_wp2
        go_ret
        exact FIN.out _
      · have hlt : b < l.length := by omega
        have hlti : ¬ (l.length : Int) ≤ (b : Int) := by omega
        have hlt2 : (b : Int) < (l.length : Int) := by omega
        obtain ⟨c, hc⟩ : ∃ c, l[b]? = some c := ⟨_, List.getElem?_eq_getElem hlt⟩
        obtain ⟨ad', cap', e, -, -, hcell⟩ := BY
        injection e with e1 e2 e3
        subst e1 e3
        obtain ⟨y, rfl, hy, hcy⟩ := hcell (by intro e; subst e; simp at hlt)
        have cc : wr.cell? (y.add b) = some (.int .u8 (c.toNat : Int)) := hcy b c hc
        have HS : Hid (Wd.rd 0 0 (l.drop a) = if k = 9 ∧ 1 < c.toNat then none else if 128 ≤ c.toNat then Wd.rd (k + 1) (x + c.toNat % 128 * 128 ^ k) (l.drop (b + 1)) else if c.toNat = 0 ∧ 0 < k then none else some (x + c.toNat * 128 ^ k, k + 1)) := by
          unfold Hid
          rw [← HR.out]
          obtain ⟨hi, e⟩ := List.getElem?_eq_some_iff.1 hc
          rw [List.drop_eq_getElem_cons hi, e]
          rfl
        have hcl : c.toNat < 256 := c.toNat_lt
        generalize c.toNat = n at *
        obtain ⟨b1, hb1⟩ : ∃ b1, b + 1 = b1 := ⟨_, rfl⟩
        have bi : (b : Int) + 1 = (b1 : Nat) := by omega
        have wb : IntKind.i64.wrap ((b1 : Nat) : Int) = (b1 : Nat) := by
          have : l.length ≤ 9223372036854775807 := by unfold maxLen at hc2; omega
          rw [IntKind.wrap_i64]; omega
        have hb1l : b1 ≤ l.length := by omega
        have HB1 : Hid (b + 1 = b1) := hb1
        rw [hb1] at HS
        clear hb1
        have p128 : Hid (x < 128 ^ k) := hx
        obtain ⟨p, hp⟩ : ∃ p, 128 ^ k = p := ⟨_, rfl⟩
        have hpi : (128 : Int) ^ k = (p : Nat) := by rw [← hp]; simp
        obtain ⟨m, hm⟩ : ∃ m, n % 128 = m := ⟨_, rfl⟩
        have hmi : (n : Int) % 128 = m := by omega
        have hm2 : m < 128 := by omega
        clear hcell hcy hy hc hend HR
        go_wp2
        go_quiet (fail)
        have DA : Hid (Dr w0 z (.slice (some y) l.length cap) l (wr.drewN nq) b false ∧ Kp z w (wr.drewN nq) ∧ (wr.drewN nq).cell? (y.add b) = some (.int .u8 (n : Int))) := ⟨D1.out.drewN nq, K1.out.drewN nq, cc⟩
        generalize wr.drewN nq = w2 at *
        clear c0 c1 c2 t1 t2 cc
        obtain ⟨c0, c1, c2⟩ := DA.out.1.cells
        have cc := DA.out.2.2
        go_wp2
        go_quiet (fail)
        have DB : Hid (Dr w0 z (.slice (some y) l.length cap) l (w2.drewN nq) b false ∧ Kp z w (w2.drewN nq)) := ⟨DA.out.1.drewN nq, DA.out.2.1.drewN nq⟩
        generalize w2.drewN nq = w3 at *
        clear c0 c1 c2 cc DA
        obtain ⟨c0, c1, c2⟩ := DB.out.1.cells
        have t1 := DB.out.1.thaw 1
        have D4 : Hid (Dr w0 z (.slice (some y) l.length cap) l (w3.setCell ⟨z, 1, none⟩ (.int .i64 (b1 : Nat))) b1 false) := DB.out.1.at_ hb1l
        have K4 : Hid (Kp z w (w3.setCell ⟨z, 1, none⟩ (.int .i64 (b1 : Nat)))) := DB.out.2.trans (Kp.set _ 1 _)
        go_upto_region 11 with fail
        generalize (w3.setCell ⟨z, 1, none⟩ (.int .i64 (b1 : Nat))) = w4 at *
        clear c0 c1 c2 t1 DB
        obtain ⟨c0, c1, c2⟩ := D4.out.cells
        have t2 := D4.out.thaw 2
        have hab : a + (k + 1) = b1 := by have := HB.out; have := HB1.out; omega
        have HAB : Hid (a + (k + 1) = b1) := hab
        clear hab wb bi
        have BADF : Hid (Wd.rd 0 0 (l.drop a) = none → RnSays w0 z (.slice (some y) l.length cap) l w a false (.returned (.int .i64 0)) (w4.setCell ⟨z, 2, none⟩ (.bool true))) := fun E => ⟨0, b1, true, rfl, Wd.Rd.none (pnum_none E), D4.out.bad true, K4.out.trans (Kp.set _ 2 _)⟩
        by_cases h9 : k = 9 ∧ 1 < n
        · have E : Hid (Wd.rd 0 0 (l.drop a) = none) := by unfold Hid; rw [HS.out, if_pos h9]
          have hkb : (((k : Nat) : Int) == 9) = true := by
            have : ((k : Nat) : Int) = 9 := by omega
            simpa using this
          have hn1 : (1 : Int) < (n : Int) := by omega
          clear HS h9
          go_wp2
          go_ret
          exact BADF.out E.out
        · have E9 : Hid (Wd.rd 0 0 (l.drop a) = if 128 ≤ n then Wd.rd (k + 1) (x + n % 128 * 128 ^ k) (l.drop b1) else if n = 0 ∧ 0 < k then none else some (x + n * 128 ^ k, k + 1)) := by unfold Hid; rw [HS.out, if_neg h9]
          by_cases h0 : n = 0 ∧ 0 < k
          · have E : Hid (Wd.rd 0 0 (l.drop a) = none) := by unfold Hid; rw [E9.out, if_neg (by omega), if_pos h0]
            have KB : ∃ c : Bool, (((k : Nat) : Int) == 9) = c := ⟨_, rfl⟩
            obtain ⟨c, hkb⟩ := KB
            obtain ⟨h0a, h0b⟩ := h0
            subst h0a
            have hk0i : (0 : Int) < (k : Int) := by omega
            clear HS h9 E9
            cases c
            all_goals
              go_wp2
              go_ret
              exact BADF.out E.out
          · obtain ⟨yy, hy⟩ : ∃ yy, m * p = yy := ⟨_, rfl⟩
            obtain ⟨zz, hz⟩ : ∃ zz, x + yy = zz := ⟨_, rfl⟩
            have ey : (m : Int) * (p : Nat) = (yy : Nat) := by rw [← hy]; simp
            have hb2 : yy ≤ 9223372036854775808 ∧ zz < 18446744073709551616 := by
              by_cases hk0 : k = 9
              · have hm1 : m ≤ 1 := by omega
                have h2 : m * p ≤ 1 * p := Nat.mul_le_mul_right _ hm1
                have hp9 : p = 9223372036854775808 := by rw [← hp, hk0]
                rw [hp] at hx
                omega
              · have h8 : 128 ^ k ≤ 128 ^ 8 := Nat.pow_le_pow_right (by decide) (by omega)
                have h82 : (128 : Nat) ^ 8 = 72057594037927936 := by decide
                have : m * p ≤ 127 * p := Nat.mul_le_mul_right _ (by omega)
                rw [hp] at hx h8
                omega
            have wy : IntKind.u64.wrap ((yy : Nat) : Int) = (yy : Nat) := by rw [IntKind.wrap_u64]; omega
            have ez : ((x : Nat) : Int) + (yy : Nat) = (zz : Nat) := by omega
            have wz : IntKind.u64.wrap ((zz : Nat) : Int) = (zz : Nat) := by rw [IntKind.wrap_u64]; omega
            have zb : zz < 18446744073709551616 := hb2.2
            have HZ : Hid (x + m * 128 ^ k = zz) := by unfold Hid; rw [hp, hy]; exact hz
            have HM : Hid (n % 128 = m) := hm
            by_cases hk0 : k = 0
            · have hk0i : ¬ (0 : Int) < (k : Int) := by omega
              have hkb : (((k : Nat) : Int) == 9) = false := by
                have : ¬ ((k : Nat) : Int) = 9 := by omega
                simpa using this
              have k8 : k ≤ 8 := by omega
              clear hk0
              go_upto_region 14 with fail
              rcases Nat.lt_or_ge n 128 with hn | hn
              · obtain ⟨p2, hp2⟩ : ∃ p2, p * 128 = p2 := ⟨_, rfl⟩
                have ep : (p : Int) * 128 = (p2 : Nat) := by omega
                obtain ⟨p3, hp3⟩ : ∃ p3 : Nat, IntKind.u64.wrap ((p2 : Nat) : Int) = (p3 : Nat) := ⟨(IntKind.u64.wrap ((p2 : Nat) : Int)).toNat, by rw [IntKind.wrap_u64]; omega⟩
                clear hp2
                obtain ⟨q, hq⟩ : ∃ q, zz / 2 = q := ⟨_, rfl⟩
                have hqi : (zz : Int) / 2 = q := by omega
                have hqb : (q : Int) < 9223372036854775808 := by omega
                have wq : IntKind.i64.wrap (q : Int) = (q : Int) := by rw [IntKind.wrap_i64]; omega
                have hni : (n : Int) < 128 := by omega
                have E : Hid (Wd.rd 0 0 (l.drop a) = some (zz, k + 1)) := by unfold Hid; rw [E9.out, if_neg (by omega), if_neg h0, ← HZ.out, show m = n from by have := HM.out; omega]
                have FIN : Hid (RnSays w0 z (.slice (some y) l.length cap) l w a false (.returned (.int .i64 (Wd.unz zz))) w4) := ⟨_, b1, false, rfl, Wd.Rd.some (by rw [pnum_some E.out, HAB.out]), D4.out, K4.out⟩
                by_cases h2 : zz % 2 = 1
                · have hr : (zz : Int) % 2 = 1 := by omega
                  have U : Hid (Wd.unz zz = -(q : Int) - 1) := by unfold Hid Wd.unz; rw [if_pos h2, hq]
                  have hmn : m = n := by have := HM.out; omega
                  subst hmn
                  clear HS h9 E9 h0 h2 hq hb2 hz hy hm hp hmi
                  have hmi : (m : Int) % 128 = (m : Int) := by omega
                  go_wp2
                  go_ret
                  have := FIN.out
                  rw [U.out] at this
                  exact this
                · have hr : (zz : Int) % 2 = 0 := by omega
                  have U : Hid (Wd.unz zz = (q : Int)) := by unfold Hid Wd.unz; rw [if_neg h2, hq]
                  have hmn : m = n := by have := HM.out; omega
                  subst hmn
                  clear HS h9 E9 h0 h2 hq hb2 hz hy hm hp hmi
                  have hmi : (m : Int) % 128 = (m : Int) := by omega
                  go_wp2
                  go_ret
                  have := FIN.out
                  rw [U.out] at this
                  exact this
              · have hni : ¬ (n : Int) < 128 := by omega
                obtain ⟨p2, hp2⟩ : ∃ p2, p * 128 = p2 := ⟨_, rfl⟩
                have hps : 128 ^ (k + 1) = p2 := by rw [Nat.pow_succ, hp, hp2]
                have h8 : p ≤ 72057594037927936 := by
                  rw [← hp]
                  exact Nat.le_trans (Nat.pow_le_pow_right (by decide) k8) (by decide)
                have ep : (p : Int) * 128 = (p2 : Nat) := by omega
                have wp2 : IntKind.u64.wrap ((p2 : Nat) : Int) = (p2 : Nat) := by rw [IntKind.wrap_u64]; omega
                have E : Hid (Wd.rd (k + 1) zz (l.drop b1) = Wd.rd 0 0 (l.drop a)) := by unfold Hid; rw [E9.out, if_pos hn, HM.out, HZ.out]
                have ZL : Hid (zz < 128 ^ (k + 1)) := by
                  unfold Hid
                  have : m * p ≤ 127 * p := Nat.mul_le_mul_right _ (by omega)
                  have h3 := p128.out
                  rw [hp] at h3
                  rw [hps, ← hp2]
                  omega
                have HPS : Hid (((128 ^ (k + 1) : Nat) : Int) = (p2 : Nat)) := by unfold Hid; rw [hps]
                clear HS h9 E9 h0 hb2 hz hy hm hp hps hp2
                go_wp2
                go_roundw
                case rel => exact ⟨zz, k + 1, rfl, by rw [HPS.out], rfl, by omega, ZL.out, by rw [HAB.out]; exact D4.out, K4.out, by rw [HAB.out]; exact E.out⟩
                case measure => simp [intOf]; omega
            · have hk0i : (0 : Int) < (k : Int) := by omega
              have hn0 : (((n : Nat) : Int) == 0) = false := by
                have : ¬ ((n : Nat) : Int) = 0 := by omega
                simpa using this
              by_cases hk9' : k = 9
              · have hkb : (((k : Nat) : Int) == 9) = true := by
                  have : ((k : Nat) : Int) = 9 := by omega
                  simpa using this
                have hcx : ¬ (1 : Int) < (n : Int) := by omega
                have hn : n < 128 := by omega
                clear hk9' hk0
                go_upto_region 14 with fail
                obtain ⟨p2, hp2⟩ : ∃ p2, p * 128 = p2 := ⟨_, rfl⟩
                have ep : (p : Int) * 128 = (p2 : Nat) := by omega
                obtain ⟨p3, hp3⟩ : ∃ p3 : Nat, IntKind.u64.wrap ((p2 : Nat) : Int) = (p3 : Nat) := ⟨(IntKind.u64.wrap ((p2 : Nat) : Int)).toNat, by rw [IntKind.wrap_u64]; omega⟩
                clear hp2
                obtain ⟨q, hq⟩ : ∃ q, zz / 2 = q := ⟨_, rfl⟩
                have hqi : (zz : Int) / 2 = q := by omega
                have hqb : (q : Int) < 9223372036854775808 := by omega
                have wq : IntKind.i64.wrap (q : Int) = (q : Int) := by rw [IntKind.wrap_i64]; omega
                have hni : (n : Int) < 128 := by omega
                have E : Hid (Wd.rd 0 0 (l.drop a) = some (zz, k + 1)) := by unfold Hid; rw [E9.out, if_neg (by omega), if_neg h0, ← HZ.out, show m = n from by have := HM.out; omega]
                have FIN : Hid (RnSays w0 z (.slice (some y) l.length cap) l w a false (.returned (.int .i64 (Wd.unz zz))) w4) := ⟨_, b1, false, rfl, Wd.Rd.some (by rw [pnum_some E.out, HAB.out]), D4.out, K4.out⟩
                by_cases h2 : zz % 2 = 1
                · have hr : (zz : Int) % 2 = 1 := by omega
                  have U : Hid (Wd.unz zz = -(q : Int) - 1) := by unfold Hid Wd.unz; rw [if_pos h2, hq]
                  have hmn : m = n := by have := HM.out; omega
                  subst hmn
                  clear HS h9 E9 h0 h2 hq hb2 hz hy hm hp hmi
                  have hmi : (m : Int) % 128 = (m : Int) := by omega
                  go_wp2
                  go_ret
                  have := FIN.out
                  rw [U.out] at this
                  exact this
                · have hr : (zz : Int) % 2 = 0 := by omega
                  have U : Hid (Wd.unz zz = (q : Int)) := by unfold Hid Wd.unz; rw [if_neg h2, hq]
                  have hmn : m = n := by have := HM.out; omega
                  subst hmn
                  clear HS h9 E9 h0 h2 hq hb2 hz hy hm hp hmi
                  have hmi : (m : Int) % 128 = (m : Int) := by omega
                  go_wp2
                  go_ret
                  have := FIN.out
                  rw [U.out] at this
                  exact this
              · have hkb : (((k : Nat) : Int) == 9) = false := by
                  have : ¬ ((k : Nat) : Int) = 9 := by omega
                  simpa using this
                have k8 : k ≤ 8 := by omega
                clear hk9' hk0
                go_upto_region 14 with fail
                rcases Nat.lt_or_ge n 128 with hn | hn
                · obtain ⟨p2, hp2⟩ : ∃ p2, p * 128 = p2 := ⟨_, rfl⟩
                  have ep : (p : Int) * 128 = (p2 : Nat) := by omega
                  obtain ⟨p3, hp3⟩ : ∃ p3 : Nat, IntKind.u64.wrap ((p2 : Nat) : Int) = (p3 : Nat) := ⟨(IntKind.u64.wrap ((p2 : Nat) : Int)).toNat, by rw [IntKind.wrap_u64]; omega⟩
                  clear hp2
                  obtain ⟨q, hq⟩ : ∃ q, zz / 2 = q := ⟨_, rfl⟩
                  have hqi : (zz : Int) / 2 = q := by omega
                  have hqb : (q : Int) < 9223372036854775808 := by omega
                  have wq : IntKind.i64.wrap (q : Int) = (q : Int) := by rw [IntKind.wrap_i64]; omega
                  have hni : (n : Int) < 128 := by omega
                  have E : Hid (Wd.rd 0 0 (l.drop a) = some (zz, k + 1)) := by unfold Hid; rw [E9.out, if_neg (by omega), if_neg h0, ← HZ.out, show m = n from by have := HM.out; omega]
                  have FIN : Hid (RnSays w0 z (.slice (some y) l.length cap) l w a false (.returned (.int .i64 (Wd.unz zz))) w4) := ⟨_, b1, false, rfl, Wd.Rd.some (by rw [pnum_some E.out, HAB.out]), D4.out, K4.out⟩
                  by_cases h2 : zz % 2 = 1
                  · have hr : (zz : Int) % 2 = 1 := by omega
                    have U : Hid (Wd.unz zz = -(q : Int) - 1) := by unfold Hid Wd.unz; rw [if_pos h2, hq]
                    have hmn : m = n := by have := HM.out; omega
                    subst hmn
                    clear HS h9 E9 h0 h2 hq hb2 hz hy hm hp hmi
                    have hmi : (m : Int) % 128 = (m : Int) := by omega
                    go_wp2
                    go_ret
                    have := FIN.out
                    rw [U.out] at this
                    exact this
                  · have hr : (zz : Int) % 2 = 0 := by omega
                    have U : Hid (Wd.unz zz = (q : Int)) := by unfold Hid Wd.unz; rw [if_neg h2, hq]
                    have hmn : m = n := by have := HM.out; omega
                    subst hmn
                    clear HS h9 E9 h0 h2 hq hb2 hz hy hm hp hmi
                    have hmi : (m : Int) % 128 = (m : Int) := by omega
                    go_wp2
                    go_ret
                    have := FIN.out
                    rw [U.out] at this
                    exact this
                · have hni : ¬ (n : Int) < 128 := by omega
                  obtain ⟨p2, hp2⟩ : ∃ p2, p * 128 = p2 := ⟨_, rfl⟩
                  have hps : 128 ^ (k + 1) = p2 := by rw [Nat.pow_succ, hp, hp2]
                  have h8 : p ≤ 72057594037927936 := by
                    rw [← hp]
                    exact Nat.le_trans (Nat.pow_le_pow_right (by decide) k8) (by decide)
                  have ep : (p : Int) * 128 = (p2 : Nat) := by omega
                  have wp2 : IntKind.u64.wrap ((p2 : Nat) : Int) = (p2 : Nat) := by rw [IntKind.wrap_u64]; omega
                  have E : Hid (Wd.rd (k + 1) zz (l.drop b1) = Wd.rd 0 0 (l.drop a)) := by unfold Hid; rw [E9.out, if_pos hn, HM.out, HZ.out]
                  have ZL : Hid (zz < 128 ^ (k + 1)) := by
                    unfold Hid
                    have : m * p ≤ 127 * p := Nat.mul_le_mul_right _ (by omega)
                    have h3 := p128.out
                    rw [hp] at h3
                    rw [hps, ← hp2]
                    omega
                  have HPS : Hid (((128 ^ (k + 1) : Nat) : Int) = (p2 : Nat)) := by unfold Hid; rw [hps]
                  clear HS h9 E9 h0 hb2 hz hy hm hp hps hp2
                  go_wp2
                  go_roundw
                  case rel => exact ⟨zz, k + 1, rfl, by rw [HPS.out], rfl, by omega, ZL.out, by rw [HAB.out]; exact D4.out, K4.out, by rw [HAB.out]; exact E.out⟩
                  case measure => simp [intOf]; omega
end Go.Proofs.YtkejdkajfnaieaaGreatDoor

