/- Numbers in bytes: fold, unfold, Read. · Numbers that are read one by one: what is kept meanwhile. · feed.Unpack: what next reads. · feed.Unpack. · world.Decode: what next reads. · world.Decode: what many reads. · world.Decode: lists of numbers. · world.Decode: a job. · world.Decode: lists of jobs. · world.Decode: a unit. · world.Decode: lists of units. · world.Decode: readWorld. · Worlds: Decode. · TopViews: what its calls say, read for a right world. · What a walk is told of records api.Order that came in. · What a walk is told of lists of lists of orders that came in; a part of such a list. · A region that draws its order, walked along a tree of the orders that may come: reads first, then what makes memory in each order. · Lists of integers: what marchsame.Ints answers. · What marchsame.Field answers of two fields that are the same. -/
import Derived.Test.YtoabhfipikkkeaaGreatDoorZTopViews13
import Derived.Test.YtoabhfipikkkeaaGreatDoorZTopViews1
import Derived.Test.YtoabhfipikkkeaaGreatDoorZTopViews14
import Derived.Test.YtoabhfipikkkeaaGreatDoorZTopViews2
import Derived.Test.YtoabhfipikkkeaaGreatDoorZTopViews4
import Derived.BigRegion
import Derived.Laws.ResultCell
import Derived.Deep.DeepCutAuto
import Derived.Test.YtoabhfipikkkeaaGreatDoorZTopViews3
import Derived.Deep.RegionHeld3
import Derived.Deep.SlicePairs
import Derived.ChangeArms
import Derived.ProofKit
import Derived.OpenShut
import Derived.Test.YtoabhfipikkkeaaGreatDoorZTopViews12
import Derived.Test.YtoabhfipikkkeaaGreatDoorZTopViews7
namespace Go.Proofs.YtoabhfipikkkeaaGreatDoor
open Go.RowKit
set_option linter.unusedVariables false

set_option maxHeartbeats 1000000 in
theorem unfold_any (x : Nat) (w : World) (h : x < 18446744073709551616) : Calls Tryz.prog 109 #[.int .u64 (x : Nat)] w fun e w' => e = .returned (.int .i64 (Wd.unz x)) ∧ w' = w := by
  obtain ⟨m, hm⟩ : ∃ m : Nat, x / 2 = m := ⟨_, rfl⟩
  have hi : (x : Int) / 2 = m := by omega
  have hb : (m : Int) < 9223372036854775808 := by omega
  have w2 : IntKind.i64.wrap (m : Int) = (m : Int) := by rw [IntKind.wrap_i64]; omega
  by_cases h1 : x % 2 = 1
  · have E : Hid (Wd.unz x = -(m : Int) - 1) := by unfold Hid Wd.unz; rw [if_pos h1, hm]
    have hr : (x : Int) % 2 = 1 := by omega
    go_enter Tryz.func109, Tryz.ntmps109
    go_wp2
    go_ret
    refine ⟨?_, rfl⟩
    rw [E.out]
    rfl
  · have E : Hid (Wd.unz x = (m : Int)) := by unfold Hid Wd.unz; rw [if_neg h1, hm]
    have hr : (x : Int) % 2 = 0 := by omega
    go_enter Tryz.func109, Tryz.ntmps109
    go_wp2
    go_ret
    refine ⟨?_, rfl⟩
    rw [E.out]
    rfl

/-- what Read says. -/
def ReadSays (l : List UInt8) (u : Value) : Prop := match Wd.rd 0 0 l with
  | none => u = .tuple #[.int .i64 0, .int .i64 0]
  | some (x, n) => u = .tuple #[.int .i64 (Wd.unz x), .int .i64 (n : Nat)]
theorem rd_step {l : List UInt8} {k x : Nat} {c : UInt8} (h : l[k]? = some c) : Wd.rd k x (l.drop k) = if k = 9 ∧ 1 < c.toNat then none else if 128 ≤ c.toNat then Wd.rd (k + 1) (x + c.toNat % 128 * 128 ^ k) (l.drop (k + 1)) else if c.toNat = 0 ∧ 0 < k then none else some (x + c.toNat * 128 ^ k, k + 1) := by
  obtain ⟨hi, e⟩ := List.getElem?_eq_some_iff.1 h
  rw [List.drop_eq_getElem_cons hi, e]
  rfl
set_option maxRecDepth 100000 in
set_option maxHeartbeats 4000000 in
theorem read_any (v : Value) (l : List UInt8) (w : World) (h : By w v l) :
    Calls Tryz.prog 55 #[v] w fun e w' => (∃ u, e = .returned u ∧ ReadSays l u) ∧ w' = w := by
  obtain ⟨a, cap, rfl, h1, h2, h3⟩ := h
  have H : Hid (l ≠ [] → ∃ x, a = some x ∧ x.block < w.heap.size ∧ ∀ (i : Nat) d, l[i]? = some d → w.cell? (x.add i) = some (.int .u8 (d.toNat : Int))) := h3
  have HL : Hid (l.length ≤ 9223372036854775807) := by unfold Hid; unfold maxLen at h2; omega
  clear h1 h2 h3
  go_enter Tryz.func55, Tryz.ntmps55
  go_wp2
  go_loopw [4, 9] (fun xv iv W => ∃ (x k : Nat), xv = .int .u64 (x : Nat) ∧ iv = .int .i64 (k : Nat) ∧ k ≤ l.length ∧ k ≤ 9 ∧ x < 128 ^ k ∧ Wd.rd k x (l.drop k) = Wd.rd 0 0 l ∧ W = w) (fun _ iv _ => l.length - (intOf iv).toNat)
  case atStart => exact ⟨0, 0, rfl, rfl, Nat.zero_le _, by omega, by decide, rfl, rfl⟩
  case round =>
    obtain ⟨x, k, rfl, rfl, hk, hk9, hx, hrd, rfl⟩ := hrel
    have HR : Hid (Wd.rd k x (l.drop k) = Wd.rd 0 0 l) := hrd
    clear hrd
    by_cases hkl : k = l.length
    · have E : Hid (Wd.rd 0 0 l = none) := by
        unfold Hid
        rw [← HR.out, hkl, List.drop_length]
        rfl
      clear hx hk hk9
      subst hkl
      go_wp2
      go_ret2
      refine ⟨⟨_, rfl, ?_⟩, rfl⟩
      unfold ReadSays
      rw [E.out]
      rfl
    · have hlt : k < l.length := by omega
      obtain ⟨c, hc⟩ : ∃ c, l[k]? = some c := ⟨_, List.getElem?_eq_getElem hlt⟩
      obtain ⟨ad, rfl, had, hcell⟩ := H.out (by intro e; subst e; simp at hlt)
      have HS := rd_step (x := x) hc
      rw [HR.out] at HS
      have HC : Hid (Wd.rd 0 0 l = if k = 9 ∧ 1 < c.toNat then none else if 128 ≤ c.toNat then Wd.rd (k + 1) (x + c.toNat % 128 * 128 ^ k) (l.drop (k + 1)) else if c.toNat = 0 ∧ 0 < k then none else some (x + c.toNat * 128 ^ k, k + 1)) := HS
      have hcc : wr.cell? (ad.add k) = some (.int .u8 (c.toNat : Int)) := hcell k c hc
      have hcl : c.toNat < 256 := c.toNat_lt
      generalize c.toNat = n at *
      clear hcell had HS HR hc
      have hli : (k : Int) < (l.length : Int) := by omega
      by_cases h9 : k = 9 ∧ 1 < n
      · obtain ⟨hk0, hn1⟩ := h9
        have E : Hid (Wd.rd 0 0 l = none) := by unfold Hid; rw [HC.out, if_pos ⟨hk0, hn1⟩]
        have hkb : (((k : Nat) : Int) == 9) = true := by
          have : ((k : Nat) : Int) = 9 := by omega
          simpa using this
        have hni : (1 : Int) < (n : Int) := by omega
        clear HC hx hk0
        go_wp2
        go_ret2
        refine ⟨⟨_, rfl, ?_⟩, rfl⟩
        unfold ReadSays
        rw [E.out]
        rfl
      · have E9 : Hid (Wd.rd 0 0 l = if 128 ≤ n then Wd.rd (k + 1) (x + n % 128 * 128 ^ k) (l.drop (k + 1)) else if n = 0 ∧ 0 < k then none else some (x + n * 128 ^ k, k + 1)) := by unfold Hid; rw [HC.out, if_neg h9]
        obtain ⟨m, hm⟩ : ∃ m, n % 128 = m := ⟨_, rfl⟩
        have hmi : (n : Int) % 128 = m := by omega
        have hm2 : m < 128 := by omega
        have HX : Hid (x < 128 ^ k) := hx
        obtain ⟨y, hy⟩ : ∃ y, m * 128 ^ k = y := ⟨_, rfl⟩
        obtain ⟨z, hz⟩ : ∃ z, x + y = z := ⟨_, rfl⟩
        have e2 : (2 : Int) ^ (7 * k) = ((128 ^ k : Nat) : Int) := by
          have h := Nat.pow_mul 2 7 k
          rw [show (2 ^ 7 : Nat) = 128 from rfl] at h
          rw [← h]
          simp
        have ey : (m : Int) * 2 ^ (7 * k) = (y : Nat) := by rw [e2, ← hy]; simp
        have hb : y ≤ 9223372036854775808 ∧ z < 18446744073709551616 := by
          by_cases hk0 : k = 9
          · subst hk0
            have : m ≤ 1 := by omega
            have h2 : m * 128 ^ 9 ≤ 1 * 128 ^ 9 := Nat.mul_le_mul_right _ this
            rw [Wd.pow9] at h2 hx
            omega
          · have h8 : 128 ^ k ≤ 128 ^ 8 := Nat.pow_le_pow_right (by decide) (by omega)
            have h82 : (128 : Nat) ^ 8 = 72057594037927936 := by decide
            have : m * 128 ^ k ≤ 127 * 128 ^ k := Nat.mul_le_mul_right _ (by omega)
            omega
        have wy : IntKind.u64.wrap ((y : Nat) : Int) = (y : Nat) := by rw [IntKind.wrap_u64]; omega
        have ez : ((x : Nat) : Int) + (y : Nat) = (z : Nat) := by omega
        have wz : IntKind.u64.wrap ((z : Nat) : Int) = (z : Nat) := by rw [IntKind.wrap_u64]; omega
        have zb : z < 18446744073709551616 := hb.2
        have HZ : Hid (x + m * 128 ^ k = z) := by unfold Hid; rw [hy]; exact hz
        have HM : Hid (n % 128 = m) := hm
        have hk7 : (7 : Int) * (k : Int) < 64 := by omega
        clear HC hx e2 hb hy hz hm
        have KB : (∃ c : Bool, (((k : Nat) : Int) == 9) = c ∧ (c = true → n ≤ 1)) := ⟨_, rfl, fun h => by
          have : ((k : Nat) : Int) = 9 := by simpa using h
          omega⟩
        obtain ⟨c, hkb, hcn⟩ := KB
        have HK9 : Hid (k ≤ 9 ∧ ¬ (k = 9 ∧ 1 < n)) := ⟨hk9, h9⟩
        clear h9
        rcases Nat.lt_or_ge n 128 with hn | hn
        · have hmn : m = n := by have := HM.out; omega
          have hni : ¬ (128 : Int) ≤ (n : Int) := by omega
          by_cases h0 : n = 0 ∧ 0 < k
          · obtain ⟨rfl, hk0⟩ := h0
            have E : Hid (Wd.rd 0 0 l = none) := by unfold Hid; rw [E9.out, if_neg (by omega), if_pos ⟨rfl, hk0⟩]
            have hk0i : (0 : Int) < (k : Int) := by omega
            cases c
            all_goals
              go_wp2
              go_ret2
              refine ⟨⟨_, rfl, ?_⟩, rfl⟩
              unfold ReadSays
              rw [E.out]
              rfl
          · have E : Hid (Wd.rd 0 0 l = some (z, k + 1)) := by unfold Hid; rw [E9.out, if_neg (by omega), if_neg h0, ← HZ.out, hmn]
            have h0b : ∃ d : Bool, (((n : Nat) : Int) == 0) = d ∧ (d = true → ¬ (0 : Int) < (k : Int)) := ⟨_, rfl, fun h => by
              have : ((n : Nat) : Int) = 0 := by simpa using h
              omega⟩
            obtain ⟨d, hd, hdk⟩ := h0b
            have wk : IntKind.i64.wrap ((k : Int) + 1) = (k : Int) + 1 := by rw [IntKind.wrap_i64]; omega
            clear hmn h0
            have fin : ReadSays l (.tuple #[.int .i64 (Wd.unz z), .int .i64 ((k + 1 : Nat) : Int)]) := by
              unfold ReadSays
              rw [E.out]
            have FIN : Hid (ReadSays l (.tuple #[.int .i64 (Wd.unz z), .int .i64 ((k + 1 : Nat) : Int)])) := fin
            clear fin
            cases c
            all_goals
              have hc1 : Hid (_ = true → n ≤ 1) := hcn
              cases d
              all_goals
                have hd1 : Hid (_ = true → ¬ (0 : Int) < (k : Int)) := hdk
                try (have hcx : ¬ (1 : Int) < (n : Int) := by have := hc1.out rfl; omega)
                try (have hdx : ¬ (0 : Int) < (k : Int) := hd1.out rfl)
                clear hcn hdk hc1 hd1
                go_wp2_with fail
                refine (unfold_any z _ zb).mono ?_
                rintro e w1 ⟨rfl, rfl⟩
                go_wp2
                go_ret2
                exact ⟨⟨_, rfl, FIN.out⟩, rfl⟩
        · have hni : (128 : Int) ≤ (n : Int) := by omega
          cases c
          · have HK : Hid (k < 9) := by
              unfold Hid
              have : ¬ ((k : Nat) : Int) = 9 := by simpa using hkb
              omega
            have E : Hid (Wd.rd (k + 1) z (l.drop (k + 1)) = Wd.rd 0 0 l) := by unfold Hid; rw [E9.out, if_pos hn, HM.out, HZ.out]
            clear hcn
            go_wp2
            go_roundw
            case rel =>
              refine ⟨z, k + 1, rfl, rfl, by omega, by have := HK.out; omega, ?_, E.out, trivial⟩
              have hs : 128 ^ (k + 1) = 128 ^ k * 128 := Nat.pow_succ ..
              have : m * 128 ^ k ≤ 127 * 128 ^ k := Nat.mul_le_mul_right _ (by omega)
              have h1 := HZ.out
              have h2 := HX.out
              omega
            case measure => simp [intOf]; omega
          · have := hcn rfl
            omega
end Go.Proofs.YtoabhfipikkkeaaGreatDoor

namespace Go.Proofs.YtoabhfipikkkeaaGreatDoor
open Go.RowKit
set_option linter.unusedVariables false

/-- nothing that was there has turned but blocks y and z. -/
structure K2 (y z : Nat) (w w' : World) : Prop where
  os : w'.os = w.os
  tape : w'.tape = w.tape
  output : w'.output = w.output
  size : w.heap.size ≤ w'.heap.size
  block : ∀ k, k < w.heap.size → k ≠ y → k ≠ z → w'.heap[k]? = w.heap[k]?
theorem K2.of {y z : Nat} {w w' : World} (h : Below w.heap.size w w') : K2 y z w w' := ⟨h.os, h.tape, h.output, h.size, fun k hk _ _ => h.block k hk⟩
theorem K2.refl (y z : Nat) (w : World) : K2 y z w w := K2.of (Below.refl _ _)
theorem K2.trans {y z : Nat} {a b c : World} (h : K2 y z a b) (k : K2 y z b c) : K2 y z a c :=
  ⟨k.os.trans h.os, k.tape.trans h.tape, k.output.trans h.output, Nat.le_trans h.size k.size, fun i hi hy hz => (k.block i (Nat.lt_of_lt_of_le hi h.size) hy hz).trans (h.block i hi hy hz)⟩
theorem K2.setY {y z : Nat} (w : World) (i : Nat) (u : Value) : K2 y z w (w.setCell ⟨y, i, none⟩ u) :=
  ⟨rfl, rfl, rfl, by simp [World.setCell], fun k _ hy _ => Below.heap_setCell _ _ _ _ hy⟩
theorem K2.setZ {y z : Nat} (w : World) (i : Nat) (u : Value) : K2 y z w (w.setCell ⟨z, i, none⟩ u) :=
  ⟨rfl, rfl, rfl, by simp [World.setCell], fun k _ _ hz => Below.heap_setCell _ _ _ _ hz⟩
theorem K2.below {y z B : Nat} {a w w' : World} (h : Below B a w) (k : K2 y z w w') (hB : B ≤ w.heap.size) (hy : B ≤ y) (hz : B ≤ z) : Below B a w' :=
  h.trans ⟨k.os, k.tape, k.output, k.size, fun i hi => k.block i (by omega) (by omega) (by omega)⟩
theorem K2.cell {y z : Nat} {w w' : World} (k : K2 y z w w') (p : Addr) (hp : p.block < w.heap.size) (hy : p.block ≠ y) (hz : p.block ≠ z) : w'.cell? p = w.cell? p := by
  have := k.block p.block hp hy hz
  simp only [World.cell?, this]
theorem K2.grown {y z : Nat} {w w' : World} (k : K2 y z w w') {row : Option Nat} {w'' : World} (h : w'.grownBy w'' row) (hr : ∀ b, row = some b → w.heap.size ≤ b) : K2 y z w w'' :=
  ⟨h.os.trans k.os, h.tape.trans k.tape, h.output.trans k.output, Nat.le_trans k.size h.size, fun i hi hy hz => (h.block i (Nat.lt_of_lt_of_le hi k.size) (fun e => by have := hr i e.symm; omega)).trans (k.block i hi hy hz)⟩

/-- what is read, how far, and whether something was wrong. -/
structure Dc (w0 : World) (zb za zf : Nat) (v : Value) (l : List UInt8) (w : World) (a : Nat) (f : Bool) : Prop where
  src : By w0 v l
  low : w0.heap.size ≤ zb
  ba : zb < za
  af : za < zf
  bl : Below zb w0 w
  cb : w.cell? ⟨zb, 0, none⟩ = some v
  ca : w.heap[za]? = some (.cells #[.int .i64 (a : Nat)] 3 (0, 0))
  cf : w.heap[zf]? = some (.cells #[.bool f] 4 (0, 0))
  le : a ≤ l.length
theorem Dc.ltf {w0 w : World} {zb za zf a : Nat} {v : Value} {l : List UInt8} {f : Bool} (h : Dc w0 zb za zf v l w a f) : zf < w.heap.size := lt_of_block h.cf
theorem Dc.kept {w0 w w' : World} {zb za zf a : Nat} {v : Value} {l : List UInt8} {f : Bool} (h : Dc w0 zb za zf v l w a f) (hb : Below (zf + 1) w w') : Dc w0 zb za zf v l w' a f := by
  have h1 := h.ba
  have h2 := h.af
  exact ⟨h.src, h.low, h.ba, h.af, h.bl.trans (hb.mono (by omega)), by rw [hb.cell (p := ⟨zb, 0, none⟩) (by show zb < _; omega)]; exact h.cb, by rw [hb.block za (by omega)]; exact h.ca, by rw [hb.block zf (by omega)]; exact h.cf, h.le⟩
theorem Dc.la {w0 w : World} {zb za zf a : Nat} {v : Value} {l : List UInt8} {f : Bool} (h : Dc w0 zb za zf v l w a f) : w.cell? ⟨za, 0, none⟩ = some (.int .i64 (a : Nat)) ∧ w.frozen? ⟨za, 0, none⟩ = false := ⟨by simp [World.cell?, h.ca], by simp [World.frozen?, h.ca]⟩
theorem Dc.lf {w0 w : World} {zb za zf a : Nat} {v : Value} {l : List UInt8} {f : Bool} (h : Dc w0 zb za zf v l w a f) : w.cell? ⟨zf, 0, none⟩ = some (.bool f) ∧ w.frozen? ⟨zf, 0, none⟩ = false := ⟨by simp [World.cell?, h.cf], by simp [World.frozen?, h.cf]⟩
theorem Dc.by_ {w0 w : World} {zb za zf a : Nat} {v : Value} {l : List UInt8} {f : Bool} (h : Dc w0 zb za zf v l w a f) : By w v l := h.src.below (h.bl.mono h.low)

/-- what it says. -/
def NextSays (w0 : World) (zb za zf : Nat) (v : Value) (l : List UInt8) (w : World) (a : Nat) (f : Bool) (e : Ending) (w' : World) : Prop :=
  ∃ (n : Int) (a' : Nat) (f' : Bool), e = .returned (.int .i64 n) ∧ Wd.Rd (Wd.pnum l) a f n a' f' ∧ Dc w0 zb za zf v l w' a' f' ∧ K2 za zf w w'
theorem By.drop {w : World} {ad : Option Addr} {n : Nat} {l : List UInt8} {c k : Nat} (h : By w (.slice ad n c) l) (hk : k ≤ l.length) : By w (.slice (Option.map (fun x => x.add k) ad) (l.length - k) (c - k)) (l.drop k) := by
  obtain ⟨a, c', e, h1, h2, h3⟩ := h
  injection e with e1 e2 e3
  subst e1 e3
  refine ⟨_, _, by rw [List.length_drop], by rw [List.length_drop]; omega, by omega, fun hn => ?_⟩
  obtain ⟨y, e, hy, hc⟩ := h3 (by intro h; subst h; simp at hn)
  subst e
  refine ⟨_, rfl, by rw [add_block]; exact hy, fun i d hi => ?_⟩
  rw [List.getElem?_drop] at hi
  rw [Addr.add_add]
  exact hc _ d hi
theorem By.end_ (w : World) (ad : Option Addr) (l : List UInt8) {k : Nat} (hk : l.length ≤ k) : By w (.slice ad (l.length - k) 0) (l.drop k) := by
  have : l.drop k = [] := List.drop_eq_nil_of_le hk
  rw [this]
  exact ⟨ad, 0, by rw [List.length_nil]; congr 1; omega, Nat.le_refl _, by omega, fun h => absurd rfl h⟩
theorem Dc.put {w0 w : World} {zb za zf a a' : Nat} {v : Value} {l : List UInt8} {f f' : Bool} (h : Dc w0 zb za zf v l w a f) (hle : a' ≤ l.length) : Dc w0 zb za zf v l ((w.setCell ⟨za, 0, none⟩ (.int .i64 (a' : Nat))).setCell ⟨zf, 0, none⟩ (.bool f')) a' f' ∧ K2 za zf w ((w.setCell ⟨za, 0, none⟩ (.int .i64 (a' : Nat))).setCell ⟨zf, 0, none⟩ (.bool f')) := by
  have h1 := h.ba
  have h2 := h.af
  have hs : K2 za zf w ((w.setCell ⟨za, 0, none⟩ (.int .i64 (a' : Nat))).setCell ⟨zf, 0, none⟩ (.bool f')) := (K2.setY w 0 _).trans (K2.setZ _ 0 _)
  have lf := h.ltf
  refine ⟨⟨h.src, h.low, h.ba, h.af, hs.below h.bl (by omega) (by omega) (by omega), ?_, ?_, ?_, hle⟩, hs⟩
  · rw [hs.cell ⟨zb, 0, none⟩ (by show zb < _; omega) (by show zb ≠ _; omega) (by show zb ≠ _; omega)]; exact h.cb
  · rw [Below.heap_setCell _ _ _ _ (by show za ≠ zf; omega)]
    exact heap_setCell_same w za 0 _ _ (.int .i64 (a' : Nat)) h.ca
  · exact heap_setCell_same _ zf 0 _ _ (.bool f') ((Below.heap_setCell w ⟨za, 0, none⟩ _ _ (by show zf ≠ za; omega)).trans h.cf)
theorem owns_k2 {y z : Nat} {w w' : World} {base : Nat} {T : TypeId} {size : Nat} {u : Value} {n : Nat} {cs : List Value} (h : w.ownsRow base T size u n cs) (k : K2 y z w w') (hy : y < base) (hz : z < base) : w'.ownsRow base T size u n cs := by
  refine ⟨h.1, ?_⟩
  rcases h.2 with h1 | ⟨g, cap, cur, h1, h2, h3, h4⟩
  · exact .inl h1
  · exact .inr ⟨g, cap, cur, h1, h2, (k.block g (lt_of_block h3) (by omega) (by omega)).trans h3, h4⟩
end Go.Proofs.YtoabhfipikkkeaaGreatDoor

namespace Go.Proofs.YtoabhfipikkkeaaGreatDoor
open Go.RowKit
set_option linter.unusedVariables false

set_option maxHeartbeats 2000000 in
theorem unext_any (w0 : World) (zb za zf : Nat) (v : Value) (l : List UInt8) (w : World) (a : Nat) (f : Bool) (h : Dc w0 zb za zf v l w a f) :
    Calls Tryz.prog 54 #[.pointer (some ⟨zb, 0, none⟩), .pointer (some ⟨za, 0, none⟩), .pointer (some ⟨zf, 0, none⟩)] w (NextSays w0 zb za zf v l w a f) := by
  have D : Hid (Dc w0 zb za zf v l w a f) := h
  have B : Hid (By w v l) := h.by_
  obtain ⟨ad, cap, rfl, h1, h2, h3⟩ := h.by_
  have cb := h.cb
  obtain ⟨ca, fa⟩ := h.la
  obtain ⟨cf, ff⟩ := h.lf
  have le := h.le
  have cm : cap ≤ 9223372036854775807 := by unfold maxLen at h2; omega
  clear h h2 h3
  go_enter Tryz.func54, Tryz.ntmps54
  go_wp2_with fail
  all_goals
    refine (read_any _ (l.drop a) _ (by first | exact B.out.drop le | exact By.end_ _ _ _ (by omega))).mono ?_
    rintro e w1 ⟨⟨u, rfl, hu⟩, rfl⟩
    have ne : za ≠ zf := by have := D.out.af; omega
    have ne' : zf ≠ za := fun e => ne e.symm
    unfold ReadSays at hu
    cases hr : Wd.rd 0 0 (l.drop a) with
    | none =>
      rw [hr] at hu
      subst hu
      have E : Hid (Wd.pnum l a = none) := by unfold Hid Wd.pnum; rw [hr]
      have F : Hid (NextSays w0 zb za zf (.slice ad l.length _) l w1 a f (.returned (.int .i64 0)) ((w1.setCell ⟨za, 0, none⟩ (.int .i64 (a : Nat))).setCell ⟨zf, 0, none⟩ (.bool true))) := ⟨0, a, true, rfl, ⟨fun _ => rfl, fun _ => .inr ⟨E.out, rfl⟩⟩, (D.out.put le).1, (D.out.put le).2⟩
      cases f
      all_goals
        go_wp2
        go_ret
        exact F.out
    | some p =>
      obtain ⟨x, n⟩ := p
      rw [hr] at hu
      subst hu
      obtain ⟨k1, k2, k3, k4⟩ := Wd.rd_le _ 0 0 x n (by omega) (by decide) hr
      rw [List.length_drop] at k2
      obtain ⟨a', ha'⟩ : ∃ a', a + n = a' := ⟨_, rfl⟩
      have E : Hid (Wd.pnum l a = some (Wd.unz x, a')) := by unfold Hid Wd.pnum; rw [hr, ← ha']
      have ai : (a : Int) + (n : Int) = (a' : Nat) := by omega
      have wa : IntKind.i64.wrap ((a' : Nat) : Int) = (a' : Nat) := by rw [IntKind.wrap_i64]; omega
      have hn0 : (((n : Nat) : Int) == 0) = false := by
        have : ¬ ((n : Nat) : Int) = 0 := by omega
        simpa using this
      have F : Hid (NextSays w0 zb za zf (.slice ad l.length _) l w1 a f (.returned (.int .i64 (Wd.unz x))) ((w1.setCell ⟨za, 0, none⟩ (.int .i64 (a' : Nat))).setCell ⟨zf, 0, none⟩ (.bool f))) := ⟨_, a', f, rfl, ⟨fun h => h, fun h => .inl ⟨E.out, h⟩⟩, (D.out.put (by omega)).1, (D.out.put (by omega)).2⟩
      clear hr k1 k2 k3 k4 ha'
      cases f
      all_goals
        go_wp2
        go_ret
        exact F.out
end Go.Proofs.YtoabhfipikkkeaaGreatDoor

namespace Go.Proofs.YtoabhfipikkkeaaGreatDoor
open Go.RowKit
set_option linter.unusedVariables false

theorem i64_to64 (n : Int) : IntKind.i64.wrap n = wrap64 n := by unfold wrap64; exact IntKind.wrap_i64 n
namespace Fe
theorem ptr_next {l : List UInt8} {a0 n : Nat} {ls : List ChV} {p : Int} {a : Nat} {x y z : Int} {a1 a2 a3 : Nat} {f1 f2 f3 : Bool} (h : ptr l a0 n = some (ls, p, a)) (r1 : Wd.Rd (Wd.pnum l) a false x a1 f1) (r2 : Wd.Rd (Wd.pnum l) a1 f1 y a2 f2) (r3 : Wd.Rd (Wd.pnum l) a2 f2 z a3 f3) :
    (f3 = false ∧ ptr l a0 (n + 1) = some (ls ++ [⟨wrap (p + x), wrap (y - 1), wrap (z - 1)⟩], wrap (p + x), a3)) ∨ (f3 = true ∧ ptr l a0 (n + 1) = none) := by
  unfold ptr
  rw [h]
  simp only
  rcases r1.2 rfl with ⟨e1, rfl⟩ | ⟨e1, rfl⟩
  · rw [e1]
    simp only
    rcases r2.2 rfl with ⟨e2, rfl⟩ | ⟨e2, rfl⟩
    · rw [e2]
      simp only
      rcases r3.2 rfl with ⟨e3, rfl⟩ | ⟨e3, rfl⟩
      · rw [e3]
        exact .inl ⟨rfl, rfl⟩
      · rw [e3]
        exact .inr ⟨rfl, rfl⟩
    · rw [e2]
      exact .inr ⟨r3.1 rfl, rfl⟩
  · rw [e1]
    exact .inr ⟨r3.1 (r2.1 rfl), rfl⟩
theorem unp_no {l : List UInt8} (h : Wd.pnum l 0 = none) : unpack l = none := by unfold unpack; rw [h]
theorem unp_off {l : List UInt8} {m : Int} {a0 : Nat} (h : Wd.pnum l 0 = some (m, a0)) (hm : ¬ (0 ≤ m ∧ m ≤ 6000)) : unpack l = none := by unfold unpack; rw [h]; simp only; rw [if_neg hm]
theorem unp_early {l : List UInt8} {m : Int} {a0 n : Nat} (h : Wd.pnum l 0 = some (m, a0)) (hn : (n : Int) ≤ m) (hp : ptr l a0 n = none) : unpack l = none := by
  unfold unpack
  rw [h]
  simp only
  split
  · have : ptr l a0 m.toNat = none := by
      have := ptr_none hp (m.toNat - n)
      rwa [show n + (m.toNat - n) = m.toNat by omega] at this
    rw [this]
  · rfl
theorem unp_all {l : List UInt8} {m : Int} {a0 n : Nat} {ls : List ChV} {p : Int} {a : Nat} (h : Wd.pnum l 0 = some (m, a0)) (h1 : m ≤ 6000) (hn : (n : Int) = m) (hp : ptr l a0 n = some (ls, p, a)) : unpack l = if cfault (fun _ => true) (-1) ls = 0 then some (ls, a) else none := by
  unfold unpack
  rw [h]
  simp only
  rw [if_pos (by omega), show m.toNat = n by omega, hp]
end Fe
def slen : Value → Nat
  | .slice _ n _ => n
  | _ => 0
theorem Dc.setf {w0 w : World} {zb za zf a : Nat} {v : Value} {l : List UInt8} {f f' : Bool} (h : Dc w0 zb za zf v l w a f) : Dc w0 zb za zf v l (w.setCell ⟨zf, 0, none⟩ (.bool f')) a f' ∧ K2 za zf w (w.setCell ⟨zf, 0, none⟩ (.bool f')) := by
  have h1 := h.ba
  have h2 := h.af
  have hs : K2 za zf w (w.setCell ⟨zf, 0, none⟩ (.bool f')) := K2.setZ _ 0 _
  have lf := h.ltf
  refine ⟨⟨h.src, h.low, h.ba, h.af, hs.below h.bl (by omega) (by omega) (by omega), ?_, ?_, ?_, h.le⟩, hs⟩
  · rw [hs.cell ⟨zb, 0, none⟩ (by show zb < _; omega) (by show zb ≠ _; omega) (by show zb ≠ _; omega)]; exact h.cb
  · rw [Below.heap_setCell _ _ _ _ (by show za ≠ zf; omega)]
    exact h.ca
  · exact heap_setCell_same _ zf 0 _ _ (.bool f') h.cf
/-- what Unpack tells. -/
def UnpSays (l : List UInt8) (w w' : World) (v n r : Value) : Prop :=
  (Fe.unpack l = none ∧ v = .slice none 0 0 ∧ n = .int .i64 0 ∧ Er r 9) ∨ (∃ ls a, Fe.unpack l = some (ls, a) ∧ r = .nilIface ∧ n = .int .i64 (a : Nat) ∧ Cho w' w.heap.size v ls)
set_option maxRecDepth 100000 in
set_option maxHeartbeats 16000000 in
theorem Unpack_any (vb : Value) (l : List UInt8) (w : World) (hl : By w vb l) :
    Calls Tryz.prog 13 #[vb] w fun e w' => ∃ v n r, e = .returned (.tuple #[v, n, r]) ∧ UnpSays l w w' v n r ∧ Below w.heap.size w w' := by
  have L : Hid (By w vb l) := hl
  obtain ⟨pa, ca, rfl, a1, a2, -⟩ := hl
  clear a2
  go_enter Tryz.func13, Tryz.ntmps13
  go_upto_region 3 with fail
  have D0 : Hid (Dc w w.heap.size (w.heap.size + 1) (w.heap.size + 1 + 1) (.slice pa l.length ca) l (((w.alloc (Obj.cells #[.slice pa l.length ca] 36)).alloc (Obj.cells #[.int .i64 0] 3)).alloc (Obj.cells #[.bool false] 4)) 0 false) := by
    refine ⟨L.out, Nat.le_refl _, by omega, by omega, (((Below.refl _ _).alloc (Nat.le_refl _) _).alloc (by simp) _).alloc (by simp; omega) _, ?_, ?_, ?_, Nat.zero_le _⟩
    · have c9 : (w.alloc (Obj.cells #[.slice pa l.length ca] 36)).cell? ⟨w.heap.size, 0, none⟩ = some (.slice pa l.length ca) := by simp
      rw [(((Below.refl _ _).alloc (Nat.le_refl _) _).alloc (B := (w.alloc (Obj.cells #[.slice pa l.length ca] 36)).heap.size) (by simp) _).cell (p := ⟨w.heap.size, 0, none⟩) (by simp)]
      exact c9
    · have h9 := heap_alloc_new (w.alloc (Obj.cells #[.slice pa l.length ca] 36)) (Obj.cells #[.int .i64 0] 3)
      have e9 : (w.alloc (Obj.cells #[.slice pa l.length ca] 36)).heap.size = w.heap.size + 1 := by simp
      rw [e9] at h9
      rw [((Below.refl _ _).alloc (Nat.le_refl _) _).block (w.heap.size + 1) (by simp)]
      exact h9
    · have h9 := heap_alloc_new ((w.alloc (Obj.cells #[.slice pa l.length ca] 36)).alloc (Obj.cells #[.int .i64 0] 3)) (Obj.cells #[.bool false] 4)
      have e9 : ((w.alloc (Obj.cells #[.slice pa l.length ca] 36)).alloc (Obj.cells #[.int .i64 0] 3)).heap.size = w.heap.size + 1 + 1 := by simp
      rw [e9] at h9
      exact h9
  generalize (((w.alloc (Obj.cells #[.slice pa l.length ca] 36)).alloc (Obj.cells #[.int .i64 0] 3)).alloc (Obj.cells #[.bool false] 4)) = w0 at *
  obtain ⟨zb, hzb⟩ : ∃ z, w.heap.size = z := ⟨_, rfl⟩
  have HZ : Hid (w.heap.size = zb) := hzb
  rw [hzb] at D0 ⊢
  obtain ⟨za, hza⟩ : ∃ z, zb + 1 = z := ⟨_, rfl⟩
  obtain ⟨zf, hzf⟩ : ∃ z, zb + 1 + 1 = z := ⟨_, rfl⟩
  have HZ2 : Hid (zb + 1 = za ∧ za + 1 = zf) := ⟨hza, by omega⟩
  rw [hzf, hza] at D0 ⊢
  clear hza hzf hzb
  go_wp2_with fail
  refine (unext_any w zb za zf _ l w0 0 false D0.out).mono ?_
  rintro e w1 ⟨m, b0, f1, rfl, hrd, hd, hk2⟩
  have R1 : Hid (Wd.Rd (Wd.pnum l) 0 false m b0 f1) := hrd
  have D1 : Hid (Dc w zb za zf (.slice pa l.length ca) l w1 b0 f1) := hd
  clear hrd hd hk2 D0
  have UN : Hid (f1 = true → Fe.unpack l = none) := by
    intro hf
    rcases R1.out.2 rfl with ⟨-, e⟩ | ⟨e, -⟩
    · rw [hf] at e; cases e
    · exact Fe.unp_no e
  have PN : Hid (f1 = false → Wd.pnum l 0 = some (m, b0)) := by
    intro hf
    rcases R1.out.2 rfl with ⟨e, -⟩ | ⟨-, e⟩
    · exact e
    · rw [hf] at e; cases e
  obtain ⟨cf, tf⟩ := D1.out.lf
  go_upto_region 4 with fail
  go_cut [19] (fun v19 W => ∃ g : Bool, v19 = .bool g ∧ Dc w zb za zf (.slice pa l.length ca) l W b0 g ∧ (g = true → Fe.unpack l = none) ∧ (g = false → Wd.pnum l 0 = some (m, b0) ∧ 0 ≤ m ∧ m ≤ 6000))
  case first =>
    cases f1 with
    | true =>
      have UT : Hid (Fe.unpack l = none) := UN.out rfl
      clear UN PN R1
      have DN : Hid (Dc w zb za zf (.slice pa l.length ca) l (w1.setCell ⟨zf, 0, none⟩ (.bool true)) b0 true) := D1.out.setf.1
      go_wp2
      go_meet
      case rel => exact ⟨true, rfl, DN.out, fun _ => UT.out, fun h => (by cases h)⟩
    | false =>
      have PT : Hid (Wd.pnum l 0 = some (m, b0)) := PN.out rfl
      clear UN PN R1
      by_cases hm : 0 ≤ m ∧ m ≤ 6000
      · have WI := fwin_is m 0 6000 true (decide_eq_true hm)
        have HM : Hid (0 ≤ m ∧ m ≤ 6000) := hm
        have DN : Hid (Dc w zb za zf (.slice pa l.length ca) l (w1.setCell ⟨zf, 0, none⟩ (.bool false)) b0 false) := D1.out.setf.1
        clear hm
        go_wp2_with fail
        refine (WI.out _).mono ?_
        rintro e w2 ⟨rfl, rfl⟩
        go_wp2
        go_meet
        case rel => exact ⟨false, rfl, DN.out, fun h => (by cases h), fun _ => ⟨PT.out, HM.out.1, HM.out.2⟩⟩
      · have WI := fwin_is m 0 6000 false (decide_eq_false hm)
        have UF : Hid (Fe.unpack l = none) := Fe.unp_off PT.out hm
        have DN : Hid (Dc w zb za zf (.slice pa l.length ca) l (w1.setCell ⟨zf, 0, none⟩ (.bool true)) b0 true) := D1.out.setf.1
        clear hm
        go_wp2_with fail
        refine (WI.out _).mono ?_
        rintro e w2 ⟨rfl, rfl⟩
        go_wp2
        go_meet
        case rel => exact ⟨true, rfl, DN.out, fun _ => UF.out, fun h => (by cases h)⟩
  case rest =>
  obtain ⟨g, rfl, hd, hg1, hg2⟩ := hcut
  have D2 : Hid (Dc w zb za zf (.slice pa l.length ca) l wc b0 g) := hd
  have G : Hid ((g = true → Fe.unpack l = none) ∧ (g = false → Wd.pnum l 0 = some (m, b0) ∧ 0 ≤ m ∧ m ≤ 6000)) := ⟨hg1, hg2⟩
  clear hd hg1 hg2 D1 cf tf R1 UN PN
  go_wp2_with fail
  go_loopw [9, 10] (fun pv lv W => ∃ (n : Nat) (ls : List ChV) (p : Int) (a : Nat) (f : Bool), ls.length = n ∧ n ≤ 6000 ∧ pv = .int .i64 p ∧ Cho W (zf + 1) lv ls ∧ Dc w zb za zf (.slice pa l.length ca) l W a f ∧ (f = true → Fe.unpack l = none) ∧ (f = false → Wd.pnum l 0 = some (m, b0) ∧ 0 ≤ m ∧ m ≤ 6000 ∧ (n : Int) ≤ m ∧ Fe.ptr l b0 n = some (ls, p, a))) (fun _ lv _ => m.toNat - slen lv)
  case atStart => exact ⟨0, [], 0, b0, g, rfl, Nat.zero_le _, rfl, Cho.nil _ _, D2.out, G.out.1, fun h => ⟨(G.out.2 h).1, (G.out.2 h).2.1, (G.out.2 h).2.2, (G.out.2 h).2.1, rfl⟩⟩
  case round =>
  obtain ⟨n, ls, p, a, f, hln, hn6, rfl, ho, hd, hf1, hf2⟩ := hrel
  have LN : Hid (ls.length = n) := hln
  have O : Hid (Cho wr (zf + 1) u10 ls) := ho
  have D3 : Hid (Dc w zb za zf (.slice pa l.length ca) l wr a f) := hd
  have F1 : Hid (f = true → Fe.unpack l = none) := hf1
  have F2 : Hid (f = false → Wd.pnum l 0 = some (m, b0) ∧ 0 ≤ m ∧ m ≤ 6000 ∧ (n : Int) ≤ m ∧ Fe.ptr l b0 n = some (ls, p, a)) := hf2
  have BW : Hid (Below w.heap.size w wr) := by unfold Hid; rw [HZ.out]; exact D3.out.bl
  obtain ⟨op, oc, rfl⟩ := ho.len
  obtain ⟨cf, tf⟩ := D3.out.lf
  obtain ⟨cl, tl⟩ := D3.out.la
  clear ho hd hf1 hf2 D2 G
  rw [hln]
  clear hln
  cases f with
  | true =>
    have UN : Hid (Fe.unpack l = none) := F1.out rfl
    by_cases hnm : (n : Int) < m
    · go_wp2
      go_ret3
      exact ⟨_, _, _, rfl, .inl ⟨UN.out, rfl, rfl, Er.no (by decide)⟩, BW.out⟩
    · go_wp2
      go_ret3
      exact ⟨_, _, _, rfl, .inl ⟨UN.out, rfl, rfl, Er.no (by decide)⟩, BW.out⟩
  | false =>
    obtain ⟨pm, hm0, hm6, hnm, hptr⟩ := F2.out rfl
    have PM : Hid (Wd.pnum l 0 = some (m, b0)) := pm
    have PT : Hid (Fe.ptr l b0 n = some (ls, p, a)) := hptr
    clear pm hptr F1 F2
    by_cases hne : (n : Int) = m
    · have hlt : ¬ (n : Int) < m := by omega
      have UA : Hid (Fe.unpack l = if Fe.cfault (fun _ => true) (-1) ls = 0 then some (ls, a) else none) := Fe.unp_all PM.out hm6 hne PT.out
      have OC : Hid (Chl wr (.slice op n oc) ls) := by
        have := O.out.l
        rw [LN.out] at this
        exact this
      go_wp2_with fail
      refine (fcheck_any 53 (by intro args w; go_simp) _ #[] ls (fun _ => true) wr OC.out (fun W hW c hc => anywhere_any c W)).mono ?_
      rintro e w5 ⟨r, rfl, hr, hb⟩
      have B5 : Hid (Below w.heap.size w w5) := BW.out.trans (hb.mono BW.out.size)
      have O5 : Hid (Cho w5 w.heap.size (.slice op n oc) ls) := by
        have := (O.out.below hb).mono (base' := w.heap.size) (by have := HZ2.out; have := HZ.out; omega)
        rw [LN.out] at this
        exact this
      have cl5 : w5.cell? ⟨za, 0, none⟩ = some (.int .i64 (a : Nat)) := by rw [hb.cell (p := ⟨za, 0, none⟩) (cell_lt cl)]; exact cl
      have CF : Hid (Er r (Fe.cfault (fun _ => true) (-1) ls)) := by
        have : chk (fun _ => true) ls = Fe.cfault (fun _ => true) (-1) ls := by unfold chk; rw [if_neg (by rw [LN.out]; omega)]
        rw [this] at hr
        exact hr
      clear hr hb OC
      rcases CF.out with ⟨h0, rfl⟩ | ⟨h0, rfl⟩
      · have UE : Hid (Fe.unpack l = some (ls, a)) := by unfold Hid; rw [UA.out, if_pos h0]
        have BQ : Hid (∀ q, Below w.heap.size w (w5.drewN q)) := fun q => ⟨B5.out.os, B5.out.tape, B5.out.output, B5.out.size, B5.out.block⟩
        have OQ : Hid (∀ q, Cho (w5.drewN q) w.heap.size (.slice op n oc) ls) := fun q => O5.out
        clear h0
        go_wp2
        go_quiet (fail)
        go_wp2
        go_ret3
        exact ⟨_, _, _, rfl, .inr ⟨ls, a, UE.out, rfl, rfl, OQ.out _⟩, BQ.out _⟩
      · have UE : Hid (Fe.unpack l = none) := by unfold Hid; rw [UA.out, if_neg h0]
        clear h0
        go_wp2
        go_ret3
        exact ⟨_, _, _, rfl, .inl ⟨UE.out, rfl, rfl, Er.no (by decide)⟩, B5.out⟩
    have hlt : (n : Int) < m := by omega
    go_wp2_with fail
    refine (unext_any w zb za zf _ l wr a false D3.out).mono ?_
    rintro e w2 ⟨x, a1, f1, rfl, hr1, hd1, hk1⟩
    have R1 : Hid (Wd.Rd (Wd.pnum l) a false x a1 f1) := hr1
    have E1 : Hid (Dc w zb za zf (.slice pa l.length ca) l w2 a1 f1) := hd1
    have K1 : Hid (K2 za zf wr w2) := hk1
    clear hr1 hd1 hk1
    go_wp2_with fail
    refine (unext_any w zb za zf _ l w2 a1 f1 E1.out).mono ?_
    rintro e w3 ⟨y, a2, f2, rfl, hr1, hd1, hk1⟩
    have R2 : Hid (Wd.Rd (Wd.pnum l) a1 f1 y a2 f2) := hr1
    have E2 : Hid (Dc w zb za zf (.slice pa l.length ca) l w3 a2 f2) := hd1
    have K2' : Hid (K2 za zf wr w3) := K1.out.trans hk1
    clear hr1 hd1 hk1
    go_wp2_with fail
    refine (unext_any w zb za zf _ l w3 a2 f2 E2.out).mono ?_
    rintro e w4 ⟨zz, a3, f3, rfl, hr1, hd1, hk1⟩
    have R3 : Hid (Wd.Rd (Wd.pnum l) a2 f2 zz a3 f3) := hr1
    have E3 : Hid (Dc w zb za zf (.slice pa l.length ca) l w4 a3 f3) := hd1
    have K3 : Hid (K2 za zf wr w4) := K2'.out.trans hk1
    clear hr1 hd1 hk1
    have PX : Hid ((f3 = false ∧ Fe.ptr l b0 (n + 1) = some (ls ++ [⟨Fe.wrap (p + x), Fe.wrap (y - 1), Fe.wrap (zz - 1)⟩], Fe.wrap (p + x), a3)) ∨ (f3 = true ∧ Fe.ptr l b0 (n + 1) = none)) := Fe.ptr_next PT.out R1.out R2.out R3.out
    simp only [Fe.wrap, i64_to64] at PX
    obtain ⟨x', hx'⟩ : ∃ v, wrap64 (p + x) = v := ⟨_, rfl⟩
    obtain ⟨y', hy'⟩ : ∃ v, wrap64 (y - 1) = v := ⟨_, rfl⟩
    obtain ⟨z', hz'⟩ : ∃ v, wrap64 (zz - 1) = v := ⟨_, rfl⟩
    rw [hx', hy', hz'] at PX
    have O4 : Hid (Cho w4 (zf + 1) (.slice op n oc) ls) := by
      have := owns_k2 O.out K3.out (by have := HZ2.out; omega) (by omega)
      rw [LN.out] at this
      unfold Hid Cho
      rw [LN.out]
      exact this
    have S4 : Hid (zf + 1 ≤ w4.heap.size) := E3.out.ltf
    try rw [hx']
    go_wp2_with (at_builtin; refine app_ch _ rfl _ _ rfl (zf + 1) _ ls rfl (O4.out.alloc _) w4.heap.size ⟨x', y', z'⟩ rfl (Chc.mk' ⟨x', y', z'⟩ rfl) (by rw [LN.out]; omega) (by have := S4.out; simp; omega) ?_)
    intro gg cap w5 o5 g5 _ l5
    have O5 : Hid (Cho w5 (zf + 1) (.slice (some ⟨gg, 0, none⟩) (ls.length + 1) cap) (ls ++ [⟨x', y', z'⟩])) := o5
    have hob : ∀ j, (Value.slice op n oc).ownBlock = some j → zf + 1 ≤ j := fun j hj => (O4.out.block j hj).1
    have B5 : Hid (Below (zf + 1) w4 w5) := ((Below.refl _ _).alloc S4.out _).grown g5 (by have := S4.out; simp; omega) hob
    have E5 : Hid (Dc w zb za zf (.slice pa l.length ca) l w5 a3 f3) := E3.out.kept B5.out
    clear o5 g5 l5 hob
    go_wp2
    go_roundw
    case rel => exact ⟨n + 1, ls ++ [⟨x', y', z'⟩], x', a3, f3, by rw [List.length_append, LN.out]; rfl, by omega, rfl, O5.out, E5.out, fun h => by
        rcases PX.out with ⟨e, -⟩ | ⟨-, e⟩
        · rw [h] at e; cases e
        · exact Fe.unp_early PM.out (by omega) e, fun h => by
        rcases PX.out with ⟨-, e⟩ | ⟨e, -⟩
        · exact ⟨PM.out, hm0, hm6, by omega, e⟩
        · rw [h] at e; cases e⟩
    case measure => simp [slen, LN.out]; omega
end Go.Proofs.YtoabhfipikkkeaaGreatDoor

namespace Go.Proofs.YtoabhfipikkkeaaGreatDoor
open Go.RowKit
set_option linter.unusedVariables false

/-- the function that reads a number. -/
def nextF (zb za zf : Nat) : Value := .func (.func 60) #[] #[.pointer (some ⟨zb, 0, none⟩), .pointer (some ⟨za, 0, none⟩), .pointer (some ⟨zf, 0, none⟩)]
set_option maxHeartbeats 2000000 in
theorem dnext_any (w0 : World) (zb za zf : Nat) (v : Value) (l : List UInt8) (w : World) (a : Nat) (f : Bool) (h : Dc w0 zb za zf v l w a f) :
    Calls Tryz.prog 60 #[.pointer (some ⟨zb, 0, none⟩), .pointer (some ⟨za, 0, none⟩), .pointer (some ⟨zf, 0, none⟩)] w (NextSays w0 zb za zf v l w a f) := by
  have D : Hid (Dc w0 zb za zf v l w a f) := h
  have B : Hid (By w v l) := h.by_
  obtain ⟨ad, cap, rfl, h1, h2, h3⟩ := h.by_
  have cb := h.cb
  obtain ⟨ca, fa⟩ := h.la
  obtain ⟨cf, ff⟩ := h.lf
  have le := h.le
  have cm : cap ≤ 9223372036854775807 := by unfold maxLen at h2; omega
  clear h h2 h3
  go_enter Tryz.func60, Tryz.ntmps60
  go_wp2_with fail
  all_goals
    refine (read_any _ (l.drop a) _ (by first | exact B.out.drop le | exact By.end_ _ _ _ (by omega))).mono ?_
    rintro e w1 ⟨⟨u, rfl, hu⟩, rfl⟩
    have ne : za ≠ zf := by have := D.out.af; omega
    have ne' : zf ≠ za := fun e => ne e.symm
    unfold ReadSays at hu
    cases hr : Wd.rd 0 0 (l.drop a) with
    | none =>
      rw [hr] at hu
      subst hu
      have E : Hid (Wd.pnum l a = none) := by unfold Hid Wd.pnum; rw [hr]
      have F : Hid (NextSays w0 zb za zf (.slice ad l.length _) l w1 a f (.returned (.int .i64 0)) ((w1.setCell ⟨za, 0, none⟩ (.int .i64 (a : Nat))).setCell ⟨zf, 0, none⟩ (.bool true))) := ⟨0, a, true, rfl, ⟨fun _ => rfl, fun _ => .inr ⟨E.out, rfl⟩⟩, (D.out.put le).1, (D.out.put le).2⟩
      cases f
      all_goals
        go_wp2
        go_ret
        exact F.out
    | some p =>
      obtain ⟨x, n⟩ := p
      rw [hr] at hu
      subst hu
      obtain ⟨k1, k2, k3, k4⟩ := Wd.rd_le _ 0 0 x n (by omega) (by decide) hr
      rw [List.length_drop] at k2
      obtain ⟨a', ha'⟩ : ∃ a', a + n = a' := ⟨_, rfl⟩
      have E : Hid (Wd.pnum l a = some (Wd.unz x, a')) := by unfold Hid Wd.pnum; rw [hr, ← ha']
      have ai : (a : Int) + (n : Int) = (a' : Nat) := by omega
      have wa : IntKind.i64.wrap ((a' : Nat) : Int) = (a' : Nat) := by rw [IntKind.wrap_i64]; omega
      have hn0 : (((n : Nat) : Int) == 0) = false := by
        have : ¬ ((n : Nat) : Int) = 0 := by omega
        simpa using this
      have F : Hid (NextSays w0 zb za zf (.slice ad l.length _) l w1 a f (.returned (.int .i64 (Wd.unz x))) ((w1.setCell ⟨za, 0, none⟩ (.int .i64 (a' : Nat))).setCell ⟨zf, 0, none⟩ (.bool f))) := ⟨_, a', f, rfl, ⟨fun h => h, fun h => .inl ⟨E.out, h⟩⟩, (D.out.put (by omega)).1, (D.out.put (by omega)).2⟩
      clear hr k1 k2 k3 k4 ha'
      cases f
      all_goals
        go_wp2
        go_ret
        exact F.out
end Go.Proofs.YtoabhfipikkkeaaGreatDoor

namespace Go.Proofs.YtoabhfipikkkeaaGreatDoor
open Go.RowKit
set_option linter.unusedVariables false

/-- the function that reads how many there are. -/
def manyF (zn zf : Nat) : Value := .func (.func 61) #[] #[.pointer (some ⟨zn, 0, none⟩), .pointer (some ⟨zf, 0, none⟩)]
structure Ds (w0 : World) (zb za zf zn : Nat) (v : Value) (l : List UInt8) (w : World) (a : Nat) (f : Bool) : Prop where
  d : Dc w0 zb za zf v l w a f
  fn : zf < zn
  cn : w.cell? ⟨zn, 0, none⟩ = some (nextF zb za zf)
theorem Ds.lt {w0 w : World} {zb za zf zn a : Nat} {v : Value} {l : List UInt8} {f : Bool} (h : Ds w0 zb za zf zn v l w a f) : zn < w.heap.size := cell_lt h.cn
theorem Ds.kept {w0 w w' : World} {zb za zf zn a : Nat} {v : Value} {l : List UInt8} {f : Bool} (h : Ds w0 zb za zf zn v l w a f) (hb : Below (zn + 1) w w') : Ds w0 zb za zf zn v l w' a f := by
  have := h.fn
  exact ⟨h.d.kept (hb.mono (by omega)), h.fn, by rw [hb.cell (p := ⟨zn, 0, none⟩) (by show zn < _; omega)]; exact h.cn⟩
theorem Ds.to {w0 w w' : World} {zb za zf zn a a' : Nat} {v : Value} {l : List UInt8} {f f' : Bool} (h : Ds w0 zb za zf zn v l w a f) (d : Dc w0 zb za zf v l w' a' f') (k : K2 za zf w w') : Ds w0 zb za zf zn v l w' a' f' := by
  have h1 := h.fn
  have h2 := h.d.af
  exact ⟨d, h.fn, by rw [k.cell ⟨zn, 0, none⟩ h.lt (by show zn ≠ _; omega) (by show zn ≠ _; omega)]; exact h.cn⟩
theorem Dc.flag {w0 w : World} {zb za zf a : Nat} {v : Value} {l : List UInt8} {f f' : Bool} (h : Dc w0 zb za zf v l w a f) : Dc w0 zb za zf v l (w.setCell ⟨zf, 0, none⟩ (.bool f')) a f' ∧ K2 za zf w (w.setCell ⟨zf, 0, none⟩ (.bool f')) := by
  have h1 := h.ba
  have h2 := h.af
  have hs : K2 za zf w (w.setCell ⟨zf, 0, none⟩ (.bool f')) := K2.setZ w 0 _
  have lf := h.ltf
  refine ⟨⟨h.src, h.low, h.ba, h.af, hs.below h.bl (by omega) (by omega) (by omega), ?_, ?_, ?_, h.le⟩, hs⟩
  · rw [hs.cell ⟨zb, 0, none⟩ (by show zb < _; omega) (by show zb ≠ _; omega) (by show zb ≠ _; omega)]; exact h.cb
  · exact (Below.heap_setCell w ⟨zf, 0, none⟩ _ _ (by show za ≠ zf; omega)).trans h.ca
  · exact heap_setCell_same _ zf 0 _ _ (.bool f') h.cf
/-- what it says. -/
def ManySays (w0 : World) (zb za zf : Nat) (v : Value) (l : List UInt8) (w : World) (a : Nat) (f : Bool) (e : Ending) (w' : World) : Prop :=
  ∃ (n a' : Nat) (f' : Bool), e = .returned (.int .i64 (n : Nat)) ∧ n ≤ 200 ∧ Wd.Rd (Wd.pmany l) a f n a' f' ∧ Dc w0 zb za zf v l w' a' f' ∧ K2 za zf w w'
theorem many_bad {l : List UInt8} {a : Nat} {f : Bool} {n : Int} {a' : Nat} {f' : Bool} (h : Wd.Rd (Wd.pnum l) a f n a' f') (hb : f' = true ∨ ¬ (0 ≤ n ∧ n ≤ 200)) : Wd.Rd (Wd.pmany l) a f 0 a' true := by
  refine ⟨fun _ => rfl, fun hf => .inr ⟨?_, rfl⟩⟩
  unfold Wd.pmany
  rcases h.2 hf with ⟨e, e2⟩ | ⟨e, e2⟩
  · rw [e]
    rcases hb with hb | hb
    · rw [e2] at hb; cases hb
    · simp only [if_neg hb]
  · rw [e]
theorem many_ok {l : List UInt8} {a : Nat} {f : Bool} {n : Nat} {a' : Nat} (h : Wd.Rd (Wd.pnum l) a f (n : Int) a' false) (hb : n ≤ 200) : Wd.Rd (Wd.pmany l) a f n a' false := by
  refine ⟨h.1, fun hf => ?_⟩
  rcases h.2 hf with ⟨e, e2⟩ | ⟨e, e2⟩
  · refine .inl ⟨?_, rfl⟩
    unfold Wd.pmany
    rw [e]
    simp only
    rw [if_pos (by omega)]
    rfl
  · cases e2
set_option maxHeartbeats 2000000 in
theorem dmany_any (w0 : World) (zb za zf zn : Nat) (v : Value) (l : List UInt8) (w : World) (a : Nat) (f : Bool) (h : Ds w0 zb za zf zn v l w a f) :
    Calls Tryz.prog 61 #[.pointer (some ⟨zn, 0, none⟩), .pointer (some ⟨zf, 0, none⟩)] w (ManySays w0 zb za zf v l w a f) := by
  have D : Hid (Ds w0 zb za zf zn v l w a f) := h
  have cn := h.cn
  clear h
  unfold nextF at cn
  go_enter Tryz.func61, Tryz.ntmps61
  go_wp2_with fail
  refine (dnext_any w0 zb za zf v l w a f D.out.d).mono ?_
  rintro e w1 ⟨n, a1, f1, rfl, hrd, hd, hk⟩
  have R : Hid (Wd.Rd (Wd.pnum l) a f n a1 f1) := hrd
  have D1 : Hid (Dc w0 zb za zf v l w1 a1 f1) := hd
  have K1 : Hid (K2 za zf w w1) := hk
  obtain ⟨cf, ff⟩ := hd.lf
  clear hrd hd hk cn
  cases f1 with
  | true =>
    go_wp2
    go_ret
    exact ⟨0, a1, true, rfl, by omega, many_bad R.out (.inl rfl), D1.out.flag.1, K1.out.trans D1.out.flag.2⟩
  | false =>
    by_cases hn : 0 ≤ n ∧ n ≤ 200
    · have hb : decide (0 ≤ n ∧ n ≤ 200) = true := decide_eq_true hn
      go_wp2_with fail
      refine (wwithin_any n 0 200 w1).mono ?_
      rintro e w2 ⟨rfl, rfl⟩
      rw [hb]
      go_wp2
      go_ret
      obtain ⟨m, rfl⟩ : ∃ m : Nat, n = m := ⟨n.toNat, by omega⟩
      exact ⟨m, a1, false, rfl, by omega, many_ok R.out (by omega), D1.out.flag.1, K1.out.trans D1.out.flag.2⟩
    · have hb : decide (0 ≤ n ∧ n ≤ 200) = false := decide_eq_false hn
      go_wp2_with fail
      refine (wwithin_any n 0 200 w1).mono ?_
      rintro e w2 ⟨rfl, rfl⟩
      rw [hb]
      go_wp2
      go_ret
      exact ⟨0, a1, true, rfl, by omega, many_bad R.out (.inr hn), D1.out.flag.1, K1.out.trans D1.out.flag.2⟩
end Go.Proofs.YtoabhfipikkkeaaGreatDoor

namespace Go.Proofs.YtoabhfipikkkeaaGreatDoor
open Go.RowKit
set_option linter.unusedVariables false

theorem K2.drop_ {y z : Nat} {w0 w w' : World} {row : Option Nat} (h : w.grownBy w' row) (hne : ∀ b, row = some b → z + 1 ≤ b) (hz : z + 1 ≤ w.heap.size) : Below (z + 1) w w' :=
  (Below.refl _ w).grown h hz hne
theorem K2.then_below {y z : Nat} {w x w' : World} (k : K2 y z w x) (h : Below w.heap.size x w') : K2 y z w w' :=
  ⟨h.os.trans k.os, h.tape.trans k.tape, h.output.trans k.output, Nat.le_trans k.size h.size, fun i hi hy hz => (h.block i hi).trans (k.block i hi hy hz)⟩
/-- what a list of numbers is read as. -/
def RlSays (w0 : World) (zb za zf zn : Nat) (v : Value) (l : List UInt8) (w : World) (a : Nat) (f : Bool) (e : Ending) (w' : World) : Prop :=
  ∃ (xs : List Int) (a' : Nat) (f' : Bool) (u : Value), e = .returned u ∧ Ow w' w.heap.size u xs ∧ xs.length ≤ 200 ∧ Wd.Rd (Wd.plist l (Wd.pnum l)) a f xs a' f' ∧ Ds w0 zb za zf zn v l w' a' f' ∧ K2 za zf w w'
theorem Ow.k2 {y z : Nat} {w w' : World} {base : Nat} {u : Value} {xs : List Int} (h : Ow w base u xs) (k : K2 y z w w') (hy : y < base) (hz : z < base) : Ow w' base u xs := owns_k2 h k hy hz
set_option maxRecDepth 100000 in
set_option maxHeartbeats 4000000 in
theorem rlist_any (w0 : World) (zb za zf zn : Nat) (v : Value) (l : List UInt8) (w : World) (a : Nat) (f : Bool) (h : Ds w0 zb za zf zn v l w a f) :
    Calls Tryz.prog 112 #[manyF zn zf, nextF zb za zf] w (RlSays w0 zb za zf zn v l w a f) := by
  have D : Hid (Ds w0 zb za zf zn v l w a f) := h
  clear h
  unfold manyF nextF
  go_enter Tryz.func112, Tryz.ntmps112
  go_wp2_with fail
  refine (dmany_any w0 zb za zf zn v l w a f D.out).mono ?_
  rintro e w1 ⟨n, a1, f1, rfl, hn, hrd, hd, hk⟩
  have R : Hid (Wd.Rd (Wd.pmany l) a f n a1 f1) := hrd
  have D1 : Hid (Ds w0 zb za zf zn v l w1 a1 f1) := D.out.to hd hk
  have K1 : Hid (K2 za zf w w1) := hk
  clear hrd hd hk
  go_wp2
  go_loopw [5, 8] (fun lv iv W => ∃ (xs : List Int) (k a' : Nat) (f' : Bool), iv = .int .i64 (k : Nat) ∧ k ≤ n ∧ xs.length = k ∧ Ow W w.heap.size lv xs ∧ Wd.Rd (Wd.prep (Wd.pnum l) k) a1 f1 xs a' f' ∧ Ds w0 zb za zf zn v l W a' f' ∧ K2 za zf w W) (fun _ iv _ => n - (intOf iv).toNat)
  case atStart => exact ⟨[], 0, a1, f1, rfl, Nat.zero_le _, rfl, Ow.nil _ _, Wd.Rd.nil _ _ _, D1.out, K1.out⟩
  case round =>
    obtain ⟨xs, k, a', f', rfl, hkn, hxl, hown, hrd, hds, hk2⟩ := hrel
    have O : Hid (Ow wr w.heap.size u5 xs) := hown
    have R2 : Hid (Wd.Rd (Wd.prep (Wd.pnum l) k) a1 f1 xs a' f') := hrd
    have D2 : Hid (Ds w0 zb za zf zn v l wr a' f') := hds
    have K2' : Hid (K2 za zf w wr) := hk2
    have HX : Hid (xs.length = k) := hxl
    clear hown hrd hds hk2 hxl
    by_cases he : k = n
    · subst he
      go_wp2
      go_ret
      exact ⟨xs, a', f', _, rfl, O.out, by rw [HX.out]; exact hn, R.out.list R2.out, D2.out, K2'.out⟩
    · have hlt : (k : Int) < (n : Int) := by omega
      go_wp2_with fail
      refine (dnext_any w0 zb za zf v l wr a' f' D2.out.d).mono ?_
      rintro e w2 ⟨x, a2, f2, rfl, hrd, hd, hk⟩
      have R3 : Hid (Wd.Rd (Wd.pnum l) a' f' x a2 f2) := hrd
      have D3 : Hid (Ds w0 zb za zf zn v l w2 a2 f2) := D2.out.to hd hk
      have K3 : Hid (K2 za zf wr w2) := hk
      clear hrd hd hk
      have zw : Hid (zn < w.heap.size ∧ zf < zn ∧ za < zf) := ⟨D.out.lt, D.out.fn, D.out.d.af⟩
      have O3 : Hid (Ow w2 w.heap.size u5 xs) := O.out.k2 K3.out (by have := zw.out; omega) (by have := zw.out; omega)
      have S3 : Hid (w.heap.size ≤ w2.heap.size) := Nat.le_trans K2'.out.size K3.out.size
      go_wp2_with (at_builtin; refine app_int _ rfl _ _ rfl w.heap.size _ xs rfl (O3.out.alloc _) ⟨w2.heap.size, 0, none⟩ x rfl (by simp) (by rw [HX.out]; omega) (by have := S3.out; simp; omega) ?_)
      intro g cap w5 o5 g5 a5 l5
      have hob : ∀ b, u5.ownBlock = some b → w.heap.size ≤ b := fun b hb => (O3.out.block b hb).1
      have O5 : Hid (Ow w5 w.heap.size (.slice (some ⟨g, 0, none⟩) (xs.length + 1) cap) (xs ++ [x])) := o5
      have D5 : Hid (Ds w0 zb za zf zn v l w5 a2 f2) := D3.out.kept (((Below.refl _ _).alloc (by have := zw.out; have := S3.out; omega) _).grown g5 (by have := zw.out; have := S3.out; simp; omega) (fun b hb => by have := hob b hb; have := zw.out; omega))
      have K5 : Hid (K2 za zf w w5) := ((K2'.out.trans K3.out).trans (K2.of ((Below.refl _ _).alloc (Nat.le_refl _) _))).grown g5 hob
      have R5 : Hid (Wd.Rd (Wd.prep (Wd.pnum l) (k + 1)) a1 f1 (xs ++ [x]) a2 f2) := R2.out.snoc R3.out
      clear o5 g5 a5 l5 hob
      go_wp2
      go_roundw
      case rel => exact ⟨xs ++ [x], k + 1, a2, f2, rfl, by omega, by rw [List.length_append, HX.out]; rfl, O5.out, R5.out, D5.out, K5.out⟩
      case measure => simp [intOf]; omega
end Go.Proofs.YtoabhfipikkkeaaGreatDoor

namespace Go.Proofs.YtoabhfipikkkeaaGreatDoor
open Go.RowKit
set_option linter.unusedVariables false

/-- what a job is read as. -/
def JobSays (w0 : World) (zb za zf : Nat) (v : Value) (l : List UInt8) (w : World) (a : Nat) (f : Bool) (e : Ending) (w' : World) : Prop :=
  ∃ (j : JbV) (a' : Nat) (f' : Bool), e = .returned j.val ∧ Wd.Rd (Wd.pjob l) a f j a' f' ∧ Dc w0 zb za zf v l w' a' f' ∧ K2 za zf w w'
set_option maxRecDepth 100000 in
set_option maxHeartbeats 4000000 in
theorem djob_any (w0 : World) (zb za zf zx : Nat) (v : Value) (l : List UInt8) (w : World) (a : Nat) (f : Bool) (h : Dc w0 zb za zf v l w a f) (hx : zf < zx) (cx : w.cell? ⟨zx, 0, none⟩ = some (nextF zb za zf)) :
    Calls Tryz.prog 111 #[.pointer (some ⟨zx, 0, none⟩)] w (JobSays w0 zb za zf v l w a f) := by
  have hzx : Hid (zx < w.heap.size) := cell_lt cx
  generalize hw0 : w.alloc (Obj.cells #[.int .i64 0, .int .i64 0, .int .i64 0, .int .i64 0] 94) = w1
  have B1 : Hid (Below w.heap.size w w1) := by rw [← hw0]; exact (Below.refl _ _).alloc (Nat.le_refl _) _
  have Z1 : Hid (w1.heap[w.heap.size]? = some (Obj.cells #[.int .i64 0, .int .i64 0, .int .i64 0, .int .i64 0] 94 (0, 0))) := by unfold Hid; rw [← hw0, heap_alloc_new]
  have Hw : Hid (w.alloc (Obj.cells #[.int .i64 0, .int .i64 0, .int .i64 0, .int .i64 0] 94) = w1) := hw0
  have D : Hid (Dc w0 zb za zf v l w1 a f) := h.kept (B1.out.mono (by have := h.ltf; omega))
  have cx1 : w1.cell? ⟨zx, 0, none⟩ = some (nextF zb za zf) := by rw [B1.out.cell (p := ⟨zx, 0, none⟩) hzx.out]; exact cx
  have ord : Hid (za < zf ∧ zf < zx) := ⟨h.af, hx⟩
  clear h cx hw0
  unfold nextF at cx1
  go_enter Tryz.func111, Tryz.ntmps111
  go_upto_region 1 with fail
  rw [Hw.out]
  have cx2 : ({ w1 with drawn := w1.drawn + 1 } : World).cell? ⟨zx, 0, none⟩ = some (.func (.func 60) #[] #[.pointer (some ⟨zb, 0, none⟩), .pointer (some ⟨za, 0, none⟩), .pointer (some ⟨zf, 0, none⟩)]) := cx1
  have E0 : Hid (Dc w0 zb za zf v l { w1 with drawn := w1.drawn + 1 } a f ∧ Below w.heap.size w { w1 with drawn := w1.drawn + 1 } ∧ K2 za zf w { w1 with drawn := w1.drawn + 1 }) := ⟨D.out.kept (Below.refl _ _).drew, B1.out.drew, K2.of B1.out.drew⟩
  have Z2 : Hid (({ w1 with drawn := w1.drawn + 1 } : World).heap[w.heap.size]? = some (Obj.cells #[.int .i64 0, .int .i64 0, .int .i64 0, .int .i64 0] 94 (0, 0))) := Z1.out
  refine wp_region_sched [(true, 0), (true, 2), (true, 4), (true, 6), (false, 1), (false, 3), (false, 5), (false, 7), (false, 8), (false, 9)] (fun W => W.cell? ⟨zx, 0, none⟩ = some (.func (.func 60) #[] #[.pointer (some ⟨zb, 0, none⟩), .pointer (some ⟨za, 0, none⟩), .pointer (some ⟨zf, 0, none⟩)])) (by kernel_rfl) (by kernel_rfl) (by kernel_rfl) (by kernel_rfl) cx1 ?_
  generalize ({ w1 with drawn := w1.drawn + 1 } : World) = w2 at *
  refine sched_read rfl (.func (.func 60) #[] #[.pointer (some ⟨zb, 0, none⟩), .pointer (some ⟨za, 0, none⟩), .pointer (some ⟨zf, 0, none⟩)]) (by go_simp) (fun W hW => by go_simp) ?_
  go_simp
  refine sched_read rfl (.func (.func 60) #[] #[.pointer (some ⟨zb, 0, none⟩), .pointer (some ⟨za, 0, none⟩), .pointer (some ⟨zf, 0, none⟩)]) (by go_simp) (fun W hW => by go_simp) ?_
  go_simp
  refine sched_read rfl (.func (.func 60) #[] #[.pointer (some ⟨zb, 0, none⟩), .pointer (some ⟨za, 0, none⟩), .pointer (some ⟨zf, 0, none⟩)]) (by go_simp) (fun W hW => by go_simp) ?_
  go_simp
  refine sched_read rfl (.func (.func 60) #[] #[.pointer (some ⟨zb, 0, none⟩), .pointer (some ⟨za, 0, none⟩), .pointer (some ⟨zf, 0, none⟩)]) (by go_simp) (fun W hW => by go_simp) ?_
  go_simp
  refine sched_call rfl 60 #[.pointer (some ⟨zb, 0, none⟩), .pointer (some ⟨za, 0, none⟩), .pointer (some ⟨zf, 0, none⟩)] (by go_simp) (by go_simp) ?_
  refine (dnext_any w0 zb za zf v l w2 a f E0.out.1).mono ?_
  rintro e x0 ⟨n0, a0, f0, rfl, hrd, hd, hk⟩
  have R0 : Hid (Wd.Rd (Wd.pnum l) a f n0 a0 f0) := hrd
  have Q0 : Hid (Dc w0 zb za zf v l x0 a0 f0 ∧ K2 za zf w2 x0) := ⟨hd, hk⟩
  clear hrd hd hk
  refine ⟨_, rfl, ?_, ?_⟩
  · have := ord.out
    have := hzx.out
    rw [Q0.out.2.cell ⟨zx, 0, none⟩ (by have := E0.out.2.1.size; show zx < _; omega) (by show zx ≠ _; omega) (by show zx ≠ _; omega)]
    exact cx2
  go_simp
  refine sched_call rfl 60 #[.pointer (some ⟨zb, 0, none⟩), .pointer (some ⟨za, 0, none⟩), .pointer (some ⟨zf, 0, none⟩)] (by go_simp) (by go_simp) ?_
  refine (dnext_any w0 zb za zf v l x0 a0 f0 Q0.out.1).mono ?_
  rintro e x1 ⟨n1, a1, f1, rfl, hrd, hd, hk⟩
  have R1 : Hid (Wd.Rd (Wd.pnum l) a0 f0 n1 a1 f1) := hrd
  have Q1 : Hid (Dc w0 zb za zf v l x1 a1 f1 ∧ K2 za zf w2 x1) := ⟨hd, Q0.out.2.trans hk⟩
  clear hrd hd hk
  refine ⟨_, rfl, ?_, ?_⟩
  · have := ord.out
    have := hzx.out
    rw [Q1.out.2.cell ⟨zx, 0, none⟩ (by have := E0.out.2.1.size; show zx < _; omega) (by show zx ≠ _; omega) (by show zx ≠ _; omega)]
    exact cx2
  go_simp
  refine sched_call rfl 60 #[.pointer (some ⟨zb, 0, none⟩), .pointer (some ⟨za, 0, none⟩), .pointer (some ⟨zf, 0, none⟩)] (by go_simp) (by go_simp) ?_
  refine (dnext_any w0 zb za zf v l x1 a1 f1 Q1.out.1).mono ?_
  rintro e x2 ⟨n2, a2, f2, rfl, hrd, hd, hk⟩
  have R2 : Hid (Wd.Rd (Wd.pnum l) a1 f1 n2 a2 f2) := hrd
  have Q2 : Hid (Dc w0 zb za zf v l x2 a2 f2 ∧ K2 za zf w2 x2) := ⟨hd, Q1.out.2.trans hk⟩
  clear hrd hd hk
  refine ⟨_, rfl, ?_, ?_⟩
  · have := ord.out
    have := hzx.out
    rw [Q2.out.2.cell ⟨zx, 0, none⟩ (by have := E0.out.2.1.size; show zx < _; omega) (by show zx ≠ _; omega) (by show zx ≠ _; omega)]
    exact cx2
  go_simp
  refine sched_call rfl 60 #[.pointer (some ⟨zb, 0, none⟩), .pointer (some ⟨za, 0, none⟩), .pointer (some ⟨zf, 0, none⟩)] (by go_simp) (by go_simp) ?_
  refine (dnext_any w0 zb za zf v l x2 a2 f2 Q2.out.1).mono ?_
  rintro e x3 ⟨n3, a3, f3, rfl, hrd, hd, hk⟩
  have R3 : Hid (Wd.Rd (Wd.pnum l) a2 f2 n3 a3 f3) := hrd
  have Q3 : Hid (Dc w0 zb za zf v l x3 a3 f3 ∧ K2 za zf w2 x3) := ⟨hd, Q2.out.2.trans hk⟩
  clear hrd hd hk
  refine ⟨_, rfl, ?_, ?_⟩
  · have := ord.out
    have := hzx.out
    rw [Q3.out.2.cell ⟨zx, 0, none⟩ (by have := E0.out.2.1.size; show zx < _; omega) (by show zx ≠ _; omega) (by show zx ≠ _; omega)]
    exact cx2
  go_simp
  have L : Hid (zx < w.heap.size ∧ w.heap.size < w2.heap.size) := ⟨hzx.out, lt_of_block Z2.out⟩
  have Z : Hid (x3.heap[w.heap.size]? = some (Obj.cells #[.int .i64 0, .int .i64 0, .int .i64 0, .int .i64 0] 94 (0, 0))) := by
    unfold Hid
    have := ord.out
    have := L.out
    rw [Q3.out.2.block w.heap.size this.2 (by omega) (by omega)]
    exact Z2.out
  have c0 : x3.cell? ⟨w.heap.size, 0, none⟩ = some (.int .i64 0) := by have := Z.out; simp [World.cell?, this]
  have t0 : x3.frozen? ⟨w.heap.size, 0, none⟩ = false := by have := Z.out; simp [World.frozen?, this]
  have c1 : x3.cell? ⟨w.heap.size, 1, none⟩ = some (.int .i64 0) := by have := Z.out; simp [World.cell?, this]
  have t1 : x3.frozen? ⟨w.heap.size, 1, none⟩ = false := by have := Z.out; simp [World.frozen?, this]
  have c2 : x3.cell? ⟨w.heap.size, 2, none⟩ = some (.int .i64 0) := by have := Z.out; simp [World.cell?, this]
  have t2 : x3.frozen? ⟨w.heap.size, 2, none⟩ = false := by have := Z.out; simp [World.frozen?, this]
  have c3 : x3.cell? ⟨w.heap.size, 3, none⟩ = some (.int .i64 0) := by have := Z.out; simp [World.cell?, this]
  have t3 : x3.frozen? ⟨w.heap.size, 3, none⟩ = false := by have := Z.out; simp [World.frozen?, this]
  have cxx : x3.cell? ⟨zx, 0, none⟩ = some (.func (.func 60) #[] #[.pointer (some ⟨zb, 0, none⟩), .pointer (some ⟨za, 0, none⟩), .pointer (some ⟨zf, 0, none⟩)]) := by
    have := ord.out
    have := L.out
    rw [Q3.out.2.cell ⟨zx, 0, none⟩ (by show zx < _; omega) (by show zx ≠ _; omega) (by show zx ≠ _; omega)]
    exact cx2
  have nex : zx ≠ w.heap.size := by have := L.out; omega
  refine sched_value rfl (.agg #[.int .i64 n0, .int .i64 n1, .int .i64 n2, .int .i64 n3]) x3 (by go_simp) (by go_simp) cxx ?_
  go_simp
  have CH : Hid (Below w.heap.size x3 ((((x3.setCell ⟨w.heap.size, 0, none⟩ (.int .i64 n0)).setCell ⟨w.heap.size, 1, none⟩ (.int .i64 n1)).setCell ⟨w.heap.size, 2, none⟩ (.int .i64 n2)).setCell ⟨w.heap.size, 3, none⟩ (.int .i64 n3))) := (((((Below.refl _ _).setCell (p := ⟨w.heap.size, 0, none⟩) (Nat.le_refl _) _).setCell (p := ⟨w.heap.size, 1, none⟩) (Nat.le_refl _) _).setCell (p := ⟨w.heap.size, 2, none⟩) (Nat.le_refl _) _).setCell (p := ⟨w.heap.size, 3, none⟩) (Nat.le_refl _) _)
  have ZZ : Hid (((((x3.setCell ⟨w.heap.size, 0, none⟩ (.int .i64 n0)).setCell ⟨w.heap.size, 1, none⟩ (.int .i64 n1)).setCell ⟨w.heap.size, 2, none⟩ (.int .i64 n2)).setCell ⟨w.heap.size, 3, none⟩ (.int .i64 n3)).heap[w.heap.size]? = some (Obj.cells #[.int .i64 n0, .int .i64 n1, .int .i64 n2, .int .i64 n3] 94 (0, 0))) := heap_setCell_same _ w.heap.size 3 _ _ (.int .i64 n3) (heap_setCell_same _ w.heap.size 2 _ _ (.int .i64 n2) (heap_setCell_same _ w.heap.size 1 _ _ (.int .i64 n1) (heap_setCell_same _ w.heap.size 0 _ _ (.int .i64 n0) (Z.out))))
  refine sched_skip rfl ((((x3.setCell ⟨w.heap.size, 0, none⟩ (.int .i64 n0)).setCell ⟨w.heap.size, 1, none⟩ (.int .i64 n1)).setCell ⟨w.heap.size, 2, none⟩ (.int .i64 n2)).setCell ⟨w.heap.size, 3, none⟩ (.int .i64 n3)) (by go_simp) (by go_simp) ((CH.out.cell (p := ⟨zx, 0, none⟩) L.out.1).trans cxx) ?_
  go_simp
  generalize ((((x3.setCell ⟨w.heap.size, 0, none⟩ (.int .i64 n0)).setCell ⟨w.heap.size, 1, none⟩ (.int .i64 n1)).setCell ⟨w.heap.size, 2, none⟩ (.int .i64 n2)).setCell ⟨w.heap.size, 3, none⟩ (.int .i64 n3)) = w3 at *
  unfold wpSched
  have FIN : Hid (JobSays w0 zb za zf v l w a f (.returned (.agg #[.int .i64 n0, .int .i64 n1, .int .i64 n2, .int .i64 n3])) w3) := ⟨⟨n0, n1, n2, n3⟩, a3, f3, rfl, R0.out.bind (R1.out.bind (R2.out.bind (R3.out.bind (Wd.Rd.ret _ _ _)))), Q3.out.1.kept (CH.out.mono (by have := ord.out; have := L.out; omega)), (E0.out.2.2.trans Q3.out.2).then_below CH.out⟩
  have y0 : w3.cell? ⟨w.heap.size, 0, none⟩ = some (.int .i64 n0) := by have := ZZ.out; simp [World.cell?, this]
  have y1 : w3.cell? ⟨w.heap.size, 1, none⟩ = some (.int .i64 n1) := by have := ZZ.out; simp [World.cell?, this]
  have y2 : w3.cell? ⟨w.heap.size, 2, none⟩ = some (.int .i64 n2) := by have := ZZ.out; simp [World.cell?, this]
  have y3 : w3.cell? ⟨w.heap.size, 3, none⟩ = some (.int .i64 n3) := by have := ZZ.out; simp [World.cell?, this]
  clear c0 t0 c1 t1 c2 t2 c3 t3
  go_wp2
  refine bodyPost_ret (v := .agg #[.int .i64 n0, .int .i64 n1, .int .i64 n2, .int .i64 n3]) (by simp [results, Tryz.results111, go_sem, y0, y1, y2, y3]) rfl FIN.out
end Go.Proofs.YtoabhfipikkkeaaGreatDoor

namespace Go.Proofs.YtoabhfipikkkeaaGreatDoor
open Go.RowKit
set_option linter.unusedVariables false

/-- what a list of jobs is read as. -/
def RjSays (w0 : World) (zb za zf zn : Nat) (v : Value) (l : List UInt8) (w : World) (a : Nat) (f : Bool) (e : Ending) (w' : World) : Prop :=
  ∃ (xs : List JbV) (a' : Nat) (f' : Bool) (u : Value), e = .returned u ∧ Jbo w' w.heap.size u xs ∧ xs.length ≤ 200 ∧ Wd.Rd (Wd.plist l (Wd.pjob l)) a f xs a' f' ∧ Ds w0 zb za zf zn v l w' a' f' ∧ K2 za zf w w'
set_option maxRecDepth 100000 in
set_option maxHeartbeats 4000000 in
theorem rjobs_any (w0 : World) (zb za zf zn zx : Nat) (v : Value) (l : List UInt8) (w : World) (a : Nat) (f : Bool) (h : Ds w0 zb za zf zn v l w a f) (hx : zf < zx) (cx : w.cell? ⟨zx, 0, none⟩ = some (nextF zb za zf)) :
    Calls Tryz.prog 114 #[manyF zn zf, .func (.func 111) #[] #[.pointer (some ⟨zx, 0, none⟩)]] w (RjSays w0 zb za zf zn v l w a f) := by
  have D : Hid (Ds w0 zb za zf zn v l w a f) := h
  have CX : Hid (zf < zx ∧ zx < w.heap.size ∧ w.cell? ⟨zx, 0, none⟩ = some (nextF zb za zf)) := ⟨hx, cell_lt cx, cx⟩
  clear h cx hx
  unfold manyF
  go_enter Tryz.func114, Tryz.ntmps114
  go_wp2_with fail
  refine (dmany_any w0 zb za zf zn v l w a f D.out).mono ?_
  rintro e w1 ⟨n, a1, f1, rfl, hn, hrd, hd, hk⟩
  have R : Hid (Wd.Rd (Wd.pmany l) a f n a1 f1) := hrd
  have D1 : Hid (Ds w0 zb za zf zn v l w1 a1 f1) := D.out.to hd hk
  have K1 : Hid (K2 za zf w w1) := hk
  clear hrd hd hk
  go_wp2
  go_loopw [5, 8] (fun lv iv W => ∃ (xs : List JbV) (k a' : Nat) (f' : Bool), iv = .int .i64 (k : Nat) ∧ k ≤ n ∧ xs.length = k ∧ Jbo W w.heap.size lv xs ∧ Wd.Rd (Wd.prep (Wd.pjob l) k) a1 f1 xs a' f' ∧ Ds w0 zb za zf zn v l W a' f' ∧ K2 za zf w W) (fun _ iv _ => n - (intOf iv).toNat)
  case atStart => exact ⟨[], 0, a1, f1, rfl, Nat.zero_le _, rfl, Jbo.nil _ _, Wd.Rd.nil _ _ _, D1.out, K1.out⟩
  case round =>
    obtain ⟨xs, k, a', f', rfl, hkn, hxl, hown, hrd, hds, hk2⟩ := hrel
    have O : Hid (Jbo wr w.heap.size u5 xs) := hown
    have R2 : Hid (Wd.Rd (Wd.prep (Wd.pjob l) k) a1 f1 xs a' f') := hrd
    have D2 : Hid (Ds w0 zb za zf zn v l wr a' f') := hds
    have K2' : Hid (K2 za zf w wr) := hk2
    have HX : Hid (xs.length = k) := hxl
    have zw : Hid (zn < w.heap.size ∧ zf < zn ∧ za < zf) := ⟨D.out.lt, D.out.fn, D.out.d.af⟩
    clear hown hrd hds hk2 hxl
    by_cases he : k = n
    · subst he
      go_wp2
      go_ret
      exact ⟨xs, a', f', _, rfl, O.out, by rw [HX.out]; exact hn, R.out.list R2.out, D2.out, K2'.out⟩
    · have hlt : (k : Int) < (n : Int) := by omega
      have CR : Hid (wr.cell? ⟨zx, 0, none⟩ = some (nextF zb za zf)) := by
        unfold Hid
        have := CX.out
        have := zw.out
        rw [K2'.out.cell ⟨zx, 0, none⟩ (by show zx < _; omega) (by show zx ≠ _; omega) (by show zx ≠ _; omega)]
        exact CX.out.2.2
      go_wp2_with fail
      refine (djob_any w0 zb za zf zx v l wr a' f' D2.out.d CX.out.1 CR.out).mono ?_
      rintro e w2 ⟨x, a2, f2, rfl, hrd, hd, hk⟩
      unfold JbV.val
      have R3 : Hid (Wd.Rd (Wd.pjob l) a' f' x a2 f2) := hrd
      have D3 : Hid (Ds w0 zb za zf zn v l w2 a2 f2) := D2.out.to hd hk
      have K3 : Hid (K2 za zf wr w2) := hk
      clear hrd hd hk CR
      have O3 : Hid (Jbo w2 w.heap.size u5 xs) := owns_k2 O.out K3.out (by have := zw.out; omega) (by have := zw.out; omega)
      have S3 : Hid (w.heap.size ≤ w2.heap.size) := Nat.le_trans K2'.out.size K3.out.size
      go_wp2_with (at_builtin; refine app_jb _ rfl _ _ rfl w.heap.size _ xs rfl (O3.out.alloc _) w2.heap.size x rfl (Jbc.mk' x rfl) (by rw [HX.out]; omega) (by have := S3.out; simp; omega) ?_)
      intro g cap w5 o5 g5 a5 l5
      have hob : ∀ b, u5.ownBlock = some b → w.heap.size ≤ b := fun b hb => (O3.out.block b hb).1
      have O5 : Hid (Jbo w5 w.heap.size (.slice (some ⟨g, 0, none⟩) (xs.length + 1) cap) (xs ++ [x])) := o5
      have D5 : Hid (Ds w0 zb za zf zn v l w5 a2 f2) := D3.out.kept (((Below.refl _ _).alloc (by have := zw.out; have := S3.out; omega) _).grown g5 (by have := zw.out; have := S3.out; simp; omega) (fun b hb => by have := hob b hb; have := zw.out; omega))
      have K5 : Hid (K2 za zf w w5) := ((K2'.out.trans K3.out).trans (K2.of ((Below.refl _ _).alloc (Nat.le_refl _) _))).grown g5 hob
      have R5 : Hid (Wd.Rd (Wd.prep (Wd.pjob l) (k + 1)) a1 f1 (xs ++ [x]) a2 f2) := R2.out.snoc R3.out
      clear o5 g5 a5 l5 hob
      go_wp2
      go_roundw
      case rel => exact ⟨xs ++ [x], k + 1, a2, f2, rfl, by omega, by rw [List.length_append, HX.out]; rfl, O5.out, R5.out, D5.out, K5.out⟩
      case measure => simp [intOf]; omega
end Go.Proofs.YtoabhfipikkkeaaGreatDoor

namespace Go.Proofs.YtoabhfipikkkeaaGreatDoor
open Go.RowKit
set_option linter.unusedVariables false

/-- what a unit is read as. -/
def UnitSays (w0 : World) (zb za zf : Nat) (v : Value) (l : List UInt8) (w : World) (a : Nat) (f : Bool) (e : Ending) (w' : World) : Prop :=
  ∃ (j : UnV) (a' : Nat) (f' : Bool), e = .returned j.val ∧ Wd.Rd (Wd.punit l) a f j a' f' ∧ Dc w0 zb za zf v l w' a' f' ∧ K2 za zf w w'
set_option maxRecDepth 100000 in
set_option maxHeartbeats 4000000 in
theorem dunit_any (w0 : World) (zb za zf zx : Nat) (v : Value) (l : List UInt8) (w : World) (a : Nat) (f : Bool) (h : Dc w0 zb za zf v l w a f) (hx : zf < zx) (cx : w.cell? ⟨zx, 0, none⟩ = some (nextF zb za zf)) :
    Calls Tryz.prog 110 #[.pointer (some ⟨zx, 0, none⟩)] w (UnitSays w0 zb za zf v l w a f) := by
  have hzx : Hid (zx < w.heap.size) := cell_lt cx
  generalize hw0 : w.alloc (Obj.cells #[.int .i64 0, .int .i64 0, .int .i64 0, .int .i64 0, .int .i64 0, .int .i64 0, .int .i64 0, .int .i64 0] 63) = w1
  have B1 : Hid (Below w.heap.size w w1) := by rw [← hw0]; exact (Below.refl _ _).alloc (Nat.le_refl _) _
  have Z1 : Hid (w1.heap[w.heap.size]? = some (Obj.cells #[.int .i64 0, .int .i64 0, .int .i64 0, .int .i64 0, .int .i64 0, .int .i64 0, .int .i64 0, .int .i64 0] 63 (0, 0))) := by unfold Hid; rw [← hw0, heap_alloc_new]
  have Hw : Hid (w.alloc (Obj.cells #[.int .i64 0, .int .i64 0, .int .i64 0, .int .i64 0, .int .i64 0, .int .i64 0, .int .i64 0, .int .i64 0] 63) = w1) := hw0
  have D : Hid (Dc w0 zb za zf v l w1 a f) := h.kept (B1.out.mono (by have := h.ltf; omega))
  have cx1 : w1.cell? ⟨zx, 0, none⟩ = some (nextF zb za zf) := by rw [B1.out.cell (p := ⟨zx, 0, none⟩) hzx.out]; exact cx
  have ord : Hid (za < zf ∧ zf < zx) := ⟨h.af, hx⟩
  clear h cx hw0
  unfold nextF at cx1
  go_enter Tryz.func110, Tryz.ntmps110
  go_upto_region 1 with fail
  rw [Hw.out]
  have cx2 : ({ w1 with drawn := w1.drawn + 1 } : World).cell? ⟨zx, 0, none⟩ = some (.func (.func 60) #[] #[.pointer (some ⟨zb, 0, none⟩), .pointer (some ⟨za, 0, none⟩), .pointer (some ⟨zf, 0, none⟩)]) := cx1
  have E0 : Hid (Dc w0 zb za zf v l { w1 with drawn := w1.drawn + 1 } a f ∧ Below w.heap.size w { w1 with drawn := w1.drawn + 1 } ∧ K2 za zf w { w1 with drawn := w1.drawn + 1 }) := ⟨D.out.kept (Below.refl _ _).drew, B1.out.drew, K2.of B1.out.drew⟩
  have Z2 : Hid (({ w1 with drawn := w1.drawn + 1 } : World).heap[w.heap.size]? = some (Obj.cells #[.int .i64 0, .int .i64 0, .int .i64 0, .int .i64 0, .int .i64 0, .int .i64 0, .int .i64 0, .int .i64 0] 63 (0, 0))) := Z1.out
  refine wp_region_sched [(true, 0), (true, 2), (true, 4), (true, 6), (true, 8), (true, 10), (true, 12), (true, 14), (false, 1), (false, 3), (false, 5), (false, 7), (false, 9), (false, 11), (false, 13), (false, 15), (false, 16), (false, 17)] (fun W => W.cell? ⟨zx, 0, none⟩ = some (.func (.func 60) #[] #[.pointer (some ⟨zb, 0, none⟩), .pointer (some ⟨za, 0, none⟩), .pointer (some ⟨zf, 0, none⟩)])) (by kernel_rfl) (by kernel_rfl) (by kernel_rfl) (by kernel_rfl) cx1 ?_
  generalize ({ w1 with drawn := w1.drawn + 1 } : World) = w2 at *
  refine sched_read rfl (.func (.func 60) #[] #[.pointer (some ⟨zb, 0, none⟩), .pointer (some ⟨za, 0, none⟩), .pointer (some ⟨zf, 0, none⟩)]) (by go_simp) (fun W hW => by go_simp) ?_
  go_simp
  refine sched_read rfl (.func (.func 60) #[] #[.pointer (some ⟨zb, 0, none⟩), .pointer (some ⟨za, 0, none⟩), .pointer (some ⟨zf, 0, none⟩)]) (by go_simp) (fun W hW => by go_simp) ?_
  go_simp
  refine sched_read rfl (.func (.func 60) #[] #[.pointer (some ⟨zb, 0, none⟩), .pointer (some ⟨za, 0, none⟩), .pointer (some ⟨zf, 0, none⟩)]) (by go_simp) (fun W hW => by go_simp) ?_
  go_simp
  refine sched_read rfl (.func (.func 60) #[] #[.pointer (some ⟨zb, 0, none⟩), .pointer (some ⟨za, 0, none⟩), .pointer (some ⟨zf, 0, none⟩)]) (by go_simp) (fun W hW => by go_simp) ?_
  go_simp
  refine sched_read rfl (.func (.func 60) #[] #[.pointer (some ⟨zb, 0, none⟩), .pointer (some ⟨za, 0, none⟩), .pointer (some ⟨zf, 0, none⟩)]) (by go_simp) (fun W hW => by go_simp) ?_
  go_simp
  refine sched_read rfl (.func (.func 60) #[] #[.pointer (some ⟨zb, 0, none⟩), .pointer (some ⟨za, 0, none⟩), .pointer (some ⟨zf, 0, none⟩)]) (by go_simp) (fun W hW => by go_simp) ?_
  go_simp
  refine sched_read rfl (.func (.func 60) #[] #[.pointer (some ⟨zb, 0, none⟩), .pointer (some ⟨za, 0, none⟩), .pointer (some ⟨zf, 0, none⟩)]) (by go_simp) (fun W hW => by go_simp) ?_
  go_simp
  refine sched_read rfl (.func (.func 60) #[] #[.pointer (some ⟨zb, 0, none⟩), .pointer (some ⟨za, 0, none⟩), .pointer (some ⟨zf, 0, none⟩)]) (by go_simp) (fun W hW => by go_simp) ?_
  go_simp
  refine sched_call rfl 60 #[.pointer (some ⟨zb, 0, none⟩), .pointer (some ⟨za, 0, none⟩), .pointer (some ⟨zf, 0, none⟩)] (by go_simp) (by go_simp) ?_
  refine (dnext_any w0 zb za zf v l w2 a f E0.out.1).mono ?_
  rintro e x0 ⟨n0, a0, f0, rfl, hrd, hd, hk⟩
  have R0 : Hid (Wd.Rd (Wd.pnum l) a f n0 a0 f0) := hrd
  have Q0 : Hid (Dc w0 zb za zf v l x0 a0 f0 ∧ K2 za zf w2 x0) := ⟨hd, hk⟩
  clear hrd hd hk
  refine ⟨_, rfl, ?_, ?_⟩
  · have := ord.out
    have := hzx.out
    rw [Q0.out.2.cell ⟨zx, 0, none⟩ (by have := E0.out.2.1.size; show zx < _; omega) (by show zx ≠ _; omega) (by show zx ≠ _; omega)]
    exact cx2
  go_simp
  refine sched_call rfl 60 #[.pointer (some ⟨zb, 0, none⟩), .pointer (some ⟨za, 0, none⟩), .pointer (some ⟨zf, 0, none⟩)] (by go_simp) (by go_simp) ?_
  refine (dnext_any w0 zb za zf v l x0 a0 f0 Q0.out.1).mono ?_
  rintro e x1 ⟨n1, a1, f1, rfl, hrd, hd, hk⟩
  have R1 : Hid (Wd.Rd (Wd.pnum l) a0 f0 n1 a1 f1) := hrd
  have Q1 : Hid (Dc w0 zb za zf v l x1 a1 f1 ∧ K2 za zf w2 x1) := ⟨hd, Q0.out.2.trans hk⟩
  clear hrd hd hk
  refine ⟨_, rfl, ?_, ?_⟩
  · have := ord.out
    have := hzx.out
    rw [Q1.out.2.cell ⟨zx, 0, none⟩ (by have := E0.out.2.1.size; show zx < _; omega) (by show zx ≠ _; omega) (by show zx ≠ _; omega)]
    exact cx2
  go_simp
  refine sched_call rfl 60 #[.pointer (some ⟨zb, 0, none⟩), .pointer (some ⟨za, 0, none⟩), .pointer (some ⟨zf, 0, none⟩)] (by go_simp) (by go_simp) ?_
  refine (dnext_any w0 zb za zf v l x1 a1 f1 Q1.out.1).mono ?_
  rintro e x2 ⟨n2, a2, f2, rfl, hrd, hd, hk⟩
  have R2 : Hid (Wd.Rd (Wd.pnum l) a1 f1 n2 a2 f2) := hrd
  have Q2 : Hid (Dc w0 zb za zf v l x2 a2 f2 ∧ K2 za zf w2 x2) := ⟨hd, Q1.out.2.trans hk⟩
  clear hrd hd hk
  refine ⟨_, rfl, ?_, ?_⟩
  · have := ord.out
    have := hzx.out
    rw [Q2.out.2.cell ⟨zx, 0, none⟩ (by have := E0.out.2.1.size; show zx < _; omega) (by show zx ≠ _; omega) (by show zx ≠ _; omega)]
    exact cx2
  go_simp
  refine sched_call rfl 60 #[.pointer (some ⟨zb, 0, none⟩), .pointer (some ⟨za, 0, none⟩), .pointer (some ⟨zf, 0, none⟩)] (by go_simp) (by go_simp) ?_
  refine (dnext_any w0 zb za zf v l x2 a2 f2 Q2.out.1).mono ?_
  rintro e x3 ⟨n3, a3, f3, rfl, hrd, hd, hk⟩
  have R3 : Hid (Wd.Rd (Wd.pnum l) a2 f2 n3 a3 f3) := hrd
  have Q3 : Hid (Dc w0 zb za zf v l x3 a3 f3 ∧ K2 za zf w2 x3) := ⟨hd, Q2.out.2.trans hk⟩
  clear hrd hd hk
  refine ⟨_, rfl, ?_, ?_⟩
  · have := ord.out
    have := hzx.out
    rw [Q3.out.2.cell ⟨zx, 0, none⟩ (by have := E0.out.2.1.size; show zx < _; omega) (by show zx ≠ _; omega) (by show zx ≠ _; omega)]
    exact cx2
  go_simp
  refine sched_call rfl 60 #[.pointer (some ⟨zb, 0, none⟩), .pointer (some ⟨za, 0, none⟩), .pointer (some ⟨zf, 0, none⟩)] (by go_simp) (by go_simp) ?_
  refine (dnext_any w0 zb za zf v l x3 a3 f3 Q3.out.1).mono ?_
  rintro e x4 ⟨n4, a4, f4, rfl, hrd, hd, hk⟩
  have R4 : Hid (Wd.Rd (Wd.pnum l) a3 f3 n4 a4 f4) := hrd
  have Q4 : Hid (Dc w0 zb za zf v l x4 a4 f4 ∧ K2 za zf w2 x4) := ⟨hd, Q3.out.2.trans hk⟩
  clear hrd hd hk
  refine ⟨_, rfl, ?_, ?_⟩
  · have := ord.out
    have := hzx.out
    rw [Q4.out.2.cell ⟨zx, 0, none⟩ (by have := E0.out.2.1.size; show zx < _; omega) (by show zx ≠ _; omega) (by show zx ≠ _; omega)]
    exact cx2
  go_simp
  refine sched_call rfl 60 #[.pointer (some ⟨zb, 0, none⟩), .pointer (some ⟨za, 0, none⟩), .pointer (some ⟨zf, 0, none⟩)] (by go_simp) (by go_simp) ?_
  refine (dnext_any w0 zb za zf v l x4 a4 f4 Q4.out.1).mono ?_
  rintro e x5 ⟨n5, a5, f5, rfl, hrd, hd, hk⟩
  have R5 : Hid (Wd.Rd (Wd.pnum l) a4 f4 n5 a5 f5) := hrd
  have Q5 : Hid (Dc w0 zb za zf v l x5 a5 f5 ∧ K2 za zf w2 x5) := ⟨hd, Q4.out.2.trans hk⟩
  clear hrd hd hk
  refine ⟨_, rfl, ?_, ?_⟩
  · have := ord.out
    have := hzx.out
    rw [Q5.out.2.cell ⟨zx, 0, none⟩ (by have := E0.out.2.1.size; show zx < _; omega) (by show zx ≠ _; omega) (by show zx ≠ _; omega)]
    exact cx2
  go_simp
  refine sched_call rfl 60 #[.pointer (some ⟨zb, 0, none⟩), .pointer (some ⟨za, 0, none⟩), .pointer (some ⟨zf, 0, none⟩)] (by go_simp) (by go_simp) ?_
  refine (dnext_any w0 zb za zf v l x5 a5 f5 Q5.out.1).mono ?_
  rintro e x6 ⟨n6, a6, f6, rfl, hrd, hd, hk⟩
  have R6 : Hid (Wd.Rd (Wd.pnum l) a5 f5 n6 a6 f6) := hrd
  have Q6 : Hid (Dc w0 zb za zf v l x6 a6 f6 ∧ K2 za zf w2 x6) := ⟨hd, Q5.out.2.trans hk⟩
  clear hrd hd hk
  refine ⟨_, rfl, ?_, ?_⟩
  · have := ord.out
    have := hzx.out
    rw [Q6.out.2.cell ⟨zx, 0, none⟩ (by have := E0.out.2.1.size; show zx < _; omega) (by show zx ≠ _; omega) (by show zx ≠ _; omega)]
    exact cx2
  go_simp
  refine sched_call rfl 60 #[.pointer (some ⟨zb, 0, none⟩), .pointer (some ⟨za, 0, none⟩), .pointer (some ⟨zf, 0, none⟩)] (by go_simp) (by go_simp) ?_
  refine (dnext_any w0 zb za zf v l x6 a6 f6 Q6.out.1).mono ?_
  rintro e x7 ⟨n7, a7, f7, rfl, hrd, hd, hk⟩
  have R7 : Hid (Wd.Rd (Wd.pnum l) a6 f6 n7 a7 f7) := hrd
  have Q7 : Hid (Dc w0 zb za zf v l x7 a7 f7 ∧ K2 za zf w2 x7) := ⟨hd, Q6.out.2.trans hk⟩
  clear hrd hd hk
  refine ⟨_, rfl, ?_, ?_⟩
  · have := ord.out
    have := hzx.out
    rw [Q7.out.2.cell ⟨zx, 0, none⟩ (by have := E0.out.2.1.size; show zx < _; omega) (by show zx ≠ _; omega) (by show zx ≠ _; omega)]
    exact cx2
  go_simp
  have L : Hid (zx < w.heap.size ∧ w.heap.size < w2.heap.size) := ⟨hzx.out, lt_of_block Z2.out⟩
  have Z : Hid (x7.heap[w.heap.size]? = some (Obj.cells #[.int .i64 0, .int .i64 0, .int .i64 0, .int .i64 0, .int .i64 0, .int .i64 0, .int .i64 0, .int .i64 0] 63 (0, 0))) := by
    unfold Hid
    have := ord.out
    have := L.out
    rw [Q7.out.2.block w.heap.size this.2 (by omega) (by omega)]
    exact Z2.out
  have c0 : x7.cell? ⟨w.heap.size, 0, none⟩ = some (.int .i64 0) := by have := Z.out; simp [World.cell?, this]
  have t0 : x7.frozen? ⟨w.heap.size, 0, none⟩ = false := by have := Z.out; simp [World.frozen?, this]
  have c1 : x7.cell? ⟨w.heap.size, 1, none⟩ = some (.int .i64 0) := by have := Z.out; simp [World.cell?, this]
  have t1 : x7.frozen? ⟨w.heap.size, 1, none⟩ = false := by have := Z.out; simp [World.frozen?, this]
  have c2 : x7.cell? ⟨w.heap.size, 2, none⟩ = some (.int .i64 0) := by have := Z.out; simp [World.cell?, this]
  have t2 : x7.frozen? ⟨w.heap.size, 2, none⟩ = false := by have := Z.out; simp [World.frozen?, this]
  have c3 : x7.cell? ⟨w.heap.size, 3, none⟩ = some (.int .i64 0) := by have := Z.out; simp [World.cell?, this]
  have t3 : x7.frozen? ⟨w.heap.size, 3, none⟩ = false := by have := Z.out; simp [World.frozen?, this]
  have c4 : x7.cell? ⟨w.heap.size, 4, none⟩ = some (.int .i64 0) := by have := Z.out; simp [World.cell?, this]
  have t4 : x7.frozen? ⟨w.heap.size, 4, none⟩ = false := by have := Z.out; simp [World.frozen?, this]
  have c5 : x7.cell? ⟨w.heap.size, 5, none⟩ = some (.int .i64 0) := by have := Z.out; simp [World.cell?, this]
  have t5 : x7.frozen? ⟨w.heap.size, 5, none⟩ = false := by have := Z.out; simp [World.frozen?, this]
  have c6 : x7.cell? ⟨w.heap.size, 6, none⟩ = some (.int .i64 0) := by have := Z.out; simp [World.cell?, this]
  have t6 : x7.frozen? ⟨w.heap.size, 6, none⟩ = false := by have := Z.out; simp [World.frozen?, this]
  have c7 : x7.cell? ⟨w.heap.size, 7, none⟩ = some (.int .i64 0) := by have := Z.out; simp [World.cell?, this]
  have t7 : x7.frozen? ⟨w.heap.size, 7, none⟩ = false := by have := Z.out; simp [World.frozen?, this]
  have cxx : x7.cell? ⟨zx, 0, none⟩ = some (.func (.func 60) #[] #[.pointer (some ⟨zb, 0, none⟩), .pointer (some ⟨za, 0, none⟩), .pointer (some ⟨zf, 0, none⟩)]) := by
    have := ord.out
    have := L.out
    rw [Q7.out.2.cell ⟨zx, 0, none⟩ (by show zx < _; omega) (by show zx ≠ _; omega) (by show zx ≠ _; omega)]
    exact cx2
  have nex : zx ≠ w.heap.size := by have := L.out; omega
  refine sched_value rfl (.agg #[.int .i64 n0, .int .i64 n1, .int .i64 n2, .int .i64 n3, .int .i64 n4, .int .i64 n5, .int .i64 n6, .int .i64 n7]) x7 (by go_simp) (by go_simp) cxx ?_
  go_simp
  have CH : Hid (Below w.heap.size x7 ((((((((x7.setCell ⟨w.heap.size, 0, none⟩ (.int .i64 n0)).setCell ⟨w.heap.size, 1, none⟩ (.int .i64 n1)).setCell ⟨w.heap.size, 2, none⟩ (.int .i64 n2)).setCell ⟨w.heap.size, 3, none⟩ (.int .i64 n3)).setCell ⟨w.heap.size, 4, none⟩ (.int .i64 n4)).setCell ⟨w.heap.size, 5, none⟩ (.int .i64 n5)).setCell ⟨w.heap.size, 6, none⟩ (.int .i64 n6)).setCell ⟨w.heap.size, 7, none⟩ (.int .i64 n7))) := (((((((((Below.refl _ _).setCell (p := ⟨w.heap.size, 0, none⟩) (Nat.le_refl _) _).setCell (p := ⟨w.heap.size, 1, none⟩) (Nat.le_refl _) _).setCell (p := ⟨w.heap.size, 2, none⟩) (Nat.le_refl _) _).setCell (p := ⟨w.heap.size, 3, none⟩) (Nat.le_refl _) _).setCell (p := ⟨w.heap.size, 4, none⟩) (Nat.le_refl _) _).setCell (p := ⟨w.heap.size, 5, none⟩) (Nat.le_refl _) _).setCell (p := ⟨w.heap.size, 6, none⟩) (Nat.le_refl _) _).setCell (p := ⟨w.heap.size, 7, none⟩) (Nat.le_refl _) _)
  have ZZ : Hid (((((((((x7.setCell ⟨w.heap.size, 0, none⟩ (.int .i64 n0)).setCell ⟨w.heap.size, 1, none⟩ (.int .i64 n1)).setCell ⟨w.heap.size, 2, none⟩ (.int .i64 n2)).setCell ⟨w.heap.size, 3, none⟩ (.int .i64 n3)).setCell ⟨w.heap.size, 4, none⟩ (.int .i64 n4)).setCell ⟨w.heap.size, 5, none⟩ (.int .i64 n5)).setCell ⟨w.heap.size, 6, none⟩ (.int .i64 n6)).setCell ⟨w.heap.size, 7, none⟩ (.int .i64 n7)).heap[w.heap.size]? = some (Obj.cells #[.int .i64 n0, .int .i64 n1, .int .i64 n2, .int .i64 n3, .int .i64 n4, .int .i64 n5, .int .i64 n6, .int .i64 n7] 63 (0, 0))) := heap_setCell_same _ w.heap.size 7 _ _ (.int .i64 n7) (heap_setCell_same _ w.heap.size 6 _ _ (.int .i64 n6) (heap_setCell_same _ w.heap.size 5 _ _ (.int .i64 n5) (heap_setCell_same _ w.heap.size 4 _ _ (.int .i64 n4) (heap_setCell_same _ w.heap.size 3 _ _ (.int .i64 n3) (heap_setCell_same _ w.heap.size 2 _ _ (.int .i64 n2) (heap_setCell_same _ w.heap.size 1 _ _ (.int .i64 n1) (heap_setCell_same _ w.heap.size 0 _ _ (.int .i64 n0) (Z.out))))))))
  refine sched_skip rfl ((((((((x7.setCell ⟨w.heap.size, 0, none⟩ (.int .i64 n0)).setCell ⟨w.heap.size, 1, none⟩ (.int .i64 n1)).setCell ⟨w.heap.size, 2, none⟩ (.int .i64 n2)).setCell ⟨w.heap.size, 3, none⟩ (.int .i64 n3)).setCell ⟨w.heap.size, 4, none⟩ (.int .i64 n4)).setCell ⟨w.heap.size, 5, none⟩ (.int .i64 n5)).setCell ⟨w.heap.size, 6, none⟩ (.int .i64 n6)).setCell ⟨w.heap.size, 7, none⟩ (.int .i64 n7)) (by go_simp) (by go_simp) ((CH.out.cell (p := ⟨zx, 0, none⟩) L.out.1).trans cxx) ?_
  go_simp
  generalize ((((((((x7.setCell ⟨w.heap.size, 0, none⟩ (.int .i64 n0)).setCell ⟨w.heap.size, 1, none⟩ (.int .i64 n1)).setCell ⟨w.heap.size, 2, none⟩ (.int .i64 n2)).setCell ⟨w.heap.size, 3, none⟩ (.int .i64 n3)).setCell ⟨w.heap.size, 4, none⟩ (.int .i64 n4)).setCell ⟨w.heap.size, 5, none⟩ (.int .i64 n5)).setCell ⟨w.heap.size, 6, none⟩ (.int .i64 n6)).setCell ⟨w.heap.size, 7, none⟩ (.int .i64 n7)) = w3 at *
  unfold wpSched
  have FIN : Hid (UnitSays w0 zb za zf v l w a f (.returned (.agg #[.int .i64 n0, .int .i64 n1, .int .i64 n2, .int .i64 n3, .int .i64 n4, .int .i64 n5, .int .i64 n6, .int .i64 n7])) w3) := ⟨⟨n0, n1, n2, n3, n4, n5, n6, n7⟩, a7, f7, rfl, R0.out.bind (R1.out.bind (R2.out.bind (R3.out.bind (R4.out.bind (R5.out.bind (R6.out.bind (R7.out.bind (Wd.Rd.ret _ _ _)))))))), Q7.out.1.kept (CH.out.mono (by have := ord.out; have := L.out; omega)), (E0.out.2.2.trans Q7.out.2).then_below CH.out⟩
  have y0 : w3.cell? ⟨w.heap.size, 0, none⟩ = some (.int .i64 n0) := by have := ZZ.out; simp [World.cell?, this]
  have y1 : w3.cell? ⟨w.heap.size, 1, none⟩ = some (.int .i64 n1) := by have := ZZ.out; simp [World.cell?, this]
  have y2 : w3.cell? ⟨w.heap.size, 2, none⟩ = some (.int .i64 n2) := by have := ZZ.out; simp [World.cell?, this]
  have y3 : w3.cell? ⟨w.heap.size, 3, none⟩ = some (.int .i64 n3) := by have := ZZ.out; simp [World.cell?, this]
  have y4 : w3.cell? ⟨w.heap.size, 4, none⟩ = some (.int .i64 n4) := by have := ZZ.out; simp [World.cell?, this]
  have y5 : w3.cell? ⟨w.heap.size, 5, none⟩ = some (.int .i64 n5) := by have := ZZ.out; simp [World.cell?, this]
  have y6 : w3.cell? ⟨w.heap.size, 6, none⟩ = some (.int .i64 n6) := by have := ZZ.out; simp [World.cell?, this]
  have y7 : w3.cell? ⟨w.heap.size, 7, none⟩ = some (.int .i64 n7) := by have := ZZ.out; simp [World.cell?, this]
  clear c0 t0 c1 t1 c2 t2 c3 t3 c4 t4 c5 t5 c6 t6 c7 t7
  go_wp2
  refine bodyPost_ret (v := .agg #[.int .i64 n0, .int .i64 n1, .int .i64 n2, .int .i64 n3, .int .i64 n4, .int .i64 n5, .int .i64 n6, .int .i64 n7]) (by simp [results, Tryz.results110, go_sem, y0, y1, y2, y3, y4, y5, y6, y7]) rfl FIN.out
end Go.Proofs.YtoabhfipikkkeaaGreatDoor

namespace Go.Proofs.YtoabhfipikkkeaaGreatDoor
open Go.RowKit
set_option linter.unusedVariables false

/-- what a list of units is read as. -/
def RuSays (w0 : World) (zb za zf zn : Nat) (v : Value) (l : List UInt8) (w : World) (a : Nat) (f : Bool) (e : Ending) (w' : World) : Prop :=
  ∃ (xs : List UnV) (a' : Nat) (f' : Bool) (u : Value), e = .returned u ∧ Uno w' w.heap.size u xs ∧ xs.length ≤ 200 ∧ Wd.Rd (Wd.plist l (Wd.punit l)) a f xs a' f' ∧ Ds w0 zb za zf zn v l w' a' f' ∧ K2 za zf w w'
set_option maxRecDepth 100000 in
set_option maxHeartbeats 4000000 in
theorem runits_any (w0 : World) (zb za zf zn zx : Nat) (v : Value) (l : List UInt8) (w : World) (a : Nat) (f : Bool) (h : Ds w0 zb za zf zn v l w a f) (hx : zf < zx) (cx : w.cell? ⟨zx, 0, none⟩ = some (nextF zb za zf)) :
    Calls Tryz.prog 113 #[manyF zn zf, .func (.func 110) #[] #[.pointer (some ⟨zx, 0, none⟩)]] w (RuSays w0 zb za zf zn v l w a f) := by
  have D : Hid (Ds w0 zb za zf zn v l w a f) := h
  have CX : Hid (zf < zx ∧ zx < w.heap.size ∧ w.cell? ⟨zx, 0, none⟩ = some (nextF zb za zf)) := ⟨hx, cell_lt cx, cx⟩
  clear h cx hx
  unfold manyF
  go_enter Tryz.func113, Tryz.ntmps113
  go_wp2_with fail
  refine (dmany_any w0 zb za zf zn v l w a f D.out).mono ?_
  rintro e w1 ⟨n, a1, f1, rfl, hn, hrd, hd, hk⟩
  have R : Hid (Wd.Rd (Wd.pmany l) a f n a1 f1) := hrd
  have D1 : Hid (Ds w0 zb za zf zn v l w1 a1 f1) := D.out.to hd hk
  have K1 : Hid (K2 za zf w w1) := hk
  clear hrd hd hk
  go_wp2
  go_loopw [5, 8] (fun lv iv W => ∃ (xs : List UnV) (k a' : Nat) (f' : Bool), iv = .int .i64 (k : Nat) ∧ k ≤ n ∧ xs.length = k ∧ Uno W w.heap.size lv xs ∧ Wd.Rd (Wd.prep (Wd.punit l) k) a1 f1 xs a' f' ∧ Ds w0 zb za zf zn v l W a' f' ∧ K2 za zf w W) (fun _ iv _ => n - (intOf iv).toNat)
  case atStart => exact ⟨[], 0, a1, f1, rfl, Nat.zero_le _, rfl, Uno.nil _ _, Wd.Rd.nil _ _ _, D1.out, K1.out⟩
  case round =>
    obtain ⟨xs, k, a', f', rfl, hkn, hxl, hown, hrd, hds, hk2⟩ := hrel
    have O : Hid (Uno wr w.heap.size u5 xs) := hown
    have R2 : Hid (Wd.Rd (Wd.prep (Wd.punit l) k) a1 f1 xs a' f') := hrd
    have D2 : Hid (Ds w0 zb za zf zn v l wr a' f') := hds
    have K2' : Hid (K2 za zf w wr) := hk2
    have HX : Hid (xs.length = k) := hxl
    have zw : Hid (zn < w.heap.size ∧ zf < zn ∧ za < zf) := ⟨D.out.lt, D.out.fn, D.out.d.af⟩
    clear hown hrd hds hk2 hxl
    by_cases he : k = n
    · subst he
      go_wp2
      go_ret
      exact ⟨xs, a', f', _, rfl, O.out, by rw [HX.out]; exact hn, R.out.list R2.out, D2.out, K2'.out⟩
    · have hlt : (k : Int) < (n : Int) := by omega
      have CR : Hid (wr.cell? ⟨zx, 0, none⟩ = some (nextF zb za zf)) := by
        unfold Hid
        have := CX.out
        have := zw.out
        rw [K2'.out.cell ⟨zx, 0, none⟩ (by show zx < _; omega) (by show zx ≠ _; omega) (by show zx ≠ _; omega)]
        exact CX.out.2.2
      go_wp2_with fail
      refine (dunit_any w0 zb za zf zx v l wr a' f' D2.out.d CX.out.1 CR.out).mono ?_
      rintro e w2 ⟨x, a2, f2, rfl, hrd, hd, hk⟩
      unfold UnV.val
      have R3 : Hid (Wd.Rd (Wd.punit l) a' f' x a2 f2) := hrd
      have D3 : Hid (Ds w0 zb za zf zn v l w2 a2 f2) := D2.out.to hd hk
      have K3 : Hid (K2 za zf wr w2) := hk
      clear hrd hd hk CR
      have O3 : Hid (Uno w2 w.heap.size u5 xs) := owns_k2 O.out K3.out (by have := zw.out; omega) (by have := zw.out; omega)
      have S3 : Hid (w.heap.size ≤ w2.heap.size) := Nat.le_trans K2'.out.size K3.out.size
      go_wp2_with (at_builtin; refine app_un _ rfl _ _ rfl w.heap.size _ xs rfl (O3.out.alloc _) w2.heap.size x rfl (Unc.mk' x rfl) (by rw [HX.out]; omega) (by have := S3.out; simp; omega) ?_)
      intro g cap w5 o5 g5 a5 l5
      have hob : ∀ b, u5.ownBlock = some b → w.heap.size ≤ b := fun b hb => (O3.out.block b hb).1
      have O5 : Hid (Uno w5 w.heap.size (.slice (some ⟨g, 0, none⟩) (xs.length + 1) cap) (xs ++ [x])) := o5
      have D5 : Hid (Ds w0 zb za zf zn v l w5 a2 f2) := D3.out.kept (((Below.refl _ _).alloc (by have := zw.out; have := S3.out; omega) _).grown g5 (by have := zw.out; have := S3.out; simp; omega) (fun b hb => by have := hob b hb; have := zw.out; omega))
      have K5 : Hid (K2 za zf w w5) := ((K2'.out.trans K3.out).trans (K2.of ((Below.refl _ _).alloc (Nat.le_refl _) _))).grown g5 hob
      have R5 : Hid (Wd.Rd (Wd.prep (Wd.punit l) (k + 1)) a1 f1 (xs ++ [x]) a2 f2) := R2.out.snoc R3.out
      clear o5 g5 a5 l5 hob
      go_wp2
      go_roundw
      case rel => exact ⟨xs ++ [x], k + 1, a2, f2, rfl, by omega, by rw [List.length_append, HX.out]; rfl, O5.out, R5.out, D5.out, K5.out⟩
      case measure => simp [intOf]; omega
end Go.Proofs.YtoabhfipikkkeaaGreatDoor

namespace Go.Proofs.YtoabhfipikkkeaaGreatDoor
open Go.RowKit
set_option linter.unusedVariables false

theorem Wo.k2 {w w' : World} {base y z : Nat} {v : Value} {W : WV} (h : Wo w base v W) (k : K2 y z w w') (hy : y < base) (hz : z < base) : Wo w' base v W := by
  obtain ⟨u1, u2, u3, u4, u5, h1, h2, h3, h4, h5, h6⟩ := h
  exact ⟨u1, u2, u3, u4, u5, h1, owns_k2 h2 k hy hz, owns_k2 h3 k hy hz, owns_k2 h4 k hy hz, owns_k2 h5 k hy hz, owns_k2 h6 k hy hz⟩
/-- what the world is read as. -/
def RwSays (w0 : World) (zb za zf zn : Nat) (v : Value) (l : List UInt8) (w : World) (a : Nat) (f : Bool) (e : Ending) (w' : World) : Prop :=
  ∃ (W : WV) (a' : Nat) (f' : Bool) (u : Value), e = .returned u ∧ Wo w' w.heap.size u W ∧ Wd.Rd (Wd.pworld l) a f W a' f' ∧ Ds w0 zb za zf zn v l w' a' f' ∧ K2 za zf w w'
set_option maxRecDepth 100000 in
set_option maxHeartbeats 16000000 in
theorem rworld_any (w0 : World) (zb za zf zn : Nat) (v : Value) (l : List UInt8) (w : World) (a : Nat) (f : Bool) (h : Ds w0 zb za zf zn v l w a f) :
    Calls Tryz.prog 63 #[nextF zb za zf, manyF zn zf] w (RwSays w0 zb za zf zn v l w a f) := by
  generalize hw0 : ((w.alloc (Obj.cells #[.func (.func 60) #[] #[.pointer (some ⟨zb, 0, none⟩), .pointer (some ⟨za, 0, none⟩), .pointer (some ⟨zf, 0, none⟩)]] 110)).alloc (Obj.cells #[.int .i64 0, .int .i64 0, .int .i64 0, .int .i64 0, .slice none 0 0, .slice none 0 0, .slice none 0 0, .slice none 0 0, .slice none 0 0] 29)) = w1
  have B1 : Hid (Below w.heap.size w w1) := by rw [← hw0]; exact ((Below.refl _ _).alloc (Nat.le_refl _) _).alloc (by simp) _
  have S1 : Hid (w1.heap.size = w.heap.size + 2) := by unfold Hid; rw [← hw0]; simp
  have Z1 : Hid (w1.heap[w.heap.size + 1]? = some (Obj.cells #[.int .i64 0, .int .i64 0, .int .i64 0, .int .i64 0, .slice none 0 0, .slice none 0 0, .slice none 0 0, .slice none 0 0, .slice none 0 0] 29 (0, 0))) := by
    unfold Hid
    have e : w.heap.size + 1 = (w.alloc (Obj.cells #[.func (.func 60) #[] #[.pointer (some ⟨zb, 0, none⟩), .pointer (some ⟨za, 0, none⟩), .pointer (some ⟨zf, 0, none⟩)]] 110)).heap.size := by simp
    rw [← hw0, e, heap_alloc_new]
  have Hw : Hid (((w.alloc (Obj.cells #[.func (.func 60) #[] #[.pointer (some ⟨zb, 0, none⟩), .pointer (some ⟨za, 0, none⟩), .pointer (some ⟨zf, 0, none⟩)]] 110)).alloc (Obj.cells #[.int .i64 0, .int .i64 0, .int .i64 0, .int .i64 0, .slice none 0 0, .slice none 0 0, .slice none 0 0, .slice none 0 0, .slice none 0 0] 29)) = w1) := hw0
  have D : Hid (Ds w0 zb za zf zn v l w1 a f) := h.kept (B1.out.mono (by have := h.lt; omega))
  have cx1 : w1.cell? ⟨w.heap.size, 0, none⟩ = some (.func (.func 60) #[] #[.pointer (some ⟨zb, 0, none⟩), .pointer (some ⟨za, 0, none⟩), .pointer (some ⟨zf, 0, none⟩)]) := by rw [← hw0]; simp
  have ord : Hid (za < zf ∧ zf < zn ∧ zn < w.heap.size) := ⟨h.d.af, h.fn, h.lt⟩
  clear h hw0
  unfold nextF manyF
  go_enter Tryz.func63, Tryz.ntmps63
  go_upto_region 3 with fail
  rw [Hw.out]
  have cx2 : ({ w1 with drawn := w1.drawn + 1 } : World).cell? ⟨w.heap.size, 0, none⟩ = some (.func (.func 60) #[] #[.pointer (some ⟨zb, 0, none⟩), .pointer (some ⟨za, 0, none⟩), .pointer (some ⟨zf, 0, none⟩)]) := cx1
  have E0 : Hid (Ds w0 zb za zf zn v l { w1 with drawn := w1.drawn + 1 } a f ∧ K2 za zf w { w1 with drawn := w1.drawn + 1 }) := ⟨D.out.kept (Below.refl _ _).drew, K2.of B1.out.drew⟩
  have Z2 : Hid (({ w1 with drawn := w1.drawn + 1 } : World).heap[w.heap.size + 1]? = some (Obj.cells #[.int .i64 0, .int .i64 0, .int .i64 0, .int .i64 0, .slice none 0 0, .slice none 0 0, .slice none 0 0, .slice none 0 0, .slice none 0 0] 29 (0, 0))) := Z1.out
  have S2 : Hid (({ w1 with drawn := w1.drawn + 1 } : World).heap.size = w.heap.size + 2) := S1.out
  refine wp_region_sched [(true, 0), (true, 2), (true, 4), (true, 6), (true, 8), (true, 9), (true, 11), (true, 12), (true, 15), (true, 16), (true, 18), (true, 19), (true, 21), (true, 22), (false, 1), (false, 3), (false, 5), (false, 7), (false, 10), (false, 13), (true, 14), (false, 17), (false, 20), (false, 23), (false, 24), (false, 25)] (fun W => W.cell? ⟨w.heap.size, 0, none⟩ = some (.func (.func 60) #[] #[.pointer (some ⟨zb, 0, none⟩), .pointer (some ⟨za, 0, none⟩), .pointer (some ⟨zf, 0, none⟩)])) (by kernel_rfl) (by kernel_rfl) (by kernel_rfl) (by kernel_rfl) cx1 ?_
  generalize ({ w1 with drawn := w1.drawn + 1 } : World) = w2 at *
  refine sched_read rfl (.func (.func 60) #[] #[.pointer (some ⟨zb, 0, none⟩), .pointer (some ⟨za, 0, none⟩), .pointer (some ⟨zf, 0, none⟩)]) (by go_simp) (fun W hW => by go_simp) ?_
  go_simp
  refine sched_read rfl (.func (.func 60) #[] #[.pointer (some ⟨zb, 0, none⟩), .pointer (some ⟨za, 0, none⟩), .pointer (some ⟨zf, 0, none⟩)]) (by go_simp) (fun W hW => by go_simp) ?_
  go_simp
  refine sched_read rfl (.func (.func 60) #[] #[.pointer (some ⟨zb, 0, none⟩), .pointer (some ⟨za, 0, none⟩), .pointer (some ⟨zf, 0, none⟩)]) (by go_simp) (fun W hW => by go_simp) ?_
  go_simp
  refine sched_read rfl (.func (.func 60) #[] #[.pointer (some ⟨zb, 0, none⟩), .pointer (some ⟨za, 0, none⟩), .pointer (some ⟨zf, 0, none⟩)]) (by go_simp) (fun W hW => by go_simp) ?_
  go_simp
  refine sched_read rfl (.func (.func 61) #[] #[.pointer (some ⟨zn, 0, none⟩), .pointer (some ⟨zf, 0, none⟩)]) (by go_simp) (fun W hW => by go_simp) ?_
  go_simp
  refine sched_read rfl (.func (.func 60) #[] #[.pointer (some ⟨zb, 0, none⟩), .pointer (some ⟨za, 0, none⟩), .pointer (some ⟨zf, 0, none⟩)]) (by go_simp) (fun W hW => by go_simp) ?_
  go_simp
  refine sched_read rfl (.func (.func 61) #[] #[.pointer (some ⟨zn, 0, none⟩), .pointer (some ⟨zf, 0, none⟩)]) (by go_simp) (fun W hW => by go_simp) ?_
  go_simp
  refine sched_read rfl (.func (.func 60) #[] #[.pointer (some ⟨zb, 0, none⟩), .pointer (some ⟨za, 0, none⟩), .pointer (some ⟨zf, 0, none⟩)]) (by go_simp) (fun W hW => by go_simp) ?_
  go_simp
  refine sched_read rfl (.func (.func 61) #[] #[.pointer (some ⟨zn, 0, none⟩), .pointer (some ⟨zf, 0, none⟩)]) (by go_simp) (fun W hW => by go_simp) ?_
  go_simp
  refine sched_read rfl (.func (.func 60) #[] #[.pointer (some ⟨zb, 0, none⟩), .pointer (some ⟨za, 0, none⟩), .pointer (some ⟨zf, 0, none⟩)]) (by go_simp) (fun W hW => by go_simp) ?_
  go_simp
  refine sched_read rfl (.func (.func 61) #[] #[.pointer (some ⟨zn, 0, none⟩), .pointer (some ⟨zf, 0, none⟩)]) (by go_simp) (fun W hW => by go_simp) ?_
  go_simp
  refine sched_read rfl (.func (.func 110) #[] #[.pointer (some ⟨w.heap.size, 0, none⟩)]) (by go_simp) (fun W hW => by go_simp) ?_
  go_simp
  refine sched_read rfl (.func (.func 61) #[] #[.pointer (some ⟨zn, 0, none⟩), .pointer (some ⟨zf, 0, none⟩)]) (by go_simp) (fun W hW => by go_simp) ?_
  go_simp
  refine sched_read rfl (.func (.func 111) #[] #[.pointer (some ⟨w.heap.size, 0, none⟩)]) (by go_simp) (fun W hW => by go_simp) ?_
  go_simp
  refine sched_call rfl 60 #[.pointer (some ⟨zb, 0, none⟩), .pointer (some ⟨za, 0, none⟩), .pointer (some ⟨zf, 0, none⟩)] (by go_simp) (by go_simp) ?_
  refine (dnext_any w0 zb za zf v l w2 a f E0.out.1.d).mono ?_
  rintro e x0 ⟨n0, a0, f0, rfl, hrd, hd, hk⟩
  have R0 : Hid (Wd.Rd (Wd.pnum l) a f n0 a0 f0) := hrd
  have Q0 : Hid (Ds w0 zb za zf zn v l x0 a0 f0 ∧ K2 za zf w2 x0 ∧ K2 za zf w2 x0) := ⟨E0.out.1.to hd hk, hk, hk⟩
  clear hrd hd hk
  refine ⟨_, rfl, ?_, ?_⟩
  · have := ord.out
    have := S2.out
    rw [Q0.out.2.1.cell ⟨w.heap.size, 0, none⟩ (by show w.heap.size < _; omega) (by show w.heap.size ≠ _; omega) (by show w.heap.size ≠ _; omega)]
    exact cx2
  go_simp
  refine sched_call rfl 60 #[.pointer (some ⟨zb, 0, none⟩), .pointer (some ⟨za, 0, none⟩), .pointer (some ⟨zf, 0, none⟩)] (by go_simp) (by go_simp) ?_
  refine (dnext_any w0 zb za zf v l x0 a0 f0 Q0.out.1.d).mono ?_
  rintro e x1 ⟨n1, a1, f1, rfl, hrd, hd, hk⟩
  have R1 : Hid (Wd.Rd (Wd.pnum l) a0 f0 n1 a1 f1) := hrd
  have Q1 : Hid (Ds w0 zb za zf zn v l x1 a1 f1 ∧ K2 za zf w2 x1 ∧ K2 za zf x0 x1) := ⟨Q0.out.1.to hd hk, Q0.out.2.1.trans hk, hk⟩
  clear hrd hd hk
  refine ⟨_, rfl, ?_, ?_⟩
  · have := ord.out
    have := S2.out
    rw [Q1.out.2.1.cell ⟨w.heap.size, 0, none⟩ (by show w.heap.size < _; omega) (by show w.heap.size ≠ _; omega) (by show w.heap.size ≠ _; omega)]
    exact cx2
  go_simp
  refine sched_call rfl 60 #[.pointer (some ⟨zb, 0, none⟩), .pointer (some ⟨za, 0, none⟩), .pointer (some ⟨zf, 0, none⟩)] (by go_simp) (by go_simp) ?_
  refine (dnext_any w0 zb za zf v l x1 a1 f1 Q1.out.1.d).mono ?_
  rintro e x2 ⟨n2, a2, f2, rfl, hrd, hd, hk⟩
  have R2 : Hid (Wd.Rd (Wd.pnum l) a1 f1 n2 a2 f2) := hrd
  have Q2 : Hid (Ds w0 zb za zf zn v l x2 a2 f2 ∧ K2 za zf w2 x2 ∧ K2 za zf x1 x2) := ⟨Q1.out.1.to hd hk, Q1.out.2.1.trans hk, hk⟩
  clear hrd hd hk
  refine ⟨_, rfl, ?_, ?_⟩
  · have := ord.out
    have := S2.out
    rw [Q2.out.2.1.cell ⟨w.heap.size, 0, none⟩ (by show w.heap.size < _; omega) (by show w.heap.size ≠ _; omega) (by show w.heap.size ≠ _; omega)]
    exact cx2
  go_simp
  refine sched_call rfl 60 #[.pointer (some ⟨zb, 0, none⟩), .pointer (some ⟨za, 0, none⟩), .pointer (some ⟨zf, 0, none⟩)] (by go_simp) (by go_simp) ?_
  refine (dnext_any w0 zb za zf v l x2 a2 f2 Q2.out.1.d).mono ?_
  rintro e x3 ⟨n3, a3, f3, rfl, hrd, hd, hk⟩
  have R3 : Hid (Wd.Rd (Wd.pnum l) a2 f2 n3 a3 f3) := hrd
  have Q3 : Hid (Ds w0 zb za zf zn v l x3 a3 f3 ∧ K2 za zf w2 x3 ∧ K2 za zf x2 x3) := ⟨Q2.out.1.to hd hk, Q2.out.2.1.trans hk, hk⟩
  clear hrd hd hk
  refine ⟨_, rfl, ?_, ?_⟩
  · have := ord.out
    have := S2.out
    rw [Q3.out.2.1.cell ⟨w.heap.size, 0, none⟩ (by show w.heap.size < _; omega) (by show w.heap.size ≠ _; omega) (by show w.heap.size ≠ _; omega)]
    exact cx2
  go_simp
  have cc : x3.cell? ⟨w.heap.size, 0, none⟩ = some (.func (.func 60) #[] #[.pointer (some ⟨zb, 0, none⟩), .pointer (some ⟨za, 0, none⟩), .pointer (some ⟨zf, 0, none⟩)]) := by
    have := ord.out
    have := S2.out
    rw [Q3.out.2.1.cell ⟨w.heap.size, 0, none⟩ (by show w.heap.size < _; omega) (by show w.heap.size ≠ _; omega) (by show w.heap.size ≠ _; omega)]
    exact cx2
  refine sched_call rfl 112 #[.func (.func 61) #[] #[.pointer (some ⟨zn, 0, none⟩), .pointer (some ⟨zf, 0, none⟩)], .func (.func 60) #[] #[.pointer (some ⟨zb, 0, none⟩), .pointer (some ⟨za, 0, none⟩), .pointer (some ⟨zf, 0, none⟩)]] (by go_simp) (by go_simp) ?_
  refine (rlist_any w0 zb za zf zn v l x3 a3 f3 Q3.out.1).mono ?_
  rintro e x4 ⟨n4, a4, f4, u4, rfl, ho, hl, hrd, hd, hk⟩
  obtain ⟨p4, q4, rfl⟩ := ho.len
  have R4 : Hid (Wd.Rd (Wd.plist l (Wd.pnum l)) a3 f3 n4 a4 f4) := hrd
  have O4 : Hid (Ow x4 x3.heap.size (.slice p4 n4.length q4) n4) := ho
  have Q4 : Hid (Ds w0 zb za zf zn v l x4 a4 f4 ∧ K2 za zf w2 x4 ∧ K2 za zf x3 x4) := ⟨hd, Q3.out.2.1.trans hk, hk⟩
  clear hrd hd hk ho hl cc
  refine ⟨_, rfl, ?_, ?_⟩
  · have := ord.out
    have := S2.out
    rw [Q4.out.2.1.cell ⟨w.heap.size, 0, none⟩ (by show w.heap.size < _; omega) (by show w.heap.size ≠ _; omega) (by show w.heap.size ≠ _; omega)]
    exact cx2
  go_simp
  have cc : x4.cell? ⟨w.heap.size, 0, none⟩ = some (.func (.func 60) #[] #[.pointer (some ⟨zb, 0, none⟩), .pointer (some ⟨za, 0, none⟩), .pointer (some ⟨zf, 0, none⟩)]) := by
    have := ord.out
    have := S2.out
    rw [Q4.out.2.1.cell ⟨w.heap.size, 0, none⟩ (by show w.heap.size < _; omega) (by show w.heap.size ≠ _; omega) (by show w.heap.size ≠ _; omega)]
    exact cx2
  refine sched_call rfl 112 #[.func (.func 61) #[] #[.pointer (some ⟨zn, 0, none⟩), .pointer (some ⟨zf, 0, none⟩)], .func (.func 60) #[] #[.pointer (some ⟨zb, 0, none⟩), .pointer (some ⟨za, 0, none⟩), .pointer (some ⟨zf, 0, none⟩)]] (by go_simp) (by go_simp) ?_
  refine (rlist_any w0 zb za zf zn v l x4 a4 f4 Q4.out.1).mono ?_
  rintro e x5 ⟨n5, a5, f5, u5, rfl, ho, hl, hrd, hd, hk⟩
  obtain ⟨p5, q5, rfl⟩ := ho.len
  have R5 : Hid (Wd.Rd (Wd.plist l (Wd.pnum l)) a4 f4 n5 a5 f5) := hrd
  have O5 : Hid (Ow x5 x4.heap.size (.slice p5 n5.length q5) n5) := ho
  have Q5 : Hid (Ds w0 zb za zf zn v l x5 a5 f5 ∧ K2 za zf w2 x5 ∧ K2 za zf x4 x5) := ⟨hd, Q4.out.2.1.trans hk, hk⟩
  clear hrd hd hk ho hl cc
  refine ⟨_, rfl, ?_, ?_⟩
  · have := ord.out
    have := S2.out
    rw [Q5.out.2.1.cell ⟨w.heap.size, 0, none⟩ (by show w.heap.size < _; omega) (by show w.heap.size ≠ _; omega) (by show w.heap.size ≠ _; omega)]
    exact cx2
  go_simp
  refine sched_read rfl (.agg #[.int .i64 n2, .int .i64 n3, .slice p4 n4.length q4, .slice p5 n5.length q5]) (by go_simp) (fun W hW => by go_simp) ?_
  go_simp
  have cc : x5.cell? ⟨w.heap.size, 0, none⟩ = some (.func (.func 60) #[] #[.pointer (some ⟨zb, 0, none⟩), .pointer (some ⟨za, 0, none⟩), .pointer (some ⟨zf, 0, none⟩)]) := by
    have := ord.out
    have := S2.out
    rw [Q5.out.2.1.cell ⟨w.heap.size, 0, none⟩ (by show w.heap.size < _; omega) (by show w.heap.size ≠ _; omega) (by show w.heap.size ≠ _; omega)]
    exact cx2
  refine sched_call rfl 112 #[.func (.func 61) #[] #[.pointer (some ⟨zn, 0, none⟩), .pointer (some ⟨zf, 0, none⟩)], .func (.func 60) #[] #[.pointer (some ⟨zb, 0, none⟩), .pointer (some ⟨za, 0, none⟩), .pointer (some ⟨zf, 0, none⟩)]] (by go_simp) (by go_simp) ?_
  refine (rlist_any w0 zb za zf zn v l x5 a5 f5 Q5.out.1).mono ?_
  rintro e x6 ⟨n6, a6, f6, u6, rfl, ho, hl, hrd, hd, hk⟩
  obtain ⟨p6, q6, rfl⟩ := ho.len
  have R6 : Hid (Wd.Rd (Wd.plist l (Wd.pnum l)) a5 f5 n6 a6 f6) := hrd
  have O6 : Hid (Ow x6 x5.heap.size (.slice p6 n6.length q6) n6) := ho
  have Q6 : Hid (Ds w0 zb za zf zn v l x6 a6 f6 ∧ K2 za zf w2 x6 ∧ K2 za zf x5 x6) := ⟨hd, Q5.out.2.1.trans hk, hk⟩
  clear hrd hd hk ho hl cc
  refine ⟨_, rfl, ?_, ?_⟩
  · have := ord.out
    have := S2.out
    rw [Q6.out.2.1.cell ⟨w.heap.size, 0, none⟩ (by show w.heap.size < _; omega) (by show w.heap.size ≠ _; omega) (by show w.heap.size ≠ _; omega)]
    exact cx2
  go_simp
  have cc : x6.cell? ⟨w.heap.size, 0, none⟩ = some (.func (.func 60) #[] #[.pointer (some ⟨zb, 0, none⟩), .pointer (some ⟨za, 0, none⟩), .pointer (some ⟨zf, 0, none⟩)]) := by
    have := ord.out
    have := S2.out
    rw [Q6.out.2.1.cell ⟨w.heap.size, 0, none⟩ (by show w.heap.size < _; omega) (by show w.heap.size ≠ _; omega) (by show w.heap.size ≠ _; omega)]
    exact cx2
  refine sched_call rfl 113 #[.func (.func 61) #[] #[.pointer (some ⟨zn, 0, none⟩), .pointer (some ⟨zf, 0, none⟩)], .func (.func 110) #[] #[.pointer (some ⟨w.heap.size, 0, none⟩)]] (by go_simp) (by go_simp) ?_
  refine (runits_any w0 zb za zf zn w.heap.size v l x6 a6 f6 Q6.out.1 (by have := ord.out; omega) cc).mono ?_
  rintro e x7 ⟨n7, a7, f7, u7, rfl, ho, hl, hrd, hd, hk⟩
  obtain ⟨p7, q7, rfl⟩ := ho.len
  have R7 : Hid (Wd.Rd (Wd.plist l (Wd.punit l)) a6 f6 n7 a7 f7) := hrd
  have O7 : Hid (Uno x7 x6.heap.size (.slice p7 n7.length q7) n7) := ho
  have Q7 : Hid (Ds w0 zb za zf zn v l x7 a7 f7 ∧ K2 za zf w2 x7 ∧ K2 za zf x6 x7) := ⟨hd, Q6.out.2.1.trans hk, hk⟩
  clear hrd hd hk ho hl cc
  refine ⟨_, rfl, ?_, ?_⟩
  · have := ord.out
    have := S2.out
    rw [Q7.out.2.1.cell ⟨w.heap.size, 0, none⟩ (by show w.heap.size < _; omega) (by show w.heap.size ≠ _; omega) (by show w.heap.size ≠ _; omega)]
    exact cx2
  go_simp
  have cc : x7.cell? ⟨w.heap.size, 0, none⟩ = some (.func (.func 60) #[] #[.pointer (some ⟨zb, 0, none⟩), .pointer (some ⟨za, 0, none⟩), .pointer (some ⟨zf, 0, none⟩)]) := by
    have := ord.out
    have := S2.out
    rw [Q7.out.2.1.cell ⟨w.heap.size, 0, none⟩ (by show w.heap.size < _; omega) (by show w.heap.size ≠ _; omega) (by show w.heap.size ≠ _; omega)]
    exact cx2
  refine sched_call rfl 114 #[.func (.func 61) #[] #[.pointer (some ⟨zn, 0, none⟩), .pointer (some ⟨zf, 0, none⟩)], .func (.func 111) #[] #[.pointer (some ⟨w.heap.size, 0, none⟩)]] (by go_simp) (by go_simp) ?_
  refine (rjobs_any w0 zb za zf zn w.heap.size v l x7 a7 f7 Q7.out.1 (by have := ord.out; omega) cc).mono ?_
  rintro e x8 ⟨n8, a8, f8, u8, rfl, ho, hl, hrd, hd, hk⟩
  obtain ⟨p8, q8, rfl⟩ := ho.len
  have R8 : Hid (Wd.Rd (Wd.plist l (Wd.pjob l)) a7 f7 n8 a8 f8) := hrd
  have O8 : Hid (Jbo x8 x7.heap.size (.slice p8 n8.length q8) n8) := ho
  have Q8 : Hid (Ds w0 zb za zf zn v l x8 a8 f8 ∧ K2 za zf w2 x8 ∧ K2 za zf x7 x8) := ⟨hd, Q7.out.2.1.trans hk, hk⟩
  clear hrd hd hk ho hl cc
  refine ⟨_, rfl, ?_, ?_⟩
  · have := ord.out
    have := S2.out
    rw [Q8.out.2.1.cell ⟨w.heap.size, 0, none⟩ (by show w.heap.size < _; omega) (by show w.heap.size ≠ _; omega) (by show w.heap.size ≠ _; omega)]
    exact cx2
  go_simp
  have Z : Hid (x8.heap[w.heap.size + 1]? = some (Obj.cells #[.int .i64 0, .int .i64 0, .int .i64 0, .int .i64 0, .slice none 0 0, .slice none 0 0, .slice none 0 0, .slice none 0 0, .slice none 0 0] 29 (0, 0))) := by
    unfold Hid
    have := ord.out
    have := S2.out
    rw [Q8.out.2.1.block (w.heap.size + 1) (by omega) (by omega) (by omega)]
    exact Z2.out
  have c0 : x8.cell? ⟨w.heap.size + 1, 0, none⟩ = some (.int .i64 0) := by have := Z.out; simp [World.cell?, this]
  have t0 : x8.frozen? ⟨w.heap.size + 1, 0, none⟩ = false := by have := Z.out; simp [World.frozen?, this]
  have c1 : x8.cell? ⟨w.heap.size + 1, 1, none⟩ = some (.int .i64 0) := by have := Z.out; simp [World.cell?, this]
  have t1 : x8.frozen? ⟨w.heap.size + 1, 1, none⟩ = false := by have := Z.out; simp [World.frozen?, this]
  have c2 : x8.cell? ⟨w.heap.size + 1, 2, none⟩ = some (.int .i64 0) := by have := Z.out; simp [World.cell?, this]
  have t2 : x8.frozen? ⟨w.heap.size + 1, 2, none⟩ = false := by have := Z.out; simp [World.frozen?, this]
  have c3 : x8.cell? ⟨w.heap.size + 1, 3, none⟩ = some (.int .i64 0) := by have := Z.out; simp [World.cell?, this]
  have t3 : x8.frozen? ⟨w.heap.size + 1, 3, none⟩ = false := by have := Z.out; simp [World.frozen?, this]
  have c4 : x8.cell? ⟨w.heap.size + 1, 4, none⟩ = some (.slice none 0 0) := by have := Z.out; simp [World.cell?, this]
  have t4 : x8.frozen? ⟨w.heap.size + 1, 4, none⟩ = false := by have := Z.out; simp [World.frozen?, this]
  have c5 : x8.cell? ⟨w.heap.size + 1, 5, none⟩ = some (.slice none 0 0) := by have := Z.out; simp [World.cell?, this]
  have t5 : x8.frozen? ⟨w.heap.size + 1, 5, none⟩ = false := by have := Z.out; simp [World.frozen?, this]
  have c6 : x8.cell? ⟨w.heap.size + 1, 6, none⟩ = some (.slice none 0 0) := by have := Z.out; simp [World.cell?, this]
  have t6 : x8.frozen? ⟨w.heap.size + 1, 6, none⟩ = false := by have := Z.out; simp [World.frozen?, this]
  have c7 : x8.cell? ⟨w.heap.size + 1, 7, none⟩ = some (.slice none 0 0) := by have := Z.out; simp [World.cell?, this]
  have t7 : x8.frozen? ⟨w.heap.size + 1, 7, none⟩ = false := by have := Z.out; simp [World.frozen?, this]
  have c8 : x8.cell? ⟨w.heap.size + 1, 8, none⟩ = some (.slice none 0 0) := by have := Z.out; simp [World.cell?, this]
  have t8 : x8.frozen? ⟨w.heap.size + 1, 8, none⟩ = false := by have := Z.out; simp [World.frozen?, this]
  have cxx : x8.cell? ⟨w.heap.size, 0, none⟩ = some (.func (.func 60) #[] #[.pointer (some ⟨zb, 0, none⟩), .pointer (some ⟨za, 0, none⟩), .pointer (some ⟨zf, 0, none⟩)]) := by
    have := ord.out
    have := S2.out
    rw [Q8.out.2.1.cell ⟨w.heap.size, 0, none⟩ (by show w.heap.size < _; omega) (by show w.heap.size ≠ _; omega) (by show w.heap.size ≠ _; omega)]
    exact cx2
  refine sched_value rfl (.agg #[.int .i64 n0, .int .i64 n1, .int .i64 n2, .int .i64 n3, .slice p4 n4.length q4, .slice p5 n5.length q5, .slice p6 n6.length q6, .slice p7 n7.length q7, .slice p8 n8.length q8]) x8 (by go_simp) (by go_simp) cxx ?_
  go_simp
  have KC : Hid (K2 (w.heap.size + 1) (w.heap.size + 1) x8 (((((((((x8.setCell ⟨w.heap.size + 1, 0, none⟩ (.int .i64 n0)).setCell ⟨w.heap.size + 1, 1, none⟩ (.int .i64 n1)).setCell ⟨w.heap.size + 1, 2, none⟩ (.int .i64 n2)).setCell ⟨w.heap.size + 1, 3, none⟩ (.int .i64 n3)).setCell ⟨w.heap.size + 1, 4, none⟩ (.slice p4 n4.length q4)).setCell ⟨w.heap.size + 1, 5, none⟩ (.slice p5 n5.length q5)).setCell ⟨w.heap.size + 1, 6, none⟩ (.slice p6 n6.length q6)).setCell ⟨w.heap.size + 1, 7, none⟩ (.slice p7 n7.length q7)).setCell ⟨w.heap.size + 1, 8, none⟩ (.slice p8 n8.length q8))) := (((((((((K2.setY x8 0 _).trans (K2.setY _ 1 _)).trans (K2.setY _ 2 _)).trans (K2.setY _ 3 _)).trans (K2.setY _ 4 _)).trans (K2.setY _ 5 _)).trans (K2.setY _ 6 _)).trans (K2.setY _ 7 _)).trans (K2.setY _ 8 _))
  have ZZ : Hid ((((((((((x8.setCell ⟨w.heap.size + 1, 0, none⟩ (.int .i64 n0)).setCell ⟨w.heap.size + 1, 1, none⟩ (.int .i64 n1)).setCell ⟨w.heap.size + 1, 2, none⟩ (.int .i64 n2)).setCell ⟨w.heap.size + 1, 3, none⟩ (.int .i64 n3)).setCell ⟨w.heap.size + 1, 4, none⟩ (.slice p4 n4.length q4)).setCell ⟨w.heap.size + 1, 5, none⟩ (.slice p5 n5.length q5)).setCell ⟨w.heap.size + 1, 6, none⟩ (.slice p6 n6.length q6)).setCell ⟨w.heap.size + 1, 7, none⟩ (.slice p7 n7.length q7)).setCell ⟨w.heap.size + 1, 8, none⟩ (.slice p8 n8.length q8)).heap[w.heap.size + 1]? = some (Obj.cells #[.int .i64 n0, .int .i64 n1, .int .i64 n2, .int .i64 n3, .slice p4 n4.length q4, .slice p5 n5.length q5, .slice p6 n6.length q6, .slice p7 n7.length q7, .slice p8 n8.length q8] 29 (0, 0))) := heap_setCell_same _ (w.heap.size + 1) 8 _ _ (.slice p8 n8.length q8) (heap_setCell_same _ (w.heap.size + 1) 7 _ _ (.slice p7 n7.length q7) (heap_setCell_same _ (w.heap.size + 1) 6 _ _ (.slice p6 n6.length q6) (heap_setCell_same _ (w.heap.size + 1) 5 _ _ (.slice p5 n5.length q5) (heap_setCell_same _ (w.heap.size + 1) 4 _ _ (.slice p4 n4.length q4) (heap_setCell_same _ (w.heap.size + 1) 3 _ _ (.int .i64 n3) (heap_setCell_same _ (w.heap.size + 1) 2 _ _ (.int .i64 n2) (heap_setCell_same _ (w.heap.size + 1) 1 _ _ (.int .i64 n1) (heap_setCell_same _ (w.heap.size + 1) 0 _ _ (.int .i64 n0) (Z.out)))))))))
  have X8 : Hid (w.heap.size + 2 ≤ x8.heap.size) := by have := S2.out; have := Q8.out.2.1.size; unfold Hid; omega
  refine sched_skip rfl (((((((((x8.setCell ⟨w.heap.size + 1, 0, none⟩ (.int .i64 n0)).setCell ⟨w.heap.size + 1, 1, none⟩ (.int .i64 n1)).setCell ⟨w.heap.size + 1, 2, none⟩ (.int .i64 n2)).setCell ⟨w.heap.size + 1, 3, none⟩ (.int .i64 n3)).setCell ⟨w.heap.size + 1, 4, none⟩ (.slice p4 n4.length q4)).setCell ⟨w.heap.size + 1, 5, none⟩ (.slice p5 n5.length q5)).setCell ⟨w.heap.size + 1, 6, none⟩ (.slice p6 n6.length q6)).setCell ⟨w.heap.size + 1, 7, none⟩ (.slice p7 n7.length q7)).setCell ⟨w.heap.size + 1, 8, none⟩ (.slice p8 n8.length q8)) (by go_simp) (by go_simp) ((KC.out.cell ⟨w.heap.size, 0, none⟩ (by have := X8.out; show w.heap.size < _; omega) (by show w.heap.size ≠ _; omega) (by show w.heap.size ≠ _; omega)).trans cxx) ?_
  go_simp
  generalize (((((((((x8.setCell ⟨w.heap.size + 1, 0, none⟩ (.int .i64 n0)).setCell ⟨w.heap.size + 1, 1, none⟩ (.int .i64 n1)).setCell ⟨w.heap.size + 1, 2, none⟩ (.int .i64 n2)).setCell ⟨w.heap.size + 1, 3, none⟩ (.int .i64 n3)).setCell ⟨w.heap.size + 1, 4, none⟩ (.slice p4 n4.length q4)).setCell ⟨w.heap.size + 1, 5, none⟩ (.slice p5 n5.length q5)).setCell ⟨w.heap.size + 1, 6, none⟩ (.slice p6 n6.length q6)).setCell ⟨w.heap.size + 1, 7, none⟩ (.slice p7 n7.length q7)).setCell ⟨w.heap.size + 1, 8, none⟩ (.slice p8 n8.length q8)) = w3 at *
  unfold wpSched
  have s4 : w2.heap.size ≤ x3.heap.size := Q3.out.2.1.size
  have s5 : x3.heap.size ≤ x4.heap.size := Q4.out.2.2.size
  have s6 : x4.heap.size ≤ x5.heap.size := Q5.out.2.2.size
  have s7 : x5.heap.size ≤ x6.heap.size := Q6.out.2.2.size
  have s8 : x6.heap.size ≤ x7.heap.size := Q7.out.2.2.size
  have s2 := S2.out
  have od := ord.out
  have k78 := Q8.out.2.2
  have k68 := Q7.out.2.2.trans k78
  have k58 := Q6.out.2.2.trans k68
  have k48 := Q5.out.2.2.trans k58
  have FIN : Hid (RwSays w0 zb za zf zn v l w a f (.returned (.agg #[.int .i64 n0, .int .i64 n1, .int .i64 n2, .int .i64 n3, .slice p4 n4.length q4, .slice p5 n5.length q5, .slice p6 n6.length q6, .slice p7 n7.length q7, .slice p8 n8.length q8])) w3) := by
    refine ⟨⟨n0, n1, n2, n3, n4, n5, n6, n7, n8⟩, a8, f8, _, rfl, ⟨_, _, _, _, _, rfl, ?_, ?_, ?_, ?_, ?_⟩, R0.out.bind (R1.out.bind (R2.out.bind (R3.out.bind (R4.out.bind (R5.out.bind (R6.out.bind (R7.out.bind (R8.out.bind (Wd.Rd.ret _ _ _))))))))), ?_, ?_⟩
    · exact Ow.mono (owns_k2 (owns_k2 O4.out k48 (by omega) (by omega)) KC.out (by omega) (by omega)) (by omega)
    · exact Ow.mono (owns_k2 (owns_k2 O5.out k58 (by omega) (by omega)) KC.out (by omega) (by omega)) (by omega)
    · exact Ow.mono (owns_k2 (owns_k2 O6.out k68 (by omega) (by omega)) KC.out (by omega) (by omega)) (by omega)
    · exact Uno.mono (owns_k2 (owns_k2 O7.out k78 (by omega) (by omega)) KC.out (by omega) (by omega)) (by omega)
    · exact Jbo.mono (owns_k2 O8.out KC.out (by omega) (by omega)) (by omega)
    · exact Q8.out.1.kept (K2.below (Below.refl _ _) KC.out (by have := X8.out; omega) (by omega) (by omega))
    · exact (E0.out.2.trans Q8.out.2.1).then_below (K2.below (Below.refl _ _) KC.out (by have := X8.out; omega) (by omega) (by omega))
  have y0 : w3.cell? ⟨w.heap.size + 1, 0, none⟩ = some (.int .i64 n0) := by have := ZZ.out; simp [World.cell?, this]
  have y1 : w3.cell? ⟨w.heap.size + 1, 1, none⟩ = some (.int .i64 n1) := by have := ZZ.out; simp [World.cell?, this]
  have y2 : w3.cell? ⟨w.heap.size + 1, 2, none⟩ = some (.int .i64 n2) := by have := ZZ.out; simp [World.cell?, this]
  have y3 : w3.cell? ⟨w.heap.size + 1, 3, none⟩ = some (.int .i64 n3) := by have := ZZ.out; simp [World.cell?, this]
  have y4 : w3.cell? ⟨w.heap.size + 1, 4, none⟩ = some (.slice p4 n4.length q4) := by have := ZZ.out; simp [World.cell?, this]
  have y5 : w3.cell? ⟨w.heap.size + 1, 5, none⟩ = some (.slice p5 n5.length q5) := by have := ZZ.out; simp [World.cell?, this]
  have y6 : w3.cell? ⟨w.heap.size + 1, 6, none⟩ = some (.slice p6 n6.length q6) := by have := ZZ.out; simp [World.cell?, this]
  have y7 : w3.cell? ⟨w.heap.size + 1, 7, none⟩ = some (.slice p7 n7.length q7) := by have := ZZ.out; simp [World.cell?, this]
  have y8 : w3.cell? ⟨w.heap.size + 1, 8, none⟩ = some (.slice p8 n8.length q8) := by have := ZZ.out; simp [World.cell?, this]
  clear c0 t0 c1 t1 c2 t2 c3 t3 c4 t4 c5 t5 c6 t6 c7 t7 c8 t8 s2 s4 s5 s6 s7 s8 od k78 k68 k58 k48
  go_wp2
  refine bodyPost_ret (v := .agg #[.int .i64 n0, .int .i64 n1, .int .i64 n2, .int .i64 n3, .slice p4 n4.length q4, .slice p5 n5.length q5, .slice p6 n6.length q6, .slice p7 n7.length q7, .slice p8 n8.length q8]) (by simp [results, Tryz.results63, go_sem, y0, y1, y2, y3, y4, y5, y6, y7, y8]) rfl FIN.out
end Go.Proofs.YtoabhfipikkkeaaGreatDoor

namespace Go.Proofs.YtoabhfipikkkeaaGreatDoor
open Go.RowKit
set_option linter.unusedVariables false

/-- what Decode says. -/
def DecSays (l : List UInt8) (w : World) (e : Ending) (w' : World) : Prop := match Wd.pworld l 0 with
  | some (W, n) => ∃ u, e = .returned (.tuple #[u, .int .i64 (n : Nat), .nilIface]) ∧ Wo w' w.heap.size u W
  | none => e = .returned (.tuple #[.agg #[.int .i64 0, .int .i64 0, .int .i64 0, .int .i64 0, .slice none 0 0, .slice none 0 0, .slice none 0 0, .slice none 0 0, .slice none 0 0], .int .i64 0, .iface 99 (.int .i64 9)])
set_option maxRecDepth 100000 in
set_option maxHeartbeats 8000000 in
theorem decode_any (v : Value) (l : List UInt8) (w : World) (h : By w v l) :
    Calls Tryz.prog 15 #[v] w fun e w' => DecSays l w e w' ∧ Below w.heap.size w w' := by
  have B : Hid (By w v l) := h
  obtain ⟨ad, cap, rfl, h1, h2, h3⟩ := h
  clear h1 h2 h3
  have sf : ∀ (a : Addr) (f : Fn) (x y : Array Value) (w : World) (m : Mode), (store a (.func f x y) m).run Tryz.prog w = stored Tryz.prog w a (.func f x y) m := fun a f x y w m => run_store _ w a _ m rfl
  go_enter Tryz.func15, Tryz.ntmps15
  go_wp2_with fail
  have D1 : Hid (Ds w w.heap.size (w.heap.size + 1 + 1) (w.heap.size + 1 + 1 + 1) (w.heap.size + 1 + 1 + 1 + 1) (.slice ad l.length cap) l (((((w.alloc (Obj.cells #[.slice ad l.length cap] 36)).alloc (Obj.cells #[.int .i64 0, .int .i64 0, .int .i64 0, .int .i64 0, .slice none 0 0, .slice none 0 0, .slice none 0 0, .slice none 0 0, .slice none 0 0] 29)).alloc (Obj.cells #[.int .i64 0] 3)).alloc (Obj.cells #[.bool false] 4)).alloc (Obj.cells #[.func (.func 60) #[] #[.pointer (some ⟨w.heap.size, 0, none⟩), .pointer (some ⟨w.heap.size + 1 + 1, 0, none⟩), .pointer (some ⟨w.heap.size + 1 + 1 + 1, 0, none⟩)]] 110)) 0 false) := by
    have f1 : (w.alloc (Obj.cells #[.slice ad l.length cap] 36)).heap.size = w.heap.size + 1 := by simp
    have f2 : ((w.alloc (Obj.cells #[.slice ad l.length cap] 36)).alloc (Obj.cells #[.int .i64 0, .int .i64 0, .int .i64 0, .int .i64 0, .slice none 0 0, .slice none 0 0, .slice none 0 0, .slice none 0 0, .slice none 0 0] 29)).heap.size = w.heap.size + 1 + 1 := by simp
    have f3 : (((w.alloc (Obj.cells #[.slice ad l.length cap] 36)).alloc (Obj.cells #[.int .i64 0, .int .i64 0, .int .i64 0, .int .i64 0, .slice none 0 0, .slice none 0 0, .slice none 0 0, .slice none 0 0, .slice none 0 0] 29)).alloc (Obj.cells #[.int .i64 0] 3)).heap.size = w.heap.size + 1 + 1 + 1 := by simp
    have f4 : ((((w.alloc (Obj.cells #[.slice ad l.length cap] 36)).alloc (Obj.cells #[.int .i64 0, .int .i64 0, .int .i64 0, .int .i64 0, .slice none 0 0, .slice none 0 0, .slice none 0 0, .slice none 0 0, .slice none 0 0] 29)).alloc (Obj.cells #[.int .i64 0] 3)).alloc (Obj.cells #[.bool false] 4)).heap.size = w.heap.size + 1 + 1 + 1 + 1 := by simp
    have g1 : Below (w.heap.size + 1) (w.alloc (Obj.cells #[.slice ad l.length cap] 36)) (((((w.alloc (Obj.cells #[.slice ad l.length cap] 36)).alloc (Obj.cells #[.int .i64 0, .int .i64 0, .int .i64 0, .int .i64 0, .slice none 0 0, .slice none 0 0, .slice none 0 0, .slice none 0 0, .slice none 0 0] 29)).alloc (Obj.cells #[.int .i64 0] 3)).alloc (Obj.cells #[.bool false] 4)).alloc (Obj.cells #[.func (.func 60) #[] #[.pointer (some ⟨w.heap.size, 0, none⟩), .pointer (some ⟨w.heap.size + 1 + 1, 0, none⟩), .pointer (some ⟨w.heap.size + 1 + 1 + 1, 0, none⟩)]] 110)) := ((((Below.refl _ _).alloc (by simp) _).alloc (by simp) _).alloc (by simp <;> omega) _).alloc (by simp <;> omega) _
    have g3 : Below (w.heap.size + 1 + 1 + 1) (((w.alloc (Obj.cells #[.slice ad l.length cap] 36)).alloc (Obj.cells #[.int .i64 0, .int .i64 0, .int .i64 0, .int .i64 0, .slice none 0 0, .slice none 0 0, .slice none 0 0, .slice none 0 0, .slice none 0 0] 29)).alloc (Obj.cells #[.int .i64 0] 3)) (((((w.alloc (Obj.cells #[.slice ad l.length cap] 36)).alloc (Obj.cells #[.int .i64 0, .int .i64 0, .int .i64 0, .int .i64 0, .slice none 0 0, .slice none 0 0, .slice none 0 0, .slice none 0 0, .slice none 0 0] 29)).alloc (Obj.cells #[.int .i64 0] 3)).alloc (Obj.cells #[.bool false] 4)).alloc (Obj.cells #[.func (.func 60) #[] #[.pointer (some ⟨w.heap.size, 0, none⟩), .pointer (some ⟨w.heap.size + 1 + 1, 0, none⟩), .pointer (some ⟨w.heap.size + 1 + 1 + 1, 0, none⟩)]] 110)) := ((Below.refl _ _).alloc (by simp) _).alloc (by simp) _
    have g4 : Below (w.heap.size + 1 + 1 + 1 + 1) ((((w.alloc (Obj.cells #[.slice ad l.length cap] 36)).alloc (Obj.cells #[.int .i64 0, .int .i64 0, .int .i64 0, .int .i64 0, .slice none 0 0, .slice none 0 0, .slice none 0 0, .slice none 0 0, .slice none 0 0] 29)).alloc (Obj.cells #[.int .i64 0] 3)).alloc (Obj.cells #[.bool false] 4)) (((((w.alloc (Obj.cells #[.slice ad l.length cap] 36)).alloc (Obj.cells #[.int .i64 0, .int .i64 0, .int .i64 0, .int .i64 0, .slice none 0 0, .slice none 0 0, .slice none 0 0, .slice none 0 0, .slice none 0 0] 29)).alloc (Obj.cells #[.int .i64 0] 3)).alloc (Obj.cells #[.bool false] 4)).alloc (Obj.cells #[.func (.func 60) #[] #[.pointer (some ⟨w.heap.size, 0, none⟩), .pointer (some ⟨w.heap.size + 1 + 1, 0, none⟩), .pointer (some ⟨w.heap.size + 1 + 1 + 1, 0, none⟩)]] 110)) := (Below.refl _ _).alloc (by simp) _
    refine ⟨⟨B.out, Nat.le_refl _, by omega, by omega, (((((Below.refl _ _).alloc (Nat.le_refl _) _).alloc (by simp) _).alloc (by simp <;> omega) _).alloc (by simp <;> omega) _).alloc (by simp <;> omega) _, ?_, ?_, ?_, Nat.zero_le _⟩, by omega, ?_⟩
    · rw [g1.cell (p := ⟨w.heap.size, 0, none⟩) (Nat.lt_succ_self _)]
      exact cell_of_new rfl rfl
    · rw [g3.block (w.heap.size + 1 + 1) (by omega), ← f2, heap_alloc_new]
      rfl
    · rw [g4.block (w.heap.size + 1 + 1 + 1) (by omega), ← f3, heap_alloc_new]
    · exact cell_of_new f4 rfl
  have ZR : Hid ((((((w.alloc (Obj.cells #[.slice ad l.length cap] 36)).alloc (Obj.cells #[.int .i64 0, .int .i64 0, .int .i64 0, .int .i64 0, .slice none 0 0, .slice none 0 0, .slice none 0 0, .slice none 0 0, .slice none 0 0] 29)).alloc (Obj.cells #[.int .i64 0] 3)).alloc (Obj.cells #[.bool false] 4)).alloc (Obj.cells #[.func (.func 60) #[] #[.pointer (some ⟨w.heap.size, 0, none⟩), .pointer (some ⟨w.heap.size + 1 + 1, 0, none⟩), .pointer (some ⟨w.heap.size + 1 + 1 + 1, 0, none⟩)]] 110)).heap[w.heap.size + 1]? = some (Obj.cells #[.int .i64 0, .int .i64 0, .int .i64 0, .int .i64 0, .slice none 0 0, .slice none 0 0, .slice none 0 0, .slice none 0 0, .slice none 0 0] 29 (0, 0))) := by
    have f1 : (w.alloc (Obj.cells #[.slice ad l.length cap] 36)).heap.size = w.heap.size + 1 := by simp
    have g2 : Below (w.heap.size + 1 + 1) ((w.alloc (Obj.cells #[.slice ad l.length cap] 36)).alloc (Obj.cells #[.int .i64 0, .int .i64 0, .int .i64 0, .int .i64 0, .slice none 0 0, .slice none 0 0, .slice none 0 0, .slice none 0 0, .slice none 0 0] 29)) (((((w.alloc (Obj.cells #[.slice ad l.length cap] 36)).alloc (Obj.cells #[.int .i64 0, .int .i64 0, .int .i64 0, .int .i64 0, .slice none 0 0, .slice none 0 0, .slice none 0 0, .slice none 0 0, .slice none 0 0] 29)).alloc (Obj.cells #[.int .i64 0] 3)).alloc (Obj.cells #[.bool false] 4)).alloc (Obj.cells #[.func (.func 60) #[] #[.pointer (some ⟨w.heap.size, 0, none⟩), .pointer (some ⟨w.heap.size + 1 + 1, 0, none⟩), .pointer (some ⟨w.heap.size + 1 + 1 + 1, 0, none⟩)]] 110)) := (((Below.refl _ _).alloc (by simp) _).alloc (by simp) _).alloc (by simp <;> omega) _
    unfold Hid
    rw [g2.block (w.heap.size + 1) (by omega), ← f1, heap_alloc_new]
  have B1 : Hid (Below w.heap.size w (((((w.alloc (Obj.cells #[.slice ad l.length cap] 36)).alloc (Obj.cells #[.int .i64 0, .int .i64 0, .int .i64 0, .int .i64 0, .slice none 0 0, .slice none 0 0, .slice none 0 0, .slice none 0 0, .slice none 0 0] 29)).alloc (Obj.cells #[.int .i64 0] 3)).alloc (Obj.cells #[.bool false] 4)).alloc (Obj.cells #[.func (.func 60) #[] #[.pointer (some ⟨w.heap.size, 0, none⟩), .pointer (some ⟨w.heap.size + 1 + 1, 0, none⟩), .pointer (some ⟨w.heap.size + 1 + 1 + 1, 0, none⟩)]] 110))) := (((((Below.refl _ _).alloc (Nat.le_refl _) _).alloc (by simp) _).alloc (by simp <;> omega) _).alloc (by simp <;> omega) _).alloc (by simp <;> omega) _
  have S1 : Hid ((((((w.alloc (Obj.cells #[.slice ad l.length cap] 36)).alloc (Obj.cells #[.int .i64 0, .int .i64 0, .int .i64 0, .int .i64 0, .slice none 0 0, .slice none 0 0, .slice none 0 0, .slice none 0 0, .slice none 0 0] 29)).alloc (Obj.cells #[.int .i64 0] 3)).alloc (Obj.cells #[.bool false] 4)).alloc (Obj.cells #[.func (.func 60) #[] #[.pointer (some ⟨w.heap.size, 0, none⟩), .pointer (some ⟨w.heap.size + 1 + 1, 0, none⟩), .pointer (some ⟨w.heap.size + 1 + 1 + 1, 0, none⟩)]] 110)).heap.size = w.heap.size + 5) := by unfold Hid; simp
  generalize (((((w.alloc (Obj.cells #[.slice ad l.length cap] 36)).alloc (Obj.cells #[.int .i64 0, .int .i64 0, .int .i64 0, .int .i64 0, .slice none 0 0, .slice none 0 0, .slice none 0 0, .slice none 0 0, .slice none 0 0] 29)).alloc (Obj.cells #[.int .i64 0] 3)).alloc (Obj.cells #[.bool false] 4)).alloc (Obj.cells #[.func (.func 60) #[] #[.pointer (some ⟨w.heap.size, 0, none⟩), .pointer (some ⟨w.heap.size + 1 + 1, 0, none⟩), .pointer (some ⟨w.heap.size + 1 + 1 + 1, 0, none⟩)]] 110)) = w1 at *
  generalize hzn : w.heap.size + 1 + 1 + 1 + 1 = zn at *
  generalize hzf : w.heap.size + 1 + 1 + 1 = zf at *
  generalize hza : w.heap.size + 1 + 1 = za at *
  generalize hzr : w.heap.size + 1 = zr at *
  have OR : Hid (w.heap.size + 1 = zr ∧ w.heap.size + 2 = za ∧ w.heap.size + 3 = zf ∧ w.heap.size + 4 = zn) := ⟨hzr, by omega, by omega, by omega⟩
  clear hzn hzf hza hzr sf
  refine (rworld_any w w.heap.size za zf zn (.slice ad l.length cap) l w1 0 false D1.out).mono ?_
  rintro e w2 ⟨W, a', f', u, rfl, hwo, hrd, hds, hk⟩
  have WO : Hid (Wo w2 w1.heap.size u W) := hwo
  have RD : Hid (Wd.Rd (Wd.pworld l) 0 false W a' f') := hrd
  have D2 : Hid (Ds w w.heap.size za zf zn (.slice ad l.length cap) l w2 a' f') := hds
  have K : Hid (K2 za zf w1 w2) := hk
  obtain ⟨u1, u2, u3, u4, u5, rfl, o1, o2, o3, o4, o5⟩ := hwo
  obtain ⟨p1, q1, rfl⟩ := o1.len
  obtain ⟨p2, q2, rfl⟩ := o2.len
  obtain ⟨p3, q3, rfl⟩ := o3.len
  obtain ⟨p4, q4, rfl⟩ := o4.len
  obtain ⟨p5, q5, rfl⟩ := o5.len
  clear hrd hds hk o1 o2 o3 o4 o5
  go_upto_region 5 with fail
  have S2 : Hid (w.heap.size + 5 ≤ w2.heap.size) := by have := S1.out; have := K.out.size; unfold Hid; omega
  have ZR2 : Hid (w2.heap[zr]? = some (Obj.cells #[.int .i64 0, .int .i64 0, .int .i64 0, .int .i64 0, .slice none 0 0, .slice none 0 0, .slice none 0 0, .slice none 0 0, .slice none 0 0] 29 (0, 0))) := by
    unfold Hid
    have := OR.out
    have := S1.out
    rw [K.out.block zr (by omega) (by omega) (by omega)]
    exact ZR.out
  have AL : Hid (Below w2.heap.size w2 (w2.alloc (Obj.cells #[.int .i64 W.turn, .int .i64 W.next, .int .i64 W.wide, .int .i64 W.high, .slice p1 W.gs.length q1, .slice p2 W.os.length q2, .slice p3 W.gold.length q3, .slice p4 W.us.length q4, .slice p5 W.qs.length q5] 29))) := (Below.refl _ _).alloc (Nat.le_refl _) _
  have y0 : (w2.alloc (Obj.cells #[.int .i64 W.turn, .int .i64 W.next, .int .i64 W.wide, .int .i64 W.high, .slice p1 W.gs.length q1, .slice p2 W.os.length q2, .slice p3 W.gold.length q3, .slice p4 W.us.length q4, .slice p5 W.qs.length q5] 29)).cell? ⟨w2.heap.size, 0, none⟩ = some (.int .i64 W.turn) := cell_of_new rfl rfl
  have y1 : (w2.alloc (Obj.cells #[.int .i64 W.turn, .int .i64 W.next, .int .i64 W.wide, .int .i64 W.high, .slice p1 W.gs.length q1, .slice p2 W.os.length q2, .slice p3 W.gold.length q3, .slice p4 W.us.length q4, .slice p5 W.qs.length q5] 29)).cell? ⟨w2.heap.size, 1, none⟩ = some (.int .i64 W.next) := cell_of_new rfl rfl
  have y2 : (w2.alloc (Obj.cells #[.int .i64 W.turn, .int .i64 W.next, .int .i64 W.wide, .int .i64 W.high, .slice p1 W.gs.length q1, .slice p2 W.os.length q2, .slice p3 W.gold.length q3, .slice p4 W.us.length q4, .slice p5 W.qs.length q5] 29)).cell? ⟨w2.heap.size, 2, none⟩ = some (.int .i64 W.wide) := cell_of_new rfl rfl
  have y3 : (w2.alloc (Obj.cells #[.int .i64 W.turn, .int .i64 W.next, .int .i64 W.wide, .int .i64 W.high, .slice p1 W.gs.length q1, .slice p2 W.os.length q2, .slice p3 W.gold.length q3, .slice p4 W.us.length q4, .slice p5 W.qs.length q5] 29)).cell? ⟨w2.heap.size, 3, none⟩ = some (.int .i64 W.high) := cell_of_new rfl rfl
  have y4 : (w2.alloc (Obj.cells #[.int .i64 W.turn, .int .i64 W.next, .int .i64 W.wide, .int .i64 W.high, .slice p1 W.gs.length q1, .slice p2 W.os.length q2, .slice p3 W.gold.length q3, .slice p4 W.us.length q4, .slice p5 W.qs.length q5] 29)).cell? ⟨w2.heap.size, 4, none⟩ = some (.slice p1 W.gs.length q1) := cell_of_new rfl rfl
  have y5 : (w2.alloc (Obj.cells #[.int .i64 W.turn, .int .i64 W.next, .int .i64 W.wide, .int .i64 W.high, .slice p1 W.gs.length q1, .slice p2 W.os.length q2, .slice p3 W.gold.length q3, .slice p4 W.us.length q4, .slice p5 W.qs.length q5] 29)).cell? ⟨w2.heap.size, 5, none⟩ = some (.slice p2 W.os.length q2) := cell_of_new rfl rfl
  have y6 : (w2.alloc (Obj.cells #[.int .i64 W.turn, .int .i64 W.next, .int .i64 W.wide, .int .i64 W.high, .slice p1 W.gs.length q1, .slice p2 W.os.length q2, .slice p3 W.gold.length q3, .slice p4 W.us.length q4, .slice p5 W.qs.length q5] 29)).cell? ⟨w2.heap.size, 6, none⟩ = some (.slice p3 W.gold.length q3) := cell_of_new rfl rfl
  have y7 : (w2.alloc (Obj.cells #[.int .i64 W.turn, .int .i64 W.next, .int .i64 W.wide, .int .i64 W.high, .slice p1 W.gs.length q1, .slice p2 W.os.length q2, .slice p3 W.gold.length q3, .slice p4 W.us.length q4, .slice p5 W.qs.length q5] 29)).cell? ⟨w2.heap.size, 7, none⟩ = some (.slice p4 W.us.length q4) := cell_of_new rfl rfl
  have y8 : (w2.alloc (Obj.cells #[.int .i64 W.turn, .int .i64 W.next, .int .i64 W.wide, .int .i64 W.high, .slice p1 W.gs.length q1, .slice p2 W.os.length q2, .slice p3 W.gold.length q3, .slice p4 W.us.length q4, .slice p5 W.qs.length q5] 29)).cell? ⟨w2.heap.size, 8, none⟩ = some (.slice p5 W.qs.length q5) := cell_of_new rfl rfl
  generalize (w2.alloc (Obj.cells #[.int .i64 W.turn, .int .i64 W.next, .int .i64 W.wide, .int .i64 W.high, .slice p1 W.gs.length q1, .slice p2 W.os.length q2, .slice p3 W.gold.length q3, .slice p4 W.us.length q4, .slice p5 W.qs.length q5] 29)) = w3 at *
  have ZR3 : Hid (w3.heap[zr]? = some (Obj.cells #[.int .i64 0, .int .i64 0, .int .i64 0, .int .i64 0, .slice none 0 0, .slice none 0 0, .slice none 0 0, .slice none 0 0, .slice none 0 0] 29 (0, 0))) := by
    unfold Hid
    have := OR.out
    have := S2.out
    rw [AL.out.block zr (by omega)]
    exact ZR2.out
  have D3 : Hid (Dc w w.heap.size za zf (.slice ad l.length cap) l w3 a' f') := D2.out.d.kept (AL.out.mono (by have := OR.out; have := S2.out; omega))
  have W3 : Hid (Wo w3 w1.heap.size (.agg #[.int .i64 W.turn, .int .i64 W.next, .int .i64 W.wide, .int .i64 W.high, .slice p1 W.gs.length q1, .slice p2 W.os.length q2, .slice p3 W.gold.length q3, .slice p4 W.us.length q4, .slice p5 W.qs.length q5]) W) := WO.out.below AL.out
  have B3 : Hid (Below w.heap.size w w3) := (K2.below B1.out K.out (by have := S1.out; omega) (by have := OR.out; omega) (by have := OR.out; omega)).trans (AL.out.mono (by have := S2.out; omega))
  have KZ : Hid (∀ x : World, K2 zr zr w3 x → Wo x w.heap.size (.agg #[.int .i64 W.turn, .int .i64 W.next, .int .i64 W.wide, .int .i64 W.high, .slice p1 W.gs.length q1, .slice p2 W.os.length q2, .slice p3 W.gold.length q3, .slice p4 W.us.length q4, .slice p5 W.qs.length q5]) W ∧ Below w.heap.size w x) := fun x hx => by
    have h1 := OR.out
    have h2 := S1.out
    have h3 := S2.out
    have h4 := AL.out.size
    have h5 := W3.out.k2 hx (by omega) (by omega)
    obtain ⟨v1, v2, v3, v4, v5, e, m1, m2, m3, m4, m5⟩ := h5
    exact ⟨⟨v1, v2, v3, v4, v5, e, m1.mono (by omega), m2.mono (by omega), m3.mono (by omega), m4.mono (by omega), m5.mono (by omega)⟩, K2.below B3.out hx (by omega) (by omega) (by omega)⟩
  have c0 : w3.cell? ⟨zr, 0, none⟩ = some (.int .i64 0) := by have := ZR3.out; simp [World.cell?, this]
  have t0 : w3.frozen? ⟨zr, 0, none⟩ = false := by have := ZR3.out; simp [World.frozen?, this]
  have c1 : w3.cell? ⟨zr, 1, none⟩ = some (.int .i64 0) := by have := ZR3.out; simp [World.cell?, this]
  have t1 : w3.frozen? ⟨zr, 1, none⟩ = false := by have := ZR3.out; simp [World.frozen?, this]
  have c2 : w3.cell? ⟨zr, 2, none⟩ = some (.int .i64 0) := by have := ZR3.out; simp [World.cell?, this]
  have t2 : w3.frozen? ⟨zr, 2, none⟩ = false := by have := ZR3.out; simp [World.frozen?, this]
  have c3 : w3.cell? ⟨zr, 3, none⟩ = some (.int .i64 0) := by have := ZR3.out; simp [World.cell?, this]
  have t3 : w3.frozen? ⟨zr, 3, none⟩ = false := by have := ZR3.out; simp [World.frozen?, this]
  have c4 : w3.cell? ⟨zr, 4, none⟩ = some (.slice none 0 0) := by have := ZR3.out; simp [World.cell?, this]
  have t4 : w3.frozen? ⟨zr, 4, none⟩ = false := by have := ZR3.out; simp [World.frozen?, this]
  have c5 : w3.cell? ⟨zr, 5, none⟩ = some (.slice none 0 0) := by have := ZR3.out; simp [World.cell?, this]
  have t5 : w3.frozen? ⟨zr, 5, none⟩ = false := by have := ZR3.out; simp [World.frozen?, this]
  have c6 : w3.cell? ⟨zr, 6, none⟩ = some (.slice none 0 0) := by have := ZR3.out; simp [World.cell?, this]
  have t6 : w3.frozen? ⟨zr, 6, none⟩ = false := by have := ZR3.out; simp [World.frozen?, this]
  have c7 : w3.cell? ⟨zr, 7, none⟩ = some (.slice none 0 0) := by have := ZR3.out; simp [World.cell?, this]
  have t7 : w3.frozen? ⟨zr, 7, none⟩ = false := by have := ZR3.out; simp [World.frozen?, this]
  have c8 : w3.cell? ⟨zr, 8, none⟩ = some (.slice none 0 0) := by have := ZR3.out; simp [World.cell?, this]
  have t8 : w3.frozen? ⟨zr, 8, none⟩ = false := by have := ZR3.out; simp [World.frozen?, this]
  have n1 : zr ≠ w2.heap.size := by have := OR.out; have := S2.out; omega
  have n2 : zr ≠ za := by have := OR.out; omega
  have n3 : za ≠ w2.heap.size := by have := OR.out; have := S2.out; omega
  have n1' : w2.heap.size ≠ zr := fun e => n1 e.symm
  have n2' : za ≠ zr := fun e => n2 e.symm
  obtain ⟨cf, ff⟩ := D3.out.lf
  obtain ⟨ca, fa⟩ := D3.out.la
  clear ff fa D1 D2 WO W3 ZR ZR2 B B1
  cases f' with
  | true =>
    have E : Hid (Wd.pworld l 0 = none) := by
      rcases RD.out.2 rfl with ⟨-, h⟩ | ⟨h, -⟩
      · cases h
      · exact h
    go_wp2
    have KC : Hid (K2 zr zr w3 (((((((((w3.setCell ⟨zr, 0, none⟩ (.int .i64 0)).setCell ⟨zr, 1, none⟩ (.int .i64 0)).setCell ⟨zr, 2, none⟩ (.int .i64 0)).setCell ⟨zr, 3, none⟩ (.int .i64 0)).setCell ⟨zr, 4, none⟩ (.slice none 0 0)).setCell ⟨zr, 5, none⟩ (.slice none 0 0)).setCell ⟨zr, 6, none⟩ (.slice none 0 0)).setCell ⟨zr, 7, none⟩ (.slice none 0 0)).setCell ⟨zr, 8, none⟩ (.slice none 0 0))) := (((((((((K2.setY w3 0 _).trans (K2.setY _ 1 _)).trans (K2.setY _ 2 _)).trans (K2.setY _ 3 _)).trans (K2.setY _ 4 _)).trans (K2.setY _ 5 _)).trans (K2.setY _ 6 _)).trans (K2.setY _ 7 _)).trans (K2.setY _ 8 _))
    have ZZ : Hid ((((((((((w3.setCell ⟨zr, 0, none⟩ (.int .i64 0)).setCell ⟨zr, 1, none⟩ (.int .i64 0)).setCell ⟨zr, 2, none⟩ (.int .i64 0)).setCell ⟨zr, 3, none⟩ (.int .i64 0)).setCell ⟨zr, 4, none⟩ (.slice none 0 0)).setCell ⟨zr, 5, none⟩ (.slice none 0 0)).setCell ⟨zr, 6, none⟩ (.slice none 0 0)).setCell ⟨zr, 7, none⟩ (.slice none 0 0)).setCell ⟨zr, 8, none⟩ (.slice none 0 0)).heap[zr]? = some (Obj.cells #[.int .i64 0, .int .i64 0, .int .i64 0, .int .i64 0, .slice none 0 0, .slice none 0 0, .slice none 0 0, .slice none 0 0, .slice none 0 0] 29 (0, 0))) := heap_setCell_same _ zr 8 _ _ (.slice none 0 0) (heap_setCell_same _ zr 7 _ _ (.slice none 0 0) (heap_setCell_same _ zr 6 _ _ (.slice none 0 0) (heap_setCell_same _ zr 5 _ _ (.slice none 0 0) (heap_setCell_same _ zr 4 _ _ (.slice none 0 0) (heap_setCell_same _ zr 3 _ _ (.int .i64 0) (heap_setCell_same _ zr 2 _ _ (.int .i64 0) (heap_setCell_same _ zr 1 _ _ (.int .i64 0) (heap_setCell_same _ zr 0 _ _ (.int .i64 0) (ZR3.out)))))))))
    generalize (((((((((w3.setCell ⟨zr, 0, none⟩ (.int .i64 0)).setCell ⟨zr, 1, none⟩ (.int .i64 0)).setCell ⟨zr, 2, none⟩ (.int .i64 0)).setCell ⟨zr, 3, none⟩ (.int .i64 0)).setCell ⟨zr, 4, none⟩ (.slice none 0 0)).setCell ⟨zr, 5, none⟩ (.slice none 0 0)).setCell ⟨zr, 6, none⟩ (.slice none 0 0)).setCell ⟨zr, 7, none⟩ (.slice none 0 0)).setCell ⟨zr, 8, none⟩ (.slice none 0 0)) = w4 at *
    clear c0 t0 y0 c1 t1 y1 c2 t2 y2 c3 t3 y3 c4 t4 y4 c5 t5 y5 c6 t6 y6 c7 t7 y7 c8 t8 y8
    have x0 : w4.cell? ⟨zr, 0, none⟩ = some (.int .i64 0) := by have := ZZ.out; simp [World.cell?, this]
    have x1 : w4.cell? ⟨zr, 1, none⟩ = some (.int .i64 0) := by have := ZZ.out; simp [World.cell?, this]
    have x2 : w4.cell? ⟨zr, 2, none⟩ = some (.int .i64 0) := by have := ZZ.out; simp [World.cell?, this]
    have x3 : w4.cell? ⟨zr, 3, none⟩ = some (.int .i64 0) := by have := ZZ.out; simp [World.cell?, this]
    have x4 : w4.cell? ⟨zr, 4, none⟩ = some (.slice none 0 0) := by have := ZZ.out; simp [World.cell?, this]
    have x5 : w4.cell? ⟨zr, 5, none⟩ = some (.slice none 0 0) := by have := ZZ.out; simp [World.cell?, this]
    have x6 : w4.cell? ⟨zr, 6, none⟩ = some (.slice none 0 0) := by have := ZZ.out; simp [World.cell?, this]
    have x7 : w4.cell? ⟨zr, 7, none⟩ = some (.slice none 0 0) := by have := ZZ.out; simp [World.cell?, this]
    have x8 : w4.cell? ⟨zr, 8, none⟩ = some (.slice none 0 0) := by have := ZZ.out; simp [World.cell?, this]
    refine bodyPost_ret (v := .tuple #[.agg #[.int .i64 0, .int .i64 0, .int .i64 0, .int .i64 0, .slice none 0 0, .slice none 0 0, .slice none 0 0, .slice none 0 0, .slice none 0 0], .int .i64 0, .iface 99 (.int .i64 9)]) (by simp [results, Tryz.results15, go_sem, x0, x1, x2, x3, x4, x5, x6, x7, x8]) rfl ⟨?_, (KZ.out _ KC.out).2⟩
    unfold DecSays
    rw [E.out]
  | false =>
    have E : Hid (Wd.pworld l 0 = some (W, a')) := by
      rcases RD.out.2 rfl with ⟨h, -⟩ | ⟨-, h⟩
      · exact h
      · cases h
    go_wp2
    go_region
    have KC0 : Hid (K2 zr zr w3 (((((((((w3.setCell ⟨zr, 0, none⟩ (.int .i64 W.turn)).setCell ⟨zr, 1, none⟩ (.int .i64 W.next)).setCell ⟨zr, 2, none⟩ (.int .i64 W.wide)).setCell ⟨zr, 3, none⟩ (.int .i64 W.high)).setCell ⟨zr, 4, none⟩ (.slice p1 W.gs.length q1)).setCell ⟨zr, 5, none⟩ (.slice p2 W.os.length q2)).setCell ⟨zr, 6, none⟩ (.slice p3 W.gold.length q3)).setCell ⟨zr, 7, none⟩ (.slice p4 W.us.length q4)).setCell ⟨zr, 8, none⟩ (.slice p5 W.qs.length q5))) := (((((((((K2.setY w3 0 _).trans (K2.setY _ 1 _)).trans (K2.setY _ 2 _)).trans (K2.setY _ 3 _)).trans (K2.setY _ 4 _)).trans (K2.setY _ 5 _)).trans (K2.setY _ 6 _)).trans (K2.setY _ 7 _)).trans (K2.setY _ 8 _))
    have ZZ0 : Hid ((((((((((w3.setCell ⟨zr, 0, none⟩ (.int .i64 W.turn)).setCell ⟨zr, 1, none⟩ (.int .i64 W.next)).setCell ⟨zr, 2, none⟩ (.int .i64 W.wide)).setCell ⟨zr, 3, none⟩ (.int .i64 W.high)).setCell ⟨zr, 4, none⟩ (.slice p1 W.gs.length q1)).setCell ⟨zr, 5, none⟩ (.slice p2 W.os.length q2)).setCell ⟨zr, 6, none⟩ (.slice p3 W.gold.length q3)).setCell ⟨zr, 7, none⟩ (.slice p4 W.us.length q4)).setCell ⟨zr, 8, none⟩ (.slice p5 W.qs.length q5)).heap[zr]? = some (Obj.cells #[.int .i64 W.turn, .int .i64 W.next, .int .i64 W.wide, .int .i64 W.high, .slice p1 W.gs.length q1, .slice p2 W.os.length q2, .slice p3 W.gold.length q3, .slice p4 W.us.length q4, .slice p5 W.qs.length q5] 29 (0, 0))) := heap_setCell_same _ zr 8 _ _ (.slice p5 W.qs.length q5) (heap_setCell_same _ zr 7 _ _ (.slice p4 W.us.length q4) (heap_setCell_same _ zr 6 _ _ (.slice p3 W.gold.length q3) (heap_setCell_same _ zr 5 _ _ (.slice p2 W.os.length q2) (heap_setCell_same _ zr 4 _ _ (.slice p1 W.gs.length q1) (heap_setCell_same _ zr 3 _ _ (.int .i64 W.high) (heap_setCell_same _ zr 2 _ _ (.int .i64 W.wide) (heap_setCell_same _ zr 1 _ _ (.int .i64 W.next) (heap_setCell_same _ zr 0 _ _ (.int .i64 W.turn) (ZR3.out)))))))))
    generalize (((((((((w3.setCell ⟨zr, 0, none⟩ (.int .i64 W.turn)).setCell ⟨zr, 1, none⟩ (.int .i64 W.next)).setCell ⟨zr, 2, none⟩ (.int .i64 W.wide)).setCell ⟨zr, 3, none⟩ (.int .i64 W.high)).setCell ⟨zr, 4, none⟩ (.slice p1 W.gs.length q1)).setCell ⟨zr, 5, none⟩ (.slice p2 W.os.length q2)).setCell ⟨zr, 6, none⟩ (.slice p3 W.gold.length q3)).setCell ⟨zr, 7, none⟩ (.slice p4 W.us.length q4)).setCell ⟨zr, 8, none⟩ (.slice p5 W.qs.length q5)) = w5 at *
    have KC : Hid (K2 zr zr w3 w5.drew) := KC0.out.trans (K2.of (Below.refl _ _).drew)
    have ZZ : Hid (w5.drew.heap[zr]? = some (Obj.cells #[.int .i64 W.turn, .int .i64 W.next, .int .i64 W.wide, .int .i64 W.high, .slice p1 W.gs.length q1, .slice p2 W.os.length q2, .slice p3 W.gold.length q3, .slice p4 W.us.length q4, .slice p5 W.qs.length q5] 29 (0, 0))) := ZZ0.out
    generalize w5.drew = w4 at *
    clear c0 t0 y0 c1 t1 y1 c2 t2 y2 c3 t3 y3 c4 t4 y4 c5 t5 y5 c6 t6 y6 c7 t7 y7 c8 t8 y8 cf ca
    go_wp2
    have x0 : w4.cell? ⟨zr, 0, none⟩ = some (.int .i64 W.turn) := by have := ZZ.out; simp [World.cell?, this]
    have x1 : w4.cell? ⟨zr, 1, none⟩ = some (.int .i64 W.next) := by have := ZZ.out; simp [World.cell?, this]
    have x2 : w4.cell? ⟨zr, 2, none⟩ = some (.int .i64 W.wide) := by have := ZZ.out; simp [World.cell?, this]
    have x3 : w4.cell? ⟨zr, 3, none⟩ = some (.int .i64 W.high) := by have := ZZ.out; simp [World.cell?, this]
    have x4 : w4.cell? ⟨zr, 4, none⟩ = some (.slice p1 W.gs.length q1) := by have := ZZ.out; simp [World.cell?, this]
    have x5 : w4.cell? ⟨zr, 5, none⟩ = some (.slice p2 W.os.length q2) := by have := ZZ.out; simp [World.cell?, this]
    have x6 : w4.cell? ⟨zr, 6, none⟩ = some (.slice p3 W.gold.length q3) := by have := ZZ.out; simp [World.cell?, this]
    have x7 : w4.cell? ⟨zr, 7, none⟩ = some (.slice p4 W.us.length q4) := by have := ZZ.out; simp [World.cell?, this]
    have x8 : w4.cell? ⟨zr, 8, none⟩ = some (.slice p5 W.qs.length q5) := by have := ZZ.out; simp [World.cell?, this]
    refine bodyPost_ret (v := .tuple #[.agg #[.int .i64 W.turn, .int .i64 W.next, .int .i64 W.wide, .int .i64 W.high, .slice p1 W.gs.length q1, .slice p2 W.os.length q2, .slice p3 W.gold.length q3, .slice p4 W.us.length q4, .slice p5 W.qs.length q5], .int .i64 (a' : Nat), .nilIface]) (by simp [results, Tryz.results15, go_sem, x0, x1, x2, x3, x4, x5, x6, x7, x8]) rfl ⟨?_, (KZ.out _ KC.out).2⟩
    unfold DecSays
    rw [E.out]
    exact ⟨_, rfl, (KZ.out _ KC.out).1⟩
end Go.Proofs.YtoabhfipikkkeaaGreatDoor

namespace Go.Proofs.YtoabhfipikkkeaaGreatDoor.topViews
open Go.Proofs.YtoabhfipikkkeaaGreatDoor.So
set_option linter.unusedVariables false

theorem ob_mono {w : World} {base base' : Nat} {v : Value} {l : List UInt8} (h : Ob w base v l) (hb : base' ≤ base) : Ob w base' v l := by
  refine ⟨h.1, ?_⟩
  rcases h.2 with h1 | ⟨g, cap, cur, h1, h2, h3, h4⟩
  · exact .inl h1
  · exact .inr ⟨g, cap, cur, h1, Nat.le_trans hb h2, h3, h4⟩
theorem app_says {a b : List UInt8} {w w' : World} {v r : Value} (ha : a.length ≤ 6000) (hb : b.length ≤ 6000) (h : AppSays a (Fe.diff a b) w w' v r) : r = .nilIface ∧ Ob w' w.heap.size v b := by
  have hz : aFault a (Fe.diff a b) = 0 := by
    unfold aFault
    rw [if_neg (by omega)]
    exact chk_of (Nat.le_trans (Fe.dif_len _ _ _) (by omega)) (Fe.diff_fine ha hb)
  have he := Fe.applied_diff (N := 6000) ha hb
  rcases h with ⟨h, -⟩ | ⟨-, h, -⟩ | ⟨-, c, h1, h2, h3⟩
  · exact absurd hz h
  · rw [he] at h; cases h
  · rw [he] at h1
    injection h1 with h1
    subst h1
    exact ⟨h2, h3⟩
theorem pack_says {a b : List UInt8} {w w' : World} {v r : Value} (ha : a.length ≤ 6000) (hb : b.length ≤ 6000) (h : PackSays (Fe.diff a b) w w' v r) : r = .nilIface ∧ Ob w' w.heap.size v (Wd.wr (Fe.nums (Fe.diff a b))) := by
  have hz : chk (fun _ => true) (Fe.diff a b) = 0 := chk_of (Nat.le_trans (Fe.dif_len _ _ _) (by omega)) (Fe.fine_any (Fe.diff_fine ha hb))
  rcases h with ⟨h, -⟩ | ⟨-, h1, h2⟩
  · exact absurd hz h
  · exact ⟨h1, h2⟩
theorem unp_says {a b : List UInt8} {w w' : World} {v n r : Value} (ha : a.length ≤ 6000) (hb : b.length ≤ 6000) (h : UnpSays (Wd.wr (Fe.nums (Fe.diff a b))) w w' v n r) : r = .nilIface ∧ (∃ m : Nat, n = .int .i64 (m : Nat)) ∧ Cho w' w.heap.size v (Fe.diff a b) := by
  obtain ⟨ua, hua⟩ := Fe.unpack_pack (l := Fe.diff a b) (Nat.le_trans (Fe.dif_len _ _ _) (by omega)) (Fe.fine_any (Fe.diff_fine ha hb)) []
  rw [List.append_nil] at hua
  rcases h with ⟨h, -⟩ | ⟨ls, a9, h, rfl, rfl, ho⟩
  · rw [hua] at h; cases h
  rw [hua] at h
  injection h with h
  injection h with h1 h2
  subst h1
  exact ⟨rfl, ⟨a9, rfl⟩, ho⟩
theorem news_says {ks : List KV} {A B : WV} {p : Int} {w w' : World} {v r : Value} {Wa : Nat} (ha : pfault ks A p = 0) (hb : pfault ks B p = 0) (hw : A.wide = (Wa : Nat)) (h : NewsSays ks A B p w w' v r) :
    ∃ Wb : Nat, B.wide = (Wb : Nat) ∧ r = .nilIface ∧ Cho w' w.heap.size v (Fe.diff (Wd.enc (viewOf ks Wa A p)) (Wd.enc (viewOf ks Wb B p))) := by
  rcases h with ⟨h, -⟩ | ⟨-, h, -⟩ | ⟨-, -, Wa', Wb, h1, h2, h3⟩
  · exact absurd ha h
  · exact absurd hb h
  · obtain rfl : Wa' = Wa := by omega
    rcases h3 with ⟨h, -⟩ | ⟨-, -, h4, h5⟩
    · have h6 := view_len Wa' ha
      have h7 := view_len Wb hb
      omega
    · exact ⟨Wb, h2, h4, h5⟩
theorem view_says {ks : List KV} {A : WV} {p : Int} {w w' : World} {v r : Value} {Wa : Nat} (ha : pfault ks A p = 0) (hw : A.wide = (Wa : Nat)) (hr : Er r (pfault ks A p)) (h : ViewSays ks A p w w' v) :
    r = .nilIface ∧ Wo w' w.heap.size v (viewOf ks Wa A p) := by
  rw [ha] at hr
  refine ⟨One.ez hr, ?_⟩
  rcases h with ⟨h, -⟩ | ⟨-, Wn, h1, h2⟩
  · exact absurd ha h
  · obtain rfl : Wn = Wa := by omega
    exact h2
theorem view_wok {ks : List KV} {A : WV} {p : Int} (Wa : Nat) (ha : pfault ks A p = 0) : Wd.Wok (viewOf ks Wa A p) := (wright_of (view_right (p := p) (Wn := Wa) (wright_of (pfault_zero ha).1))).wok
theorem dec_says {ks : List KV} {A : WV} {p : Int} {Wa : Nat} (ha : pfault ks A p = 0) {w w' : World} {e : Ending} (h : DecSays (Wd.enc (viewOf ks Wa A p)) w e w') :
    ∃ u, e = .returned (.tuple #[u, .int .i64 ((Wd.enc (viewOf ks Wa A p)).length : Nat), .nilIface]) ∧ Wo w' w.heap.size u (viewOf ks Wa A p) := by
  have h1 := Wd.dec_enc (view_wok (p := p) Wa ha) []
  rw [List.append_nil] at h1
  unfold DecSays at h
  rw [h1] at h
  exact h
end Go.Proofs.YtoabhfipikkkeaaGreatDoor.topViews

namespace Go.Proofs.YtoabhfipikkkeaaGreatDoor
open Go.ChangeShapes Go.WideShapes Go.ChangeAt Go.RowKit
set_option linter.unusedVariables false

theorem or_fields : ∃ f0 f1 f2 f3 : Field, Tryz.prog.underlying 86 = some (.struct #[f0, f1, f2, f3]) ∧
    f0.offset = 0 ∧ f0.type = 3 ∧ f1.offset = 1 ∧ f1.type = 3 ∧ f2.offset = 2 ∧ f2.type = 3 ∧ f3.offset = 3 ∧ f3.type = 3 := ⟨_, _, _, _, Tryz.underlying86, rfl, rfl, rfl, rfl, rfl, rfl, rfl, rfl⟩

set_option maxRecDepth 100000 in
theorem open_or {H : Type} {enc : TypeId × Value → H} {W : World} {base : Nat} {held : Bool} {fuel : Nat} {cs : List Value} {y : DataW H × List MemPlace} (h : DataW.trod enc Tryz.prog W base (fun _ => true) held fuel 86 cs = some y) :
    ∃ k : OrV, cs = [.int .i64 k.player, .int .i64 k.unit, .int .i64 k.what, .int .i64 k.arg] ∧ True := by
  obtain ⟨f0, f1, f2, f3, he, o0, t0, o1, t1, o2, t2, o3, t3⟩ := or_fields
  obtain ⟨xs, m, -, -, hlen, hxl, hf⟩ := DataW.trod_struct he h
  have csi : Tryz.prog.cellsOf 3 = 1 := by kernel_rfl
  have csk : Tryz.prog.cellsOf 86 = 4 := by kernel_rfl
  rw [csk] at hlen
  match cs, hlen with
  | [v0, v1, v2, v3], _ =>
    have hx : xs.length = 4 := hxl
    match xs, hx with
    | [x0, x1, x2, x3], _ =>
      have g0 := hf 0 f0 rfl
      rw [o0, t0, csi] at g0
      have g1 := hf 1 f1 rfl
      rw [o1, t1, csi] at g1
      have g2 := hf 2 f2 rfl
      rw [o2, t2, csi] at g2
      have g3 := hf 3 f3 rfl
      rw [o3, t3, csi] at g3
      obtain ⟨m0, e0, -, -⟩ := DataW.trod_int Tryz.underlying3 g0
      obtain ⟨m1, e1, -, -⟩ := DataW.trod_int Tryz.underlying3 g1
      obtain ⟨m2, e2, -, -⟩ := DataW.trod_int Tryz.underlying3 g2
      obtain ⟨m3, e3, -, -⟩ := DataW.trod_int Tryz.underlying3 g3
      simp at e0 e1 e2 e3
      subst e0 e1 e2 e3
      exact ⟨⟨m0, m1, m2, m3⟩, rfl, trivial⟩

theorem open_ors {H : Type} {enc : TypeId × Value → H} {W : World} {base : Nat} {held : Bool} {fuel : Nat} {v : Value} {y : DataW H × List MemPlace} (h : DataW.trod enc Tryz.prog W base (fun _ => true) held fuel 41 [v] = some y) :
    ∃ ks : List OrV, Orl W v ks ∧ ∀ k ∈ ks, True := by
  have csk : Tryz.prog.cellsOf 86 = 4 := by kernel_rfl
  rcases Go.Deep.open_slice Tryz.underlying41 h with ⟨hcs, -⟩ | ⟨a, len, cap, m, q, D, Pl, hcs, hb, hl, hm, hmm, -, hx⟩
  · simp at hcs
    subst hcs
    exact ⟨[], ⟨none, 0, rfl, Nat.le_refl _, by omega, fun h => absurd rfl h⟩, by simp⟩
  · simp at hcs
    subst hcs
    have hlm : len ≤ m := by rw [hmm]; simp; exact hl
    have each : ∀ i, i < len → ∃ k : OrV, Orc W (a.add (i * 4)) k ∧ (True) := by
      intro i hi
      obtain ⟨cs', h1, h2⟩ := hx i (by omega)
      obtain ⟨k, rfl, hk⟩ := open_or h2
      rw [csk] at h1
      obtain ⟨-, -, hcell⟩ := World.cells?_some h1
      refine ⟨k, ?_, hk⟩
      generalize a.add (i * 4) = y at *
      exact ⟨hcell 0 (by decide), hcell 1 (by decide), hcell 2 (by decide), hcell 3 (by decide)⟩
    have inh : Inhabited OrV := ⟨⟨0, 0, 0, 0⟩⟩
    obtain ⟨q, hq⟩ := Go.Deep.choose_lt each
    refine ⟨(List.range len).map q, ⟨some a, cap, by simp, by simpa using hl, by unfold maxLen at hm; omega, fun hn => ⟨a, rfl, ?_, fun i k hk => ?_⟩⟩, ?_⟩
    · have h0 : 0 < len := by
        rcases Nat.eq_zero_or_pos len with h | h
        · subst h; simp at hn
        · exact h
      have := (hq 0 h0).1.lt
      rwa [add_block] at this
    · have hi : i < len := by
        have := (List.getElem?_eq_some_iff.1 hk).1
        simpa using this
      rw [List.getElem?_map, List.getElem?_range hi] at hk
      injection hk with hk
      subst hk
      exact (hq i hi).1
    · intro k hk
      obtain ⟨i, hi, rfl⟩ := List.mem_map.1 hk
      exact (hq i (List.mem_range.1 hi)).2
set_option maxRecDepth 100000 in
theorem ors_in {H : Type} {enc : TypeId × Value → H} {W : World} {base b0 : Nat} {held : Bool} {v : Value} {d : DataW H} {p : List MemPlace} (hv : Value.okWide Tryz.prog W .any b0 41 v) (h : DataW.Trod enc Tryz.prog W base (fun _ => true) held 41 v d p) :
    ∃ ks : List OrV, Orl W v ks ∧ ∀ k ∈ ks, True := by
  obtain ⟨a, len, cap, rfl⟩ := okWide_slice Tryz.underlying41 hv
  obtain ⟨fuel, hf⟩ := h
  exact open_ors hf
end Go.Proofs.YtoabhfipikkkeaaGreatDoor

namespace Go.Proofs.YtoabhfipikkkeaaGreatDoor
open Go.ChangeShapes Go.WideShapes Go.ChangeAt Go.RowKit
set_option linter.unusedVariables false

set_option maxRecDepth 100000 in
theorem open_olls {H : Type} {enc : TypeId × Value → H} {W : World} {base : Nat} {held : Bool} {fuel : Nat} {v : Value} {y : DataW H × List MemPlace} (h : DataW.trod enc Tryz.prog W base (fun _ => true) held fuel 30 [v] = some y) :
    ∃ ls : List (List OrV), Oll W v ls := by
  have csk : Tryz.prog.cellsOf 41 = 1 := by kernel_rfl
  rcases Go.Deep.open_slice Tryz.underlying30 h with ⟨hcs, -⟩ | ⟨a, len, cap, m, q, D, Pl, hcs, hb, hl, hm, hmm, -, hx⟩
  · simp at hcs
    subst hcs
    exact ⟨[], ⟨none, 0, rfl, Nat.le_refl _, by omega, fun h => absurd rfl h⟩⟩
  · simp at hcs
    subst hcs
    have hlm : len ≤ m := by rw [hmm]; simp; exact hl
    have each : ∀ i, i < len → ∃ l : List OrV, ∃ u, W.cell? (a.add i) = some u ∧ Orl W u l := by
      intro i hi
      obtain ⟨cs', h1, h2⟩ := hx i (by omega)
      rw [csk] at h1
      rw [Nat.mul_one] at h1
      obtain ⟨-, hlen, hcell⟩ := World.cells?_some h1
      match cs', hlen with
      | [u], _ =>
        obtain ⟨l, hl', -⟩ := open_ors h2
        exact ⟨l, u, hcell 0 (by decide), hl'⟩
    have inh : Inhabited (List OrV) := ⟨[]⟩
    obtain ⟨q, hq⟩ := Go.Deep.choose_lt each
    refine ⟨(List.range len).map q, ⟨some a, cap, by simp, by simpa using hl, by unfold maxLen at hm; omega, fun hn => ⟨a, rfl, ?_, fun i k hk => ?_⟩⟩⟩
    · have h0 : 0 < len := by
        rcases Nat.eq_zero_or_pos len with h | h
        · subst h; simp at hn
        · exact h
      obtain ⟨u, h1, -⟩ := hq 0 h0
      have := cell_lt h1
      rwa [add_block] at this
    · have hi : i < len := by
        have := (List.getElem?_eq_some_iff.1 hk).1
        simpa using this
      rw [List.getElem?_map, List.getElem?_range hi] at hk
      injection hk with hk
      subst hk
      exact hq i hi
set_option maxRecDepth 100000 in
theorem olls_in {H : Type} {enc : TypeId × Value → H} {W : World} {base b0 : Nat} {held : Bool} {v : Value} {d : DataW H} {p : List MemPlace} (hv : Value.okWide Tryz.prog W .any b0 30 v) (h : DataW.Trod enc Tryz.prog W base (fun _ => true) held 30 v d p) : ∃ ls : List (List OrV), Oll W v ls := by
  obtain ⟨a, len, cap, rfl⟩ := okWide_slice Tryz.underlying30 hv
  obtain ⟨fuel, hf⟩ := h
  exact open_olls hf
/-- the first of them; those behind. -/
theorem Oll.take {w : World} {a : Option Addr} {n c : Nat} {ls : List (List OrV)} (h : Oll w (.slice a n c) ls) {k : Nat} (hk : k ≤ ls.length) : Oll w (.slice a k c) (ls.take k) := by
  obtain ⟨a', c', e, h2, h3, h4⟩ := h
  injection e with e1 e2 e3
  subst e1 e3
  have hl : (ls.take k).length = k := by rw [List.length_take]; omega
  refine ⟨a, c, by rw [hl], by omega, h3, fun hn => ?_⟩
  obtain ⟨x, ex, hx, hy⟩ := h4 (by rintro rfl; simp at hn)
  refine ⟨x, ex, hx, fun i l hi => hy i l ?_⟩
  rw [List.getElem?_take] at hi
  split at hi
  · exact hi
  · cases hi
theorem Oll.sl {w : World} {a : Option Addr} {c n L : Nat} {ls : List (List OrV)} (h : Oll w (.slice a L c) ls) (hn : n ≤ ls.length) : Oll w (sliced a n L c 1) (ls.drop n) := by
  obtain ⟨a', c', e, h1, h2, h3⟩ := h
  injection e with e1 e2 e3
  subst e1 e3 e2
  unfold sliced
  refine ⟨_, _, by rw [List.length_drop], by rw [List.length_drop]; omega, by omega, fun hne => ?_⟩
  have hnl : n < ls.length := by
    rcases Nat.lt_or_ge n ls.length with h | h
    · exact h
    · exact absurd (List.drop_eq_nil_of_le h) hne
  obtain ⟨x, rfl, hx1, hx2⟩ := h3 (by rintro rfl; simp at hnl)
  refine ⟨x.add n, ?_, by rw [add_block]; exact hx1, fun i l hk => ?_⟩
  · simp
    intro hc
    omega
  · rw [List.getElem?_drop] at hk
    obtain ⟨u, c1, c2⟩ := hx2 (n + i) l hk
    have e : (x.add n).add i = x.add (n + i) := by
      unfold Addr.add
      split <;> split <;> split <;> simp_all <;> omega
    rw [e]
    exact ⟨u, c1, c2⟩
end Go.Proofs.YtoabhfipikkkeaaGreatDoor

namespace Go.Proofs.YtoabhfipikkkeaaGreatDoor
open Go Go.RowKit
set_option linter.unusedVariables false

inductive TrT where
  | leaf : TrT
  | read : Nat → TrT → TrT
  | one : Nat → TrT → TrT
  | two : Nat → TrT → Nat → TrT → TrT
  | three : Nat → TrT → Nat → TrT → Nat → TrT → TrT
section
variable {P : Program} {ops : Array Oper} {md : Region.Mode} {C : World → Prop} {Q : Exit → Act → World → Prop}
def wpTr (P : Program) (ops : Array Oper) (C : World → Prop) (K : Act → World → Prop) : TrT → Act → World → Prop
  | .leaf, a, W => K a W
  | .read i t, a, W => ∃ o v, ops[i]? = some o ∧ YieldsS P ops C o v a ∧ wpTr P ops C K t (a.put o.dst v) W
  | .one i t, a, W => ∃ o, ops[i]? = some o ∧ StepS P ops C o (wpTr P ops C K t) a W
  | .two i t j u, a, W => (∃ o, ops[i]? = some o ∧ StepS P ops C o (wpTr P ops C K t) a W) ∧ (∃ o, ops[j]? = some o ∧ StepS P ops C o (wpTr P ops C K u) a W)
  | .three i t j u k v, a, W => (∃ o, ops[i]? = some o ∧ StepS P ops C o (wpTr P ops C K t) a W) ∧ (∃ o, ops[j]? = some o ∧ StepS P ops C o (wpTr P ops C K u) a W) ∧ (∃ o, ops[k]? = some o ∧ StepS P ops C o (wpTr P ops C K v) a W)
def trB (md : Region.Mode) (ops : Array Oper) (H0 : Array Bool) : Nat → TrT → Array Bool → Bool
  | 0, .leaf, listed => decide (listed = H0)
  | n + 1, .read i t, listed => (Region.ready md ops listed).contains i && (Region.free md ops listed i && ((waits md ops H0 i || decide (Region.ready md ops (H0.setIfInBounds i false) = [i])) && trB md ops H0 n t (listed.setIfInBounds i true)))
  | n + 1, .one i t, listed => (Region.ready md ops listed).contains i && ((Region.ready md ops listed).all (fun x => decide (x = i)) && trB md ops H0 n t (listed.setIfInBounds i true))
  | n + 1, .two i t j u, listed => (Region.ready md ops listed).contains i && ((Region.ready md ops listed).contains j && ((Region.ready md ops listed).all (fun x => decide (x = i) || decide (x = j)) && (trB md ops H0 n t (listed.setIfInBounds i true) && trB md ops H0 n u (listed.setIfInBounds j true))))
  | n + 1, .three i t j u k v, listed => (Region.ready md ops listed).contains i && ((Region.ready md ops listed).contains j && ((Region.ready md ops listed).contains k && ((Region.ready md ops listed).all (fun x => decide (x = i) || (decide (x = j) || decide (x = k))) && (trB md ops H0 n t (listed.setIfInBounds i true) && (trB md ops H0 n u (listed.setIfInBounds j true) && trB md ops H0 n v (listed.setIfInBounds k true))))))
  | _, _, _ => false
theorem wpAnyT_of_tr {K : Act → World → Prop} {H0 : Array Bool} (hsel : Region.noSelect ops = true) : ∀ (n : Nat) (t : TrT) (listed : Array Bool) (a : Act) (W : World), Clos md ops listed → trB md ops H0 n t listed = true → C W → wpTr P ops C K t a W → wpAnyT P md ops C (fun l a W => l = H0 ∧ K a W) n listed a W
  | 0, .leaf, listed, a, W, inv, hB, hC, h => by
    simp only [trB, decide_eq_true_eq] at hB
    exact ⟨hB, h⟩
  | n + 1, .read i t, listed, a, W, inv, hB, hC, h => by
    simp only [trB, Bool.and_eq_true, Bool.or_eq_true, decide_eq_true_eq] at hB
    obtain ⟨hr, hf, hH, hB⟩ := hB
    obtain ⟨o, v, ho, hy, hk⟩ := h
    have hr' : i ∈ Region.ready md ops listed := by simpa using hr
    exact wpAnyT_first ho (Region.noSelect_spec hsel) hH (fun _ _ _ h => h.1) n listed a W inv (Region.free_spec ho hf) hr' hy hC (wpAnyT_of_tr hsel n t _ _ _ (inv.set hr') hB hC hk)
  | n + 1, .one i t, listed, a, W, inv, hB, hC, h => by
    simp only [trB, Bool.and_eq_true] at hB
    obtain ⟨hr, hall, hB⟩ := hB
    have hr' : i ∈ Region.ready md ops listed := by simpa using hr
    obtain ⟨o, ho, hs⟩ := h
    refine ⟨fun h => (by rw [h] at hr'; cases hr'), fun x hx => ?_⟩
    have hx' := List.all_eq_true.1 hall x hx
    simp only [decide_eq_true_eq] at hx'
    subst hx'
    exact ⟨o, ho, hs.mono fun a' W' hC' hk => wpAnyT_of_tr hsel n t _ _ _ (inv.set hr') hB hC' hk⟩
  | n + 1, .two i t j u, listed, a, W, inv, hB, hC, h => by
    simp only [trB, Bool.and_eq_true] at hB
    obtain ⟨hi, hj, hall, hB1, hB2⟩ := hB
    have hi' : i ∈ Region.ready md ops listed := by simpa using hi
    have hj' : j ∈ Region.ready md ops listed := by simpa using hj
    obtain ⟨⟨o, ho, hs⟩, ⟨o2, ho2, hs2⟩⟩ := h
    refine ⟨fun h => (by rw [h] at hi'; cases hi'), fun x hx => ?_⟩
    have hx' := List.all_eq_true.1 hall x hx
    simp only [Bool.or_eq_true, decide_eq_true_eq] at hx'
    rcases hx' with e | e
    · subst e; exact ⟨o, ho, hs.mono fun a' W' hC' hk => wpAnyT_of_tr hsel n t _ _ _ (inv.set hi') hB1 hC' hk⟩
    · subst e; exact ⟨o2, ho2, hs2.mono fun a' W' hC' hk => wpAnyT_of_tr hsel n u _ _ _ (inv.set hj') hB2 hC' hk⟩
  | n + 1, .three i t j u k v, listed, a, W, inv, hB, hC, h => by
    simp only [trB, Bool.and_eq_true] at hB
    obtain ⟨hi, hj, hk, hall, hB1, hB2, hB3⟩ := hB
    have hi' : i ∈ Region.ready md ops listed := by simpa using hi
    have hj' : j ∈ Region.ready md ops listed := by simpa using hj
    have hk' : k ∈ Region.ready md ops listed := by simpa using hk
    obtain ⟨⟨o, ho, hs⟩, ⟨o2, ho2, hs2⟩, ⟨o3, ho3, hs3⟩⟩ := h
    refine ⟨fun h => (by rw [h] at hi'; cases hi'), fun x hx => ?_⟩
    have hx' := List.all_eq_true.1 hall x hx
    simp only [Bool.or_eq_true, decide_eq_true_eq] at hx'
    rcases hx' with e | e | e
    · subst e; exact ⟨o, ho, hs.mono fun a' W' hC' hk => wpAnyT_of_tr hsel n t _ _ _ (inv.set hi') hB1 hC' hk⟩
    · subst e; exact ⟨o2, ho2, hs2.mono fun a' W' hC' hk => wpAnyT_of_tr hsel n u _ _ _ (inv.set hj') hB2 hC' hk⟩
    · subst e; exact ⟨o3, ho3, hs3.mono fun a' W' hC' hk => wpAnyT_of_tr hsel n v _ _ _ (inv.set hk') hB3 hC' hk⟩
  | 0, .read _ _, _, _, _, _, hB, _, _ => by simp [trB] at hB
  | 0, .one _ _, _, _, _, _, hB, _, _ => by simp [trB] at hB
  | 0, .two _ _ _ _, _, _, _, _, hB, _, _ => by simp [trB] at hB
  | 0, .three _ _ _ _ _ _, _, _, _, _, hB, _, _ => by simp [trB] at hB
  | _ + 1, .leaf, _, _, _, _, hB, _, _ => by simp [trB] at hB
/-- the region: along the tree, in the worlds C; then its tail. s: what the tree holds, in any order. -/
theorem wp_region_tree {id : Nat} {a : Act} {w : World} (T : TrT) (s t : List (Bool × Nat)) (C : World → Prop) (hm : P.follows .mixedOrders = true) (hs : Region.noSelect ops = true) (hl : s.length + t.length = ops.size)
    (hB : trB .any ops (listedBy ops.size s) s.length T (Array.replicate ops.size false) = true)
    (hT : schedB .any ops t (listedBy ops.size s) = true)
    (hC : C { w with drawn := w.drawn + 1 }) (h : wpTr P ops C (wpSched P ops (fun _ => True) Q t) T a { w with drawn := w.drawn + 1 }) : (Code.region id ops true).wp P Q a w := by
  refine wp_region_any hm ?_
  rw [← hl]
  refine wpAny_of_T (g := t.length) (fun listed a W hh => ?_) _ _ _ _ (wpAnyT_of_tr (H0 := listedBy ops.size s) hs s.length T _ a _ (fun j oj _ hj => by rw [getD_replicate_false] at hj; cases hj) (by rw [hl]; exact hB) hC h)
  obtain ⟨rfl, hk⟩ := hh
  exact wpAny_of_S _ _ _ _ (wpAnyS_of_sched hs t _ a W hT trivial hk)
theorem tr_read {K : Act → World → Prop} {i : Nat} {t : TrT} {o : Oper} {a : Act} {W : World} (ho : ops[i]? = some o) (v : Value) (hw : Region.wanted o (yielded ops a.tmps) = true) (hr : ∀ W, C W → (execOp a.eval o).run P W = .ok (.value v) W) (h : wpTr P ops C K t (a.put o.dst v) W) : wpTr P ops C K (.read i t) a W :=
  ⟨o, v, ho, ⟨hw, hr⟩, h⟩
theorem tr_one {K : Act → World → Prop} {i : Nat} {t : TrT} {a : Act} {W : World} (h : ∃ o, ops[i]? = some o ∧ StepS P ops C o (wpTr P ops C K t) a W) : wpTr P ops C K (.one i t) a W := h
theorem tr_two {K : Act → World → Prop} {i j : Nat} {t u : TrT} {a : Act} {W : World} (h : ∃ o, ops[i]? = some o ∧ StepS P ops C o (wpTr P ops C K t) a W) (h2 : ∃ o, ops[j]? = some o ∧ StepS P ops C o (wpTr P ops C K u) a W) : wpTr P ops C K (.two i t j u) a W := ⟨h, h2⟩
theorem tr_three {K : Act → World → Prop} {i j k : Nat} {t u v : TrT} {a : Act} {W : World} (h : ∃ o, ops[i]? = some o ∧ StepS P ops C o (wpTr P ops C K t) a W) (h2 : ∃ o, ops[j]? = some o ∧ StepS P ops C o (wpTr P ops C K u) a W) (h3 : ∃ o, ops[k]? = some o ∧ StepS P ops C o (wpTr P ops C K v) a W) : wpTr P ops C K (.three i t j u k v) a W := ⟨h, h2, h3⟩
theorem st_call {K : Act → World → Prop} {i : Nat} {o : Oper} {a : Act} {W : World} (ho : ops[i]? = some o) (f : FuncId) (args : Array Value) (hw : Region.wanted o (yielded ops a.tmps) = true) (hr : (execOp a.eval o).run P W = .ok (.enter f args) W)
    (hc : Calls P f args W (fun e w' => ∃ v, e = .returned v ∧ C w' ∧ K (a.put o.dst v) w')) : ∃ o, ops[i]? = some o ∧ StepS P ops C o K a W :=
  ⟨o, ho, hw, .inr (.inr ⟨f, args, hr, hc⟩)⟩
theorem st_value {K : Act → World → Prop} {i : Nat} {o : Oper} {a : Act} {W : World} (ho : ops[i]? = some o) (v : Value) (W' : World) (hw : Region.wanted o (yielded ops a.tmps) = true) (hr : (execOp a.eval o).run P W = .ok (.value v) W') (hC : C W') (h : K (a.put o.dst v) W') : ∃ o, ops[i]? = some o ∧ StepS P ops C o K a W :=
  ⟨o, ho, hw, .inl ⟨v, W', hr, hC, h⟩⟩
theorem st_skip {K : Act → World → Prop} {i : Nat} {o : Oper} {a : Act} {W : World} (ho : ops[i]? = some o) (W' : World) (hw : Region.wanted o (yielded ops a.tmps) = true) (hr : (execOp a.eval o).run P W = .ok .skip W') (hC : C W') (h : K (a.put o.dst undef) W') : ∃ o, ops[i]? = some o ∧ StepS P ops C o K a W :=
  ⟨o, ho, hw, .inr (.inl ⟨W', hr, hC, h⟩)⟩
end
end Go.Proofs.YtoabhfipikkkeaaGreatDoor

namespace Go.Proofs.YtoabhfipikkkeaaGreatDoor
open Go.RowKit

set_option maxHeartbeats 400000 in
theorem ints_any (u v : Value) (xs ys : List Int) (w : World) (hu : Ro w u xs) (hv : Ro w v ys) :
    Calls Tryz.prog 30 #[u, v] w fun e w' => e = .returned (.bool (decide (xs = ys))) ∧ ∃ n, w' = w.drewN n := by
  obtain ⟨a, c, rfl, hc1, hc2, ha⟩ := hu
  obtain ⟨b, d, rfl, hd1, hd2, hb⟩ := hv
  have Ha : Hid (Cells w a xs) := ha
  have Hb : Hid (Cells w b ys) := hb
  clear ha hb
  by_cases hl : xs.length = ys.length
  · have Hl : Hid (xs.length = ys.length) := hl
    rw [← hl] at hd1 ⊢
    clear hl
    go_enter Tryz.func30, Tryz.ntmps30
    go_wp2_with fail
    go_loopw [5] (fun i W => ∃ (k q : Nat), k ≤ xs.length ∧ i = .int .i64 (k : Nat) ∧ xs.take k = ys.take k ∧ W = w.drewN q) (fun i _ => xs.length - (intOf i).toNat)
    case atStart => exact ⟨0, 0, Nat.zero_le _, rfl, by simp, rfl⟩
    case round =>
      obtain ⟨k, q, hk, rfl, ht, rfl⟩ := hrel
      have Ht : Hid (xs.take k = ys.take k) := ht
      clear ht
      by_cases h0 : k = xs.length
      · subst h0
        go_wp2
        go_ret
        refine ⟨?_, q, rfl⟩
        have e := Ht.out
        rw [List.take_of_length_le (Nat.le_refl _), Hl.out, List.take_of_length_le (Nat.le_refl _)] at e
        simp [e]
      · have hkx : k < xs.length := by omega
        have hky : k < ys.length := by rw [← Hl.out]; exact hkx
        obtain ⟨x, rfl, -, hx⟩ := Ha.out (by intro h; rw [h] at hkx; simp at hkx)
        obtain ⟨y, rfl, -, hy⟩ := Hb.out (by intro h; rw [h] at hky; simp at hky)
        have cx := hx k xs[k] (List.getElem?_eq_getElem hkx)
        have cy := hy k ys[k] (List.getElem?_eq_getElem hky)
        have Te : Hid (xs.take (k + 1) = ys.take (k + 1) ↔ xs[k] = ys[k]) := by
          unfold Hid
          rw [List.take_succ_eq_append_getElem hkx, List.take_succ_eq_append_getElem hky, Ht.out]
          exact ⟨fun h => (List.cons.inj (List.append_cancel_left h)).1, fun h => by rw [h]⟩
        generalize xs[k] = p at *
        generalize ys[k] = r at *
        clear hx hy
        by_cases hpr : p = r
        · subst hpr
          go_wp2
          go_quiet (fail)
          go_wp2
          go_round
          case rel => exact ⟨k + 1, q + nq, by omega, by go_num, by first | exact Te.out.2 rfl | exact Te.out.2 trivial, rfl⟩
          case measure => simp [intOf]; omega
        · go_wp2
          go_quiet (fail)
          go_wp2
          go_ret
          refine ⟨?_, q + nq, by rw [World.drewN_drewN]⟩
          have : xs ≠ ys := fun h => hpr (Te.out.1 (by rw [h]))
          simp [this]
  · go_enter Tryz.func30, Tryz.ntmps30
    go_wp2
    go_ret
    refine ⟨?_, 0, rfl⟩
    have : xs ≠ ys := fun h => hl (by rw [h])
    simp [this]
end Go.Proofs.YtoabhfipikkkeaaGreatDoor

namespace Go.Proofs.YtoabhfipikkkeaaGreatDoor
open Go.RowKit
set_option linter.unusedVariables false

set_option maxHeartbeats 1000000 in
theorem same_field (u v : Value) (W H : Int) (gs os : List Int) (w : World) (hu : Fl w u W H gs os) (hv : Fl w v W H gs os) :
    Calls Tryz.prog 64 #[u, v] w fun e w' => e = .returned (.bool true) ∧ Below w.heap.size w w' := by
  obtain ⟨a1, a2, rfl, ha1, ha2⟩ := hu
  obtain ⟨b1, b2, rfl, hb1, hb2⟩ := hv
  have A1 : Hid (Ro w a1 gs) := ha1
  have A2 : Hid (Ro w a2 os) := ha2
  have B1 : Hid (Ro w b1 gs) := hb1
  have B2 : Hid (Ro w b2 os) := hb2
  clear ha1 ha2 hb1 hb2
  go_enter Tryz.func64, Tryz.ntmps64
  go_wp2_with fail
  have K0 : Below w.heap.size w ((w.alloc (Obj.cells #[.int .i64 W, .int .i64 H, a1, a2] 25)).alloc (Obj.cells #[.int .i64 W, .int .i64 H, b1, b2] 25)) := ((Below.refl _ _).alloc (Nat.le_refl _) _).alloc (by simp) _
  have X0 := (Bf.mk' (w := w) W H a1 a2 rfl).below ((Below.refl _ _).alloc (Nat.le_refl _) (Obj.cells #[.int .i64 W, .int .i64 H, b1, b2] 25)) (by simp)
  have Y0 := Bf.mk' (w := w.alloc (Obj.cells #[.int .i64 W, .int .i64 H, a1, a2] 25)) (z := w.heap.size + 1) W H b1 b2 (by simp)
  generalize (w.alloc (Obj.cells #[.int .i64 W, .int .i64 H, a1, a2] 25)).alloc (Obj.cells #[.int .i64 W, .int .i64 H, b1, b2] 25) = w0 at *
  refine (ints_any _ _ gs gs _ (A1.out.below K0) (B1.out.below K0)).mono ?_
  rintro e w1 ⟨rfl, q1, hq1⟩
  rw [decide_eq_true rfl]
  have k1 : Below w0.heap.size w0 w1 := by rw [hq1]; exact _root_.Go.below_drewN (Below.refl _ _) _
  have K1 : Below w.heap.size w w1 := K0.trans (k1.mono K0.size)
  have X1 : Hid (Bf w1 w.heap.size W H a1 a2) := X0.below k1 X0.lt
  have Y1 : Hid (Bf w1 (w.heap.size + 1) W H b1 b2) := Y0.below k1 Y0.lt
  clear hq1 k1 X0 Y0 K0
  obtain ⟨x0, x1, x2, x3⟩ := X1.out
  obtain ⟨y0, y1, y2, y3⟩ := Y1.out
  have K1' : Hid (Below w.heap.size w w1) := K1
  clear K1
  go_wp2_with fail
  refine (ints_any _ _ os os _ (A2.out.below K1'.out) (B2.out.below K1'.out)).mono ?_
  rintro e w2 ⟨rfl, q2, hq2⟩
  rw [decide_eq_true rfl]
  have k2 : Below w1.heap.size w1 w2 := by rw [hq2]; exact _root_.Go.below_drewN (Below.refl _ _) _
  have K2 : Hid (Below w.heap.size w w2) := K1'.out.trans (k2.mono K1'.out.size)
  have X2 : Hid (Bf w2 w.heap.size W H a1 a2) := X1.out.below k2 X1.out.lt
  have Y2 : Hid (Bf w2 (w.heap.size + 1) W H b1 b2) := Y1.out.below k2 Y1.out.lt
  clear hq2 k2 x0 x1 x2 x3 y0 y1 y2 y3 X1 Y1 K1'
  obtain ⟨x0, x1, x2, x3⟩ := X2.out
  obtain ⟨y0, y1, y2, y3⟩ := Y2.out
  go_wp2
  go_ret
  exact ⟨rfl, K2⟩
end Go.Proofs.YtoabhfipikkkeaaGreatDoor

