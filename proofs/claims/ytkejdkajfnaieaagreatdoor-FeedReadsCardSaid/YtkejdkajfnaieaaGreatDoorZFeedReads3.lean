/- The reference: a number that is at most so great. · Changes that are read one by one, each looked at at once: the same as all of them, looked at behind. Plain mathematics. · The reference: change. · Changes that are read one by one: step by step. Plain mathematics. · The reference: Unpack. · The reference: at, Diff. · Plain mathematics on integers: roots, floors, signs. No program stands in it. · How far two cells are: plain mathematics. · Worlds in memory. · Texts: cut at a byte and joined again; whole numbers as digits. Plain mathematics. · Kinds: what is wrong with them, their text, and back. Plain mathematics. · Kinds in memory. · Lists of integers that are written out. -/
import Derived.Test.YtkejdkajfnaieaaGreatDoorZFeedReads2
import Derived.Test.YtkejdkajfnaieaaGreatDoorZFeedReads1
import Derived.BigRegion
import Derived.Test.YtkejdkajfnaieaaGreatDoorRows
import Derived.WalkKit
import Derived.WalkSpells
import Derived.WalkLawsBesides
import Derived.KernelRfl
import Derived.WideShapes
namespace Go.Proofs.YtkejdkajfnaieaaGreatDoor
open Go.RowKit
set_option linter.unusedVariables false

/-- what Many tells: m is the most. -/
def RqSays (m : Int) (w0 : World) (z : Nat) (v : Value) (l : List UInt8) (w : World) (a : Nat) (f : Bool) (e : Ending) (w' : World) : Prop :=
  ∃ (n : Int) (a' : Nat) (f' : Bool), e = .returned (.int .i64 n) ∧ 0 ≤ n ∧ n ≤ m ∧ Dr w0 z v l w' a' f' ∧ Kp z w w' ∧ (f = true → f' = true) ∧
    (f = false → (f' = false ∧ Wd.pnum l a = some (n, a')) ∨ (f' = true ∧ (Wd.pnum l a = none ∨ ∃ x a1, Wd.pnum l a = some (x, a1) ∧ ¬ (0 ≤ x ∧ x ≤ m))))
set_option maxHeartbeats 4000000 in
theorem rmost_any (m : Int) (hm : 0 ≤ m ∧ m ≤ 1000000) (w0 : World) (z : Nat) (v : Value) (l : List UInt8) (w : World) (a : Nat) (f : Bool) (h : Dr w0 z v l w a f) :
    Calls Tryz.prog 52 #[.pointer (some ⟨z, 0, none⟩), .int .i64 m] w (RqSays m w0 z v l w a f) := by
  have D : Hid (Dr w0 z v l w a f) := h
  clear h
  go_enter Tryz.func52, Tryz.ntmps52
  go_wp2_with fail
  refine (rnum_any w0 z v l w a f D.out).mono ?_
  rintro e w1 ⟨n, a1, f1, rfl, hrd, hd, hk⟩
  have R : Hid (Wd.Rd (Wd.pnum l) a f n a1 f1) := hrd
  have D1 : Hid (Dr w0 z v l w1 a1 f1) := hd
  have K1 : Hid (Kp z w w1) := hk
  obtain ⟨c0, c1, c2⟩ := hd.cells
  have t2 := hd.thaw 2
  clear hrd hd hk
  by_cases hn : 0 ≤ n ∧ n ≤ m
  · have h1 : ¬ n < 0 := by omega
    have h2 : ¬ m < n := by omega
    have FIN : Hid (RqSays m w0 z v l w a f (.returned (.int .i64 n)) w1) := by
      refine ⟨n, a1, f1, rfl, hn.1, hn.2, D1.out, K1.out, R.out.1, fun hf => ?_⟩
      rcases R.out.2 hf with ⟨e1, e2⟩ | ⟨e1, e2⟩
      · exact .inl ⟨e2, e1⟩
      · exact .inr ⟨e2, .inl e1⟩
    clear hn
    go_wp2
    go_ret
    exact FIN.out
  · have FIN : Hid (RqSays m w0 z v l w a f (.returned (.int .i64 0)) (w1.setCell ⟨z, 2, none⟩ (.bool true))) := by
      refine ⟨0, a1, true, rfl, Int.le_refl _, hm.1, D1.out.bad true, K1.out.trans (Kp.set _ 2 _), fun _ => rfl, fun hf => .inr ⟨rfl, ?_⟩⟩
      rcases R.out.2 hf with ⟨e1, e2⟩ | ⟨e1, e2⟩
      · exact .inr ⟨n, a1, e1, hn⟩
      · exact .inl e1
    by_cases h1 : n < 0
    · clear hn
      go_wp2
      go_ret
      exact FIN.out
    · have h2 : m < n := by omega
      clear hn
      go_wp2
      go_ret
      exact FIN.out
end Go.Proofs.YtkejdkajfnaieaaGreatDoor

namespace Go.Proofs.YtkejdkajfnaieaaGreatDoor
set_option linter.unusedVariables false
namespace Fe

theorem fine_prefix {ok : ChV → Bool} : ∀ {xs ys : List ChV} {p : Int}, Fine ok p (xs ++ ys) → Fine ok p xs
  | [], _, _, _ => trivial
  | x :: xs, ys, p, h => ⟨h.1, h.2.1, h.2.2.1, fine_prefix h.2.2.2⟩
/-- the place of the last one. -/
def lastAt (p : Int) (xs : List ChV) : Int := match xs.getLast? with
  | some c => c.at_
  | none => p
theorem lastAt_cons (p : Int) (x : ChV) (xs : List ChV) : lastAt p (x :: xs) = lastAt x.at_ xs := by
  unfold lastAt
  cases xs with
  | nil => rfl
  | cons y ys =>
    rw [List.getLast?_cons_cons]
    cases h : (y :: ys).getLast? with
    | some c => rfl
    | none => simp at h
theorem lastAt_snoc (p : Int) (xs : List ChV) (c : ChV) : lastAt p (xs ++ [c]) = c.at_ := by
  unfold lastAt
  rw [List.getLast?_append]
  simp
theorem fine_snoc_iff {ok : ChV → Bool} {c : ChV} : ∀ {xs : List ChV} {p : Int}, Fine ok p (xs ++ [c]) ↔ Fine ok p xs ∧ ¬ Bad c ∧ lastAt p xs < c.at_ ∧ ok c = true
  | [], p => by
    show (¬ Bad c ∧ p < c.at_ ∧ ok c = true ∧ True) ↔ _
    have : lastAt p ([] : List ChV) = p := rfl
    rw [this]
    exact ⟨fun h => ⟨trivial, h.1, h.2.1, h.2.2.1⟩, fun h => ⟨h.2.1, h.2.2.1, h.2.2.2, trivial⟩⟩
  | x :: xs, p => by
    show (¬ Bad x ∧ p < x.at_ ∧ ok x = true ∧ Fine ok x.at_ (xs ++ [c])) ↔ _
    rw [fine_snoc_iff (xs := xs), lastAt_cons]
    exact ⟨fun h => ⟨⟨h.1, h.2.1, h.2.2.1, h.2.2.2.1⟩, h.2.2.2.2⟩, fun h => ⟨h.1.1, h.1.2.1, h.1.2.2.1, h.1.2.2.2, h.2⟩⟩
/-- what a longer reading has begun with. -/
theorem ptr_prefix {b : List UInt8} {a0 n : Nat} : ∀ {m : Nat} {ls : List ChV} {p : Int} {a : Nat}, ptr b a0 (n + m) = some (ls, p, a) → ∃ ls' p' a' r, ptr b a0 n = some (ls', p', a') ∧ ls = ls' ++ r
  | 0, ls, p, a, h => ⟨ls, p, a, [], h, by simp⟩
  | m + 1, ls, p, a, h => by
    have h' : ptr b a0 ((n + m) + 1) = some (ls, p, a) := h
    unfold ptr at h'
    split at h'
    · cases h'
    · rename_i l1 p1 a1 hp
      obtain ⟨ls', p', a', r, e1, e2⟩ := ptr_prefix hp
      split at h'
      · cases h'
      · split at h'
        · cases h'
        · split at h'
          · cases h'
          · injection h' with h'
            injection h' with h1 h2
            exact ⟨ls', p', a', r ++ [_], e1, by rw [← h1, e2, List.append_assoc]⟩
/-- where a beginning is wrong all is. -/
theorem unp_bad {b : List UInt8} {m : Int} {a0 n : Nat} {ls : List ChV} {p : Int} {a : Nat} (h : Wd.pnum b 0 = some (m, a0)) (hn : (n : Int) ≤ m) (hp : ptr b a0 n = some (ls, p, a)) (hf : ¬ Fine (fun _ => true) (-1) ls) : unpack b = none := by
  unfold unpack
  rw [h]
  simp only
  split
  · cases e : ptr b a0 m.toNat with
    | none => rfl
    | some x =>
      obtain ⟨l', p', a'⟩ := x
      simp only
      rw [if_neg]
      intro hz
      have hz' := fine_zero.1 hz
      rw [show m.toNat = n + (m.toNat - n) by omega] at e
      obtain ⟨l1, p1, a1, r, e1, e2⟩ := ptr_prefix e
      rw [hp] at e1
      injection e1 with e1
      injection e1 with e1 _
      rw [e2, ← e1] at hz'
      exact hf (fine_prefix hz')
  · rfl
/-- the next triple, read. -/
theorem ptr_more {b : List UInt8} {a0 n : Nat} {ls : List ChV} {p : Int} {a a1 a2 a3 : Nat} {x y z : Int} (h : ptr b a0 n = some (ls, p, a)) (h1 : Wd.pnum b a = some (x, a1)) (h2 : Wd.pnum b a1 = some (y, a2)) (h3 : Wd.pnum b a2 = some (z, a3)) : ptr b a0 (n + 1) = some (ls ++ [⟨wrap (p + x), wrap (y - 1), wrap (z - 1)⟩], wrap (p + x), a3) := by
  unfold ptr
  rw [h]
  simp only
  rw [h1]
  simp only
  rw [h2]
  simp only
  rw [h3]
theorem ptr_no1 {b : List UInt8} {a0 n : Nat} {ls : List ChV} {p : Int} {a : Nat} (h : ptr b a0 n = some (ls, p, a)) (h1 : Wd.pnum b a = none) : ptr b a0 (n + 1) = none := by
  unfold ptr
  rw [h]
  simp only
  rw [h1]
theorem ptr_no2 {b : List UInt8} {a0 n : Nat} {ls : List ChV} {p : Int} {a a1 : Nat} {x : Int} (h : ptr b a0 n = some (ls, p, a)) (h1 : Wd.pnum b a = some (x, a1)) (h2 : Wd.pnum b a1 = none) : ptr b a0 (n + 1) = none := by
  unfold ptr
  rw [h]
  simp only
  rw [h1]
  simp only
  rw [h2]
theorem ptr_no3 {b : List UInt8} {a0 n : Nat} {ls : List ChV} {p : Int} {a a1 a2 : Nat} {x y : Int} (h : ptr b a0 n = some (ls, p, a)) (h1 : Wd.pnum b a = some (x, a1)) (h2 : Wd.pnum b a1 = some (y, a2)) (h3 : Wd.pnum b a2 = none) : ptr b a0 (n + 1) = none := by
  unfold ptr
  rw [h]
  simp only
  rw [h1]
  simp only
  rw [h2]
  simp only
  rw [h3]
/-- a step that is too far, or back, or a byte that is none: it is found. -/
theorem far_bad {p x : Int} (hp : 0 ≤ p ∧ p ≤ 5999) (hx : Wd.In64 x) (h : x < 0 ∨ 6000 < x) {o n : Int} : Bad ⟨wrap (p + x), o, n⟩ ∨ wrap (p + x) ≤ p := by
  unfold Wd.In64 at hx
  unfold wrap Bad
  rw [IntKind.wrap_i64]
  simp only
  omega
theorem old_bad {y : Int} (hy : Wd.In64 y) (h : ¬ (0 ≤ y ∧ y ≤ 256)) {c n : Int} : Bad ⟨c, wrap (y - 1), n⟩ := by
  unfold Wd.In64 at hy
  unfold wrap Bad
  rw [IntKind.wrap_i64]
  simp only
  omega
theorem new_bad {y : Int} (hy : Wd.In64 y) (h : ¬ (0 ≤ y ∧ y ≤ 256)) {c n : Int} : Bad ⟨c, n, wrap (y - 1)⟩ := by
  unfold Wd.In64 at hy
  unfold wrap Bad
  rw [IntKind.wrap_i64]
  simp only
  omega
theorem wrap_near {x : Int} (h : -100000 ≤ x ∧ x ≤ 100000) : wrap x = x := by
  unfold wrap
  rw [IntKind.wrap_i64]
  omega
end Fe
end Go.Proofs.YtkejdkajfnaieaaGreatDoor

namespace Go.Proofs.YtkejdkajfnaieaaGreatDoor
open Go.RowKit
set_option linter.unusedVariables false

namespace Fe
/-- the place of the one ahead. -/
def ahead (ks : List ChV) : Nat → Int
  | 0 => -1
  | j + 1 => match ks[j]? with
    | some c => c.at_
    | none => -1
def rch (p : Int) (c : ChV) : Int := if Bad c then 1 else if c.at_ ≤ p then 5 else 0
end Fe
set_option maxRecDepth 100000 in
set_option maxHeartbeats 8000000 in
theorem rchange_any (u : Value) (ks : List ChV) (i : Nat) (c : ChV) (w : World) (hu : Chl w u ks) (hc : ks[i]? = some c) (hl : ks.length ≤ 1000000) :
    Calls Tryz.prog 54 #[u, .int .i64 (i : Nat)] w fun e w' => e = .returned (.int .i64 (Fe.rch (Fe.ahead ks i) c)) ∧ Below w.heap.size w w' := by
  have U : Hid (Chl w u ks) := hu
  have hil : i < ks.length := (List.getElem?_eq_some_iff.1 hc).1
  have hil' : (i : Int) < (ks.length : Int) := by omega
  obtain ⟨a, cap, rfl, c1, c2, hq⟩ := hu
  obtain ⟨x, rfl, xlt, hcc⟩ := hq (by rintro rfl; simp at hc)
  obtain ⟨d0, d1, d2⟩ := hcc i c hc
  have HC : Hid (∀ (j : Nat) (k : ChV), ks[j]? = some k → Chc w (x.add (j * 3)) k) := hcc
  have XL : Hid (x.block < w.heap.size) := xlt
  clear hq hcc xlt
  obtain ⟨ca, co, cn⟩ := c
  simp only at d0 d1 d2
  have BA : Hid (Below w.heap.size w (w.alloc (Obj.cells #[.int .i64 ca, .int .i64 co, .int .i64 cn] 111))) := (Below.refl _ _).alloc (Nat.le_refl _) _
  by_cases hb : Fe.Bad ⟨ca, co, cn⟩
  · have E : Hid (Fe.rch (Fe.ahead ks i) ⟨ca, co, cn⟩ = 1) := by unfold Hid Fe.rch; rw [if_pos hb]
    unfold Fe.Bad at hb
    simp only at hb
    have D : ca < 0 ∨ (¬ ca < 0 ∧ 5999 < ca) ∨ (¬ ca < 0 ∧ ¬ 5999 < ca ∧ co < -1) ∨ (¬ ca < 0 ∧ ¬ 5999 < ca ∧ ¬ co < -1 ∧ 255 < co) ∨ (¬ ca < 0 ∧ ¬ 5999 < ca ∧ ¬ co < -1 ∧ ¬ 255 < co ∧ cn < -1) ∨ (¬ ca < 0 ∧ ¬ 5999 < ca ∧ ¬ co < -1 ∧ ¬ 255 < co ∧ ¬ cn < -1 ∧ 255 < cn) ∨ (¬ ca < 0 ∧ ¬ 5999 < ca ∧ ¬ co < -1 ∧ ¬ 255 < co ∧ ¬ cn < -1 ∧ ¬ 255 < cn ∧ co = cn) := by omega
    clear hb hc
    rcases D with h | ⟨h1, h⟩ | ⟨h1, h2, h⟩ | ⟨h1, h2, h3, h⟩ | ⟨h1, h2, h3, h4, h⟩ | ⟨h1, h2, h3, h4, h5, h⟩ | ⟨h1, h2, h3, h4, h5, h6, rfl⟩
    all_goals
      go_enter Tryz.func54, Tryz.ntmps54
      go_wp2
      go_ret
      exact ⟨by rw [E.out]; rfl, BA.out⟩
  have E : Hid (Fe.rch (Fe.ahead ks i) ⟨ca, co, cn⟩ = if ca ≤ Fe.ahead ks i then 5 else 0) := by unfold Hid Fe.rch; rw [if_neg hb]
  unfold Fe.Bad at hb
  simp only at hb
  obtain ⟨h1, h2, h3, h4, h5, h6, h7⟩ : ¬ ca < 0 ∧ ¬ 5999 < ca ∧ ¬ co < -1 ∧ ¬ 255 < co ∧ ¬ cn < -1 ∧ ¬ 255 < cn ∧ ¬ co = cn := by omega
  have h7b : (co == cn) = false := beq_eq_false_iff_ne.2 h7
  clear hb hc
  have y0 : (w.alloc (Obj.cells #[.int .i64 ca, .int .i64 co, .int .i64 cn] 111)).cell? ⟨w.heap.size, 0, none⟩ = some (.int .i64 ca) := by simp
  rcases Nat.eq_zero_or_pos i with rfl | hi0
  · have EZ : Hid (Fe.rch (Fe.ahead ks 0) ⟨ca, co, cn⟩ = 0) := by
      unfold Hid
      rw [E.out, if_neg (by show ¬ ca ≤ -1; omega)]
    have e0 : x.add (0 * 3) = x := by simp [Addr.add]
    rw [e0] at d0 d1 d2
    go_enter Tryz.func54, Tryz.ntmps54
    go_upto_region 4 with fail
    generalize (w.alloc (Obj.cells #[.int .i64 ca, .int .i64 co, .int .i64 cn] 111)) = wa at *
    have BQ : Hid (∀ q, Below w.heap.size w (wa.drewN q)) := fun q => ⟨BA.out.os, BA.out.tape, BA.out.output, BA.out.size, BA.out.block⟩
    go_quiet (fail)
    go_wp2
    go_ret
    exact ⟨by rw [EZ.out]; rfl, BQ.out _⟩
  · obtain ⟨j, hj⟩ : ∃ j, j + 1 = i := ⟨i - 1, by omega⟩
    obtain ⟨k, hk⟩ : ∃ k, ks[j]? = some k := ⟨_, List.getElem?_eq_getElem (by omega)⟩
    obtain ⟨k0, -, -⟩ := HC.out j k hk
    have EA : Hid (Fe.ahead ks i = k.at_) := by
      unfold Hid
      rw [← hj]
      show (match ks[j]? with | some c => c.at_ | none => -1) = _
      rw [hk]
    obtain ⟨p, hp⟩ : ∃ p, k.at_ = p := ⟨_, rfl⟩
    rw [hp] at k0 EA
    have z0 : (w.alloc (Obj.cells #[.int .i64 ca, .int .i64 co, .int .i64 cn] 111)).cell? (x.add (j * 3)) = some (.int .i64 p) := by
      rw [BA.out.cell (p := x.add (j * 3)) (by rw [add_block]; exact XL.out)]
      exact k0
    have hj1 : (i : Int) - 1 = (j : Nat) := by omega
    have wj : IntKind.i64.wrap (j : Nat) = (j : Nat) := by rw [IntKind.wrap_i64]; omega
    have hjl : (j : Int) < (ks.length : Int) := by omega
    have hj0 : (0 : Int) < (i : Int) := by omega
    clear hp hk k0 hj
    go_enter Tryz.func54, Tryz.ntmps54
    go_upto_region 4 with fail
    generalize (w.alloc (Obj.cells #[.int .i64 ca, .int .i64 co, .int .i64 cn] 111)) = wa at *
    have BQ : Hid (∀ q, Below w.heap.size w (wa.drewN q)) := fun q => ⟨BA.out.os, BA.out.tape, BA.out.output, BA.out.size, BA.out.block⟩
    by_cases hp : ca ≤ p
    · have EZ : Hid (Fe.rch (Fe.ahead ks i) ⟨ca, co, cn⟩ = 5) := by
        unfold Hid
        rw [E.out, EA.out, if_pos hp]
      go_quiet (fail)
      go_wp2
      go_ret
      exact ⟨by rw [EZ.out]; rfl, BQ.out _⟩
    · have EZ : Hid (Fe.rch (Fe.ahead ks i) ⟨ca, co, cn⟩ = 0) := by
        unfold Hid
        rw [E.out, EA.out, if_neg hp]
      go_quiet (fail)
      go_wp2
      go_ret
      exact ⟨by rw [EZ.out]; rfl, BQ.out _⟩
end Go.Proofs.YtkejdkajfnaieaaGreatDoor

namespace Go.Proofs.YtkejdkajfnaieaaGreatDoor
set_option linter.unusedVariables false
namespace Fe

/-- what is known so far: i triples are read, they are right. -/
structure Ru (l : List UInt8) (m : Int) (a0 i : Nat) (ls : List ChV) (p : Int) (a : Nat) : Prop where
  h0 : Wd.pnum l 0 = some (m, a0)
  mb : 0 ≤ m ∧ m ≤ 6000
  im : (i : Int) ≤ m
  t : ptr l a0 i = some (ls, p, a)
  fi : Fine (fun _ => true) (-1) ls
  pb : 0 ≤ p ∧ p ≤ 5999
  pl : ls = [] → p = 0
  pn : ls ≠ [] → lastAt (-1) ls = p
theorem Ru.len {l : List UInt8} {m : Int} {a0 i : Nat} {ls : List ChV} {p : Int} {a : Nat} (h : Ru l m a0 i ls p a) : ls.length = i := ptr_len h.t
theorem Ru.zero {l : List UInt8} {m : Int} {a0 : Nat} (h : Wd.pnum l 0 = some (m, a0)) (hb : 0 ≤ m ∧ m ≤ 6000) : Ru l m a0 0 [] 0 a0 := ⟨h, hb, hb.1, rfl, trivial, by omega, fun _ => rfl, fun h => absurd rfl h⟩
theorem Ru.all {l : List UInt8} {m : Int} {a0 i : Nat} {ls : List ChV} {p : Int} {a : Nat} (h : Ru l m a0 i ls p a) (hi : (i : Int) = m) : unpack l = some (ls, a) := by
  have := h.h0
  unfold unpack
  rw [this]
  simp only
  rw [if_pos h.mb, show m.toNat = i by omega, h.t]
  simp only
  rw [if_pos (fine_zero.2 h.fi)]
theorem Ru.early {l : List UInt8} {m : Int} {a0 i : Nat} {ls : List ChV} {p : Int} {a : Nat} (h : Ru l m a0 i ls p a) (hi : (i : Int) < m) (hn : ptr l a0 (i + 1) = none) : unpack l = none := by
  unfold unpack
  rw [h.h0]
  simp only
  rw [if_pos h.mb]
  have : ptr l a0 m.toNat = none := by
    have := ptr_none hn (m.toNat - (i + 1))
    rwa [show i + 1 + (m.toNat - (i + 1)) = m.toNat by omega] at this
  rw [this]
theorem Ru.wrong {l : List UInt8} {m : Int} {a0 i : Nat} {ls : List ChV} {p : Int} {a a1 a2 a3 : Nat} {x y z : Int} (h : Ru l m a0 i ls p a) (hi : (i : Int) < m) (h1 : Wd.pnum l a = some (x, a1)) (h2 : Wd.pnum l a1 = some (y, a2)) (h3 : Wd.pnum l a2 = some (z, a3)) (hb : Bad ⟨wrap (p + x), wrap (y - 1), wrap (z - 1)⟩ ∨ (ls ≠ [] ∧ wrap (p + x) ≤ p)) : unpack l = none := by
  refine unp_bad (n := i + 1) h.h0 (by omega) (ptr_more h.t h1 h2 h3) (fun hf => ?_)
  obtain ⟨-, b1, b2, -⟩ := fine_snoc_iff.1 hf
  rcases hb with hb | ⟨hb, hc⟩
  · exact b1 hb
  · rw [h.pn hb] at b2
    simp only at b2
    omega
/-- where a step is too far, or back. -/
theorem Ru.far {l : List UInt8} {m : Int} {a0 i : Nat} {ls : List ChV} {p : Int} {a a1 : Nat} {x : Int} {f1 : Bool} (h : Ru l m a0 i ls p a) (hi : (i : Int) < m) (r : Wd.Rd (Wd.pnum l) a false x a1 f1) (hx : x < 0 ∨ 6000 < x) : unpack l = none := by
  rcases r.2 rfl with ⟨h1, -⟩ | ⟨h1, -⟩
  · cases h2 : Wd.pnum l a1 with
    | none => exact h.early hi (ptr_no2 h.t h1 h2)
    | some y =>
      obtain ⟨y, a2⟩ := y
      cases h3 : Wd.pnum l a2 with
      | none => exact h.early hi (ptr_no3 h.t h1 h2 h3)
      | some z =>
        obtain ⟨z, a3⟩ := z
        have hx6 := (Wd.pnum_le h1).2.2.2
        refine h.wrong hi h1 h2 h3 ?_
        by_cases hl : ls = []
        · have hp := h.pl hl
          refine .inl ?_
          unfold Wd.In64 at hx6
          unfold wrap Bad
          rw [IntKind.wrap_i64, hp]
          simp only
          omega
        · rcases far_bad h.pb hx6 hx (o := wrap (y - 1)) (n := wrap (z - 1)) with hb | hb
          · exact .inl hb
          · exact .inr ⟨hl, hb⟩
  · exact h.early hi (ptr_no1 h.t h1)
/-- what Many has told of a number that is at most 256. -/
def Mo (l : List UInt8) (a : Nat) (f : Bool) (n : Int) (a' : Nat) (f' : Bool) : Prop := (f = true → f' = true) ∧ (f = false → (f' = false ∧ Wd.pnum l a = some (n, a')) ∨ (f' = true ∧ (Wd.pnum l a = none ∨ ∃ x a1, Wd.pnum l a = some (x, a1) ∧ ¬ (0 ≤ x ∧ x ≤ 256))))
theorem ahead_snoc (ls : List ChV) (c : ChV) : ahead (ls ++ [c]) ls.length = lastAt (-1) ls := by
  cases e : ls.length with
  | zero =>
    obtain rfl := List.length_eq_zero_iff.1 e
    rfl
  | succ j =>
    show (match (ls ++ [c])[j]? with | some c => c.at_ | none => -1) = _
    have hl : ls.getLast? = ls[j]? := by rw [List.getLast?_eq_getElem?, e]; rfl
    rw [List.getElem?_append_left (by omega)]
    unfold lastAt
    rw [hl]
    all_goals (cases ls[j]? <;> rfl)
/-- one more triple. -/
theorem Ru.step {l : List UInt8} {m : Int} {a0 i : Nat} {ls : List ChV} {p : Int} {a a1 a2 a3 : Nat} {x o n : Int} {f1 f2 f3 : Bool} (h : Ru l m a0 i ls p a) (hi : (i : Int) < m) (r : Wd.Rd (Wd.pnum l) a false x a1 f1) (hx : 0 ≤ x ∧ x ≤ 6000) (q : Mo l a1 f1 o a2 f2) (ho : 0 ≤ o ∧ o ≤ 256) (s : Mo l a2 f2 n a3 f3) (hn : 0 ≤ n ∧ n ≤ 256) :
    (f3 = true → unpack l = none) ∧ (rch (ahead (ls ++ [⟨p + x, o - 1, n - 1⟩]) i) ⟨p + x, o - 1, n - 1⟩ ≠ 0 → unpack l = none) ∧ (f3 = false → rch (ahead (ls ++ [⟨p + x, o - 1, n - 1⟩]) i) ⟨p + x, o - 1, n - 1⟩ = 0 → Ru l m a0 (i + 1) (ls ++ [⟨p + x, o - 1, n - 1⟩]) (p + x) a3) := by
  have pb := h.pb
  have bad : f3 = true → unpack l = none := by
    intro hf
    rcases r.2 rfl with ⟨h1, rfl⟩ | ⟨h1, -⟩
    · have hx6 := (Wd.pnum_le h1).2.2.2
      rcases q.2 rfl with ⟨rfl, h2⟩ | ⟨-, h2 | ⟨y, a', h2, hy⟩⟩
      · rcases s.2 rfl with ⟨rfl, -⟩ | ⟨-, h3 | ⟨y, a', h3, hy⟩⟩
        · cases hf
        · exact h.early hi (ptr_no3 h.t h1 h2 h3)
        · exact h.wrong hi h1 h2 h3 (.inl (new_bad (Wd.pnum_le h3).2.2.2 hy))
      · exact h.early hi (ptr_no2 h.t h1 h2)
      · cases h3 : Wd.pnum l a' with
        | none => exact h.early hi (ptr_no3 h.t h1 h2 h3)
        | some z =>
          obtain ⟨z, a4⟩ := z
          exact h.wrong hi h1 h2 h3 (.inl (old_bad (Wd.pnum_le h2).2.2.2 hy))
    · exact h.early hi (ptr_no1 h.t h1)
  have good : f3 = false → Wd.pnum l a = some (x, a1) ∧ Wd.pnum l a1 = some (o, a2) ∧ Wd.pnum l a2 = some (n, a3) := by
    intro hf
    have f2f : f2 = false := by
      cases f2 with
      | false => rfl
      | true => have := s.1 rfl; rw [hf] at this; cases this
    have f1f : f1 = false := by
      cases f1 with
      | false => rfl
      | true => have := q.1 rfl; rw [f2f] at this; cases this
    refine ⟨?_, ?_, ?_⟩
    · rcases r.2 rfl with ⟨h1, -⟩ | ⟨-, h1⟩
      · exact h1
      · rw [f1f] at h1; cases h1
    · rcases q.2 f1f with ⟨-, h1⟩ | ⟨h1, -⟩
      · exact h1
      · rw [f2f] at h1; cases h1
    · rcases s.2 f2f with ⟨-, h1⟩ | ⟨h1, -⟩
      · exact h1
      · rw [hf] at h1; cases h1
  have w1 : wrap (p + x) = p + x := wrap_near (by omega)
  have w2 : wrap (o - 1) = o - 1 := wrap_near (by omega)
  have w3 : wrap (n - 1) = n - 1 := wrap_near (by omega)
  have ah : ahead (ls ++ [⟨p + x, o - 1, n - 1⟩]) i = lastAt (-1) ls := by rw [← h.len]; exact ahead_snoc ls _
  refine ⟨bad, fun hr => ?_, fun hf hr => ?_⟩
  · cases hf : f3 with
    | true => exact bad hf
    | false =>
      obtain ⟨h1, h2, h3⟩ := good hf
      refine unp_bad (n := i + 1) h.h0 (by omega) (ptr_more h.t h1 h2 h3) (fun hfi => ?_)
      rw [w1, w2, w3] at hfi
      obtain ⟨-, b1, b2, -⟩ := fine_snoc_iff.1 hfi
      rw [ah] at hr
      unfold rch at hr
      rw [if_neg b1, if_neg (by simp only at b2 ⊢; omega)] at hr
      exact hr rfl
  · obtain ⟨h1, h2, h3⟩ := good hf
    have ht := ptr_more h.t h1 h2 h3
    rw [w1, w2, w3] at ht
    rw [ah] at hr
    unfold rch at hr
    by_cases b1 : Bad ⟨p + x, o - 1, n - 1⟩
    · rw [if_pos b1] at hr; cases hr
    · rw [if_neg b1] at hr
      by_cases b2 : p + x ≤ lastAt (-1) ls
      · rw [if_pos b2] at hr; cases hr
      · refine ⟨h.h0, h.mb, by omega, ht, fine_snoc_iff.2 ⟨h.fi, b1, by simp only; omega, rfl⟩, ?_, fun e => by simp at e, fun _ => lastAt_snoc _ _ _⟩
        unfold Bad at b1
        simp only at b1
        omega
end Fe
end Go.Proofs.YtkejdkajfnaieaaGreatDoor

namespace Go.Proofs.YtkejdkajfnaieaaGreatDoor
open Go.RowKit
set_option linter.unusedVariables false

/-- a change in a block. -/
def Bch (w : World) (b : Nat) (x y z : Int) : Prop := w.heap[b]? = some (.cells #[.int .i64 x, .int .i64 y, .int .i64 z] 111)
theorem Bch.cells {w : World} {b : Nat} {x y z : Int} (h : Bch w b x y z) : w.cell? ⟨b, 0, none⟩ = some (.int .i64 x) ∧ w.cell? ⟨b, 1, none⟩ = some (.int .i64 y) ∧ w.cell? ⟨b, 2, none⟩ = some (.int .i64 z) := by
  unfold Bch at h
  refine ⟨?_, ?_, ?_⟩ <;> simp [World.cell?, h]
theorem Bch.thaw {w : World} {b : Nat} {x y z : Int} (h : Bch w b x y z) (i : Nat) : w.frozen? ⟨b, i, none⟩ = false := by
  unfold Bch at h
  simp [World.frozen?, h]
theorem Bch.lt {w : World} {b : Nat} {x y z : Int} (h : Bch w b x y z) : b < w.heap.size := lt_of_block h
theorem Bch.blk {w w' : World} {b : Nat} {x y z : Int} (h : Bch w b x y z) (g : w'.heap[b]? = w.heap[b]?) : Bch w' b x y z := g.trans h
theorem Bch.s0 {w : World} {b : Nat} {x y z : Int} (h : Bch w b x y z) (n : Int) : Bch (w.setCell ⟨b, 0, none⟩ (.int .i64 n)) b n y z := by
  unfold Bch at *
  rw [heap_setCell_same w b 0 _ _ _ h]
  rfl
theorem Bch.s1 {w : World} {b : Nat} {x y z : Int} (h : Bch w b x y z) (n : Int) : Bch (w.setCell ⟨b, 1, none⟩ (.int .i64 n)) b x n z := by
  unfold Bch at *
  rw [heap_setCell_same w b 1 _ _ _ h]
  rfl
theorem Bch.s2 {w : World} {b : Nat} {x y z : Int} (h : Bch w b x y z) (n : Int) : Bch (w.setCell ⟨b, 2, none⟩ (.int .i64 n)) b x y n := by
  unfold Bch at *
  rw [heap_setCell_same w b 2 _ _ _ h]
  rfl
/-- what is read, where another block turns. -/
theorem Dr.kp {w0 w w' : World} {z a b : Nat} {v : Value} {l : List UInt8} {f : Bool} (h : Dr w0 z v l w a f) (k : Kp b w w') (hb : z < b) : Dr w0 z v l w' a f :=
  h.kept ⟨k.os, k.tape, k.output, k.size, fun i hi => k.block i (by have := h.lt; omega) (by omega)⟩
theorem Cho.kp {w w' : World} {base b : Nat} {v : Value} {ks : List ChV} (h : Cho w base v ks) (k : Kp b w w') (hb : v.ownBlock ≠ some b) : Cho w' base v ks :=
  h.kept (row := some b) ⟨k.os, k.tape, k.output, k.size, fun i hi hn => k.block i hi (fun e => hn (by rw [e]))⟩ (.inr hb)
theorem unp_no {l : List UInt8} (h : Wd.pnum l 0 = none ∨ ∃ x a1, Wd.pnum l 0 = some (x, a1) ∧ ¬ (0 ≤ x ∧ x ≤ 6000)) : Fe.unpack l = none := by
  unfold Fe.unpack
  rcases h with h | ⟨x, a1, h, hx⟩
  · rw [h]
  · rw [h]
    simp only
    rw [if_neg hx]
def UpI (l : List UInt8) (v : Value) (m : Int) (a0 z : Nat) (w : World) (v9 v8 v7 : Value) (W : World) : Prop := ∃ (i : Nat) (ls : List ChV) (p : Int) (a : Nat) (f : Bool), (i : Int) ≤ m ∧ v9 = .int .i64 (i : Nat) ∧ v8 = .int .i64 p ∧ Cho W (z + 1) v7 ls ∧ Dr w z v l W a f ∧ Below w.heap.size w W ∧ ((f = false ∧ Fe.Ru l m a0 i ls p a) ∨ (f = true ∧ Fe.unpack l = none))
/-- what Unpack says. -/
def RuSays (l : List UInt8) (w : World) (e : Ending) (w' : World) : Prop := ∃ u n b, e = .returned (.tuple #[u, .int .i64 n, .bool b]) ∧ Below w.heap.size w w' ∧ ((b = true ∧ ∃ ls a, Fe.unpack l = some (ls, a) ∧ n = ((a : Nat) : Int) ∧ Cho w' w.heap.size u ls) ∨ (b = false ∧ Fe.unpack l = none ∧ n = 0 ∧ u = .slice none 0 0))
set_option maxRecDepth 100000 in
set_option maxHeartbeats 16000000 in
theorem runpack_any (v : Value) (l : List UInt8) (w : World) (h : By w v l) :
    Calls Tryz.prog 14 #[v] w (RuSays l w) := by
  have H : Hid (By w v l) := h
  obtain ⟨av, cv, rfl, -⟩ := h
  obtain ⟨z, hz⟩ : ∃ z, w.heap.size = z := ⟨_, rfl⟩
  have SZ : Hid (w.heap.size = z) := hz
  have BA : Hid (Below w.heap.size w (w.alloc (Obj.cells #[.slice av l.length cv, .int .i64 0, .bool false] 107))) := (Below.refl _ _).alloc (Nat.le_refl _) _
  have D0 : Hid (Dr w z (.slice av l.length cv) l (w.alloc (Obj.cells #[.slice av l.length cv, .int .i64 0, .bool false] 107)) 0 false) := ⟨H.out, by omega, by rw [← hz]; exact BA.out, by rw [← hz]; exact heap_alloc_new w _, Nat.zero_le _⟩
  go_enter Tryz.func14, Tryz.ntmps14
  go_upto_region 2 with fail
  (try rw [hz])
  clear hz
  generalize (w.alloc (Obj.cells #[.slice av l.length cv, .int .i64 0, .bool false] 107)) = w0 at *
  go_wp2_with fail
  refine (rmost_any 6000 (by decide) w z _ l w0 0 false D0.out).mono ?_
  rintro e w1 ⟨m, a0, f0, rfl, m1, m2, hd, hk, -, hf⟩
  have B1 : Hid (Below w.heap.size w w1) := hk.below BA.out BA.out.size (by have := SZ.out; omega)
  have D1 : Hid (Dr w z (.slice av l.length cv) l w1 a0 f0) := hd
  have ST : Hid ((f0 = false ∧ Fe.Ru l m a0 0 [] 0 a0) ∨ (f0 = true ∧ Fe.unpack l = none)) := by
    rcases hf rfl with ⟨h1, h2⟩ | ⟨h1, h2⟩
    · exact .inl ⟨h1, Fe.Ru.zero h2 ⟨m1, m2⟩⟩
    · exact .inr ⟨h1, unp_no h2⟩
  clear hd hk hf D0
  go_wp2_with fail
  go_loopw [9, 8, 7] (fun v9 v8 v7 W => UpI l (.slice av l.length cv) m a0 z w v9 v8 v7 W) (fun v9 _ _ _ => m.toNat - (intOf v9).toNat)
  case atStart => exact ⟨0, [], 0, a0, f0, m1, rfl, rfl, Cho.nil _ _, D1.out, B1.out, ST.out⟩
  case round =>
    obtain ⟨i, ls, p, a, f, hi, rfl, rfl, hcho, hd, hb, hst⟩ := hrel
    have CH : Hid (Cho wr (z + 1) u7 ls) := hcho
    have DR : Hid (Dr w z (.slice av l.length cv) l wr a f) := hd
    have BR : Hid (Below w.heap.size w wr) := hb
    have ZS : Hid (w.heap.size ≤ z) := hd.low
    obtain ⟨c0, c1, c2⟩ := hd.cells
    clear hcho hd hb c0
    rcases hst with ⟨rfl, hru⟩ | ⟨rfl, hno⟩
    case inr =>
      have NO : Hid (Fe.unpack l = none) := hno
      clear hno c1
      by_cases him : (i : Int) < m
      · go_wp2
        go_ret3
        exact ⟨_, _, _, rfl, BR.out, .inr ⟨rfl, NO.out, rfl, rfl⟩⟩
      · go_wp2
        go_ret3
        exact ⟨_, _, _, rfl, BR.out, .inr ⟨rfl, NO.out, rfl, rfl⟩⟩
    have RU : Hid (Fe.Ru l m a0 i ls p a) := hru
    clear hru
    by_cases him : (i : Int) < m
    case neg =>
      have UN : Hid (Fe.unpack l = some (ls, a)) := RU.out.all (by omega)
      go_upto_region 22 with fail
      go_quiet (fail)
      go_wp2
      go_ret3
      exact ⟨_, _, _, rfl, _root_.Go.below_drewN BR.out _, .inl ⟨rfl, ls, a, UN.out, rfl, (CH.out.below (_root_.Go.below_drewN (Below.refl _ _) _)).mono (by have := ZS.out; omega)⟩⟩
    clear c1
    have PB : Hid (0 ≤ p ∧ p ≤ 5999 ∧ ls.length = i ∧ m ≤ 6000) := ⟨RU.out.pb.1, RU.out.pb.2, RU.out.len, m2⟩
    go_wp2_with fail
    refine (rnum_any w z _ l wr a false DR.out).mono ?_
    rintro e w2 ⟨x, a1, f1, rfl, hrd, hd, hk⟩
    have RD : Hid (Wd.Rd (Wd.pnum l) a false x a1 f1) := hrd
    have D2 : Hid (Dr w z (.slice av l.length cv) l w2 a1 f1) := hd
    have B2 : Hid (Below w.heap.size w w2) := hk.below BR.out BR.out.size ZS.out
    have C2 : Hid (Cho w2 (z + 1) u7 ls) := CH.out.kp hk (fun e => by have := (CH.out.block _ e).1; omega)
    clear hrd hd hk c2 DR CH BR
    by_cases x0 : x < 0
    · have NO : Hid (Fe.unpack l = none) := RU.out.far him RD.out (.inl x0)
      go_wp2
      go_ret3
      exact ⟨_, _, _, rfl, B2.out, .inr ⟨rfl, NO.out, rfl, rfl⟩⟩
    by_cases x1 : 6000 < x
    · have NO : Hid (Fe.unpack l = none) := RU.out.far him RD.out (.inr x1)
      go_wp2
      go_ret3
      exact ⟨_, _, _, rfl, B2.out, .inr ⟨rfl, NO.out, rfl, rfl⟩⟩
    have XB : Hid (0 ≤ x ∧ x ≤ 6000) := by unfold Hid; omega
    have PW : IntKind.i64.wrap (p + x) = p + x := by have := PB.out; rw [IntKind.wrap_i64]; omega
    have BC : Hid (Below w2.heap.size w2 (w2.alloc (Obj.cells #[.int .i64 0, .int .i64 0, .int .i64 0] 111))) := (Below.refl _ _).alloc (Nat.le_refl _) _
    obtain ⟨bc, hbc⟩ : ∃ b, w2.heap.size = b := ⟨_, rfl⟩
    have V3 : Hid (Bch (w2.alloc (Obj.cells #[.int .i64 0, .int .i64 0, .int .i64 0] 111)) bc 0 0 0) := by unfold Hid Bch; rw [← hbc]; exact heap_alloc_new w2 _
    have ZB : Hid (z < bc ∧ w.heap.size ≤ bc) := by have h1 := D2.out.lt; have h2 := B2.out.size; unfold Hid; omega
    have LB : Hid (∀ k, u7.ownBlock = some k → k < bc) := fun k hk => by rw [← hbc]; exact (C2.out.block k hk).2
    go_upto_region 12 with fail
    (try rw [hbc])
    generalize (w2.alloc (Obj.cells #[.int .i64 0, .int .i64 0, .int .i64 0] 111)) = w3 at *
    have D3 : Hid (Dr w z (.slice av l.length cv) l w3 a1 f1) := D2.out.kept (BC.out.mono D2.out.lt)
    have B3 : Hid (Below w.heap.size w w3) := B2.out.trans (BC.out.mono B2.out.size)
    have C3 : Hid (Cho w3 (z + 1) u7 ls) := C2.out.below BC.out
    clear D2 B2 C2 BC hbc
    obtain ⟨y0, y1, y2⟩ := V3.out.cells
    have y3 := V3.out.thaw 0
    have K4 : Hid (Kp bc w3 (w3.setCell ⟨bc, 0, none⟩ (.int .i64 (p + x)))) := Kp.set w3 0 _
    have V4 : Hid (Bch (w3.setCell ⟨bc, 0, none⟩ (.int .i64 (p + x))) bc (p + x) 0 0) := V3.out.s0 _
    go_upto_region 13 with fail
    clear y0 y1 y2 y3
    generalize (w3.setCell ⟨bc, 0, none⟩ (.int .i64 (p + x))) = w4 at *
    have D4 : Hid (Dr w z (.slice av l.length cv) l w4 a1 f1) := D3.out.kp K4.out ZB.out.1
    have B4 : Hid (Below w.heap.size w w4) := K4.out.below B3.out B3.out.size ZB.out.2
    have C4 : Hid (Cho w4 (z + 1) u7 ls) := C3.out.kp K4.out (fun e => by have := LB.out _ e; omega)
    clear D3 B3 C3 V3 K4
    go_wp2_with fail
    refine (rmost_any 256 (by decide) w z _ l w4 a1 f1 D4.out).mono ?_
    rintro e w5 ⟨o, a2, f2, rfl, o1, o2, hd, hk, hf1, hf2⟩
    have OB : Hid ((0 ≤ o ∧ o ≤ 256) ∧ Fe.Mo l a1 f1 o a2 f2) := ⟨⟨o1, o2⟩, hf1, hf2⟩
    have D5 : Hid (Dr w z (.slice av l.length cv) l w5 a2 f2) := hd
    have B5 : Hid (Below w.heap.size w w5) := hk.below B4.out B4.out.size ZS.out
    have C5 : Hid (Cho w5 (z + 1) u7 ls) := C4.out.kp hk (fun e => by have := (C4.out.block _ e).1; omega)
    have V5 : Hid (Bch w5 bc (p + x) 0 0) := V4.out.blk (hk.block bc V4.out.lt (by have := ZB.out; omega))
    have OW : IntKind.i64.wrap (o - 1) = o - 1 := by rw [IntKind.wrap_i64]; omega
    clear hd hk hf1 hf2 D4 B4 C4 V4 o1 o2
    obtain ⟨y0, y1, y2⟩ := V5.out.cells
    have y3 := V5.out.thaw 1
    have K6 : Hid (Kp bc w5 (w5.setCell ⟨bc, 1, none⟩ (.int .i64 (o - 1)))) := Kp.set w5 1 _
    have V6 : Hid (Bch (w5.setCell ⟨bc, 1, none⟩ (.int .i64 (o - 1))) bc (p + x) (o - 1) 0) := V5.out.s1 _
    go_upto_region 14 with fail
    clear y0 y1 y2 y3
    generalize (w5.setCell ⟨bc, 1, none⟩ (.int .i64 (o - 1))) = w6 at *
    have D6 : Hid (Dr w z (.slice av l.length cv) l w6 a2 f2) := D5.out.kp K6.out ZB.out.1
    have B6 : Hid (Below w.heap.size w w6) := K6.out.below B5.out B5.out.size ZB.out.2
    have C6 : Hid (Cho w6 (z + 1) u7 ls) := C5.out.kp K6.out (fun e => by have := LB.out _ e; omega)
    clear D5 B5 C5 V5 K6
    go_wp2_with fail
    refine (rmost_any 256 (by decide) w z _ l w6 a2 f2 D6.out).mono ?_
    rintro e w7 ⟨n, a3, f3, rfl, n1, n2, hd, hk, hf1, hf2⟩
    have NB : Hid ((0 ≤ n ∧ n ≤ 256) ∧ Fe.Mo l a2 f2 n a3 f3) := ⟨⟨n1, n2⟩, hf1, hf2⟩
    have D7 : Hid (Dr w z (.slice av l.length cv) l w7 a3 f3) := hd
    have B7 : Hid (Below w.heap.size w w7) := hk.below B6.out B6.out.size ZS.out
    have C7 : Hid (Cho w7 (z + 1) u7 ls) := C6.out.kp hk (fun e => by have := (C6.out.block _ e).1; omega)
    have V7 : Hid (Bch w7 bc (p + x) (o - 1) 0) := V6.out.blk (hk.block bc V6.out.lt (by have := ZB.out; omega))
    have NW : IntKind.i64.wrap (n - 1) = n - 1 := by rw [IntKind.wrap_i64]; omega
    clear hd hk hf1 hf2 D6 B6 C6 V6 n1 n2
    obtain ⟨y0, y1, y2⟩ := V7.out.cells
    have y3 := V7.out.thaw 2
    have K8 : Hid (Kp bc w7 (w7.setCell ⟨bc, 2, none⟩ (.int .i64 (n - 1)))) := Kp.set w7 2 _
    have V8 : Hid (Bch (w7.setCell ⟨bc, 2, none⟩ (.int .i64 (n - 1))) bc (p + x) (o - 1) (n - 1)) := V7.out.s2 _
    go_upto_region 15 with fail
    clear y0 y1 y2 y3
    generalize (w7.setCell ⟨bc, 2, none⟩ (.int .i64 (n - 1))) = w8 at *
    have D8 : Hid (Dr w z (.slice av l.length cv) l w8 a3 f3) := D7.out.kp K8.out ZB.out.1
    have B8 : Hid (Below w.heap.size w w8) := K8.out.below B7.out B7.out.size ZB.out.2
    have C8 : Hid (Cho w8 (z + 1) u7 ls) := C7.out.kp K8.out (fun e => by have := LB.out _ e; omega)
    clear D7 B7 C7 V7 K8
    have STP : Hid ((f3 = true → Fe.unpack l = none) ∧ (Fe.rch (Fe.ahead (ls ++ [⟨p + x, o - 1, n - 1⟩]) i) ⟨p + x, o - 1, n - 1⟩ ≠ 0 → Fe.unpack l = none) ∧ (f3 = false → Fe.rch (Fe.ahead (ls ++ [⟨p + x, o - 1, n - 1⟩]) i) ⟨p + x, o - 1, n - 1⟩ = 0 → Fe.Ru l m a0 (i + 1) (ls ++ [⟨p + x, o - 1, n - 1⟩]) (p + x) a3)) := RU.out.step him RD.out XB.out OB.out.2 OB.out.1 NB.out.2 NB.out.1
    obtain ⟨y0, y1, y2⟩ := V8.out.cells
    have BD : Hid (Below w8.heap.size w8 (w8.alloc (Obj.cells #[.int .i64 (p + x), .int .i64 (o - 1), .int .i64 (n - 1)] 111))) := (Below.refl _ _).alloc (Nat.le_refl _) _
    have OA : Hid (Cho (w8.alloc (Obj.cells #[.int .i64 (p + x), .int .i64 (o - 1), .int .i64 (n - 1)] 111)) (z + 1) u7 ls) := C8.out.alloc _
    have RC : Hid (Chc (w8.alloc (Obj.cells #[.int .i64 (p + x), .int .i64 (o - 1), .int .i64 (n - 1)] 111)) ⟨w8.heap.size, 0, none⟩ ⟨p + x, o - 1, n - 1⟩) := Chc.mk' (w := w8) ⟨p + x, o - 1, n - 1⟩ rfl
    have S8 : Hid (z + 1 ≤ (w8.alloc (Obj.cells #[.int .i64 (p + x), .int .i64 (o - 1), .int .i64 (n - 1)] 111)).heap.size) := Nat.le_trans D8.out.lt BD.out.size
    go_wp2_with (at_builtin; refine app_ch _ rfl _ _ rfl (z + 1) _ ls rfl OA.out w8.heap.size ⟨p + x, o - 1, n - 1⟩ rfl RC.out (by have := PB.out; omega) S8.out ?_)
    intro g cap w9 o9 g9 a9 l9
    have ne : ∀ k, u7.ownBlock = some k → z + 1 ≤ k := fun k hk => (C8.out.block k hk).1
    have G9 : Hid (Below (z + 1) w8 w9) := (BD.out.mono D8.out.lt).grown g9 S8.out ne
    have D9 : Hid (Dr w z (.slice av l.length cv) l w9 a3 f3) := D8.out.kept G9.out
    have B9 : Hid (Below w.heap.size w w9) := B8.out.trans (G9.out.mono (by have := ZS.out; omega))
    have O9 : Hid (Cho w9 (z + 1) (.slice (some ⟨g, 0, none⟩) (ls.length + 1) cap) (ls ++ [⟨p + x, o - 1, n - 1⟩])) := o9
    have V9 : Hid (Bch w9 bc (p + x) (o - 1) (n - 1)) := by
      refine (V8.out.blk (BD.out.block bc V8.out.lt)).blk (g9.block bc (Nat.lt_of_lt_of_le V8.out.lt BD.out.size) (fun e => ?_))
      have := LB.out bc e.symm
      omega
    clear o9 g9 a9 l9 ne y0 y1 y2 OA RC S8 BD
    have CI : Hid ((ls ++ [(⟨p + x, o - 1, n - 1⟩ : ChV)])[i]? = some ⟨p + x, o - 1, n - 1⟩ ∧ (ls ++ [(⟨p + x, o - 1, n - 1⟩ : ChV)]).length ≤ 1000000) := by
      have h1 := PB.out
      refine ⟨?_, by rw [List.length_append]; simp; omega⟩
      rw [← h1.2.2.1, List.getElem?_append_right (Nat.le_refl _)]
      simp
    go_wp2_with fail
    refine (rchange_any _ _ i _ w9 (by have h := O9.out.l; exact h) CI.out.1 CI.out.2).mono ?_
    rintro e w10 ⟨rfl, b10⟩
    obtain ⟨E, hE⟩ : ∃ E, Fe.rch (Fe.ahead (ls ++ [⟨p + x, o - 1, n - 1⟩]) i) ⟨p + x, o - 1, n - 1⟩ = E := ⟨_, rfl⟩
    have HE : Hid (Fe.rch (Fe.ahead (ls ++ [⟨p + x, o - 1, n - 1⟩]) i) ⟨p + x, o - 1, n - 1⟩ = E) := hE
    rw [hE]
    clear hE
    have B10 : Hid (Below w.heap.size w w10) := B9.out.trans (b10.mono B9.out.size)
    have D10 : Hid (Dr w z (.slice av l.length cv) l w10 a3 f3) := D9.out.kept (b10.mono D9.out.lt)
    have O10 : Hid (Cho w10 (z + 1) (.slice (some ⟨g, 0, none⟩) (ls.length + 1) cap) (ls ++ [⟨p + x, o - 1, n - 1⟩])) := O9.out.below b10
    have V10 : Hid (Bch w10 bc (p + x) (o - 1) (n - 1)) := V9.out.blk (b10.block bc V9.out.lt)
    clear b10
    by_cases e0 : E = 0
    case neg =>
      have NO : Hid (Fe.unpack l = none) := STP.out.2.1 (by rw [HE.out]; exact e0)
      have e0b : (E == 0) = false := beq_eq_false_iff_ne.2 e0
      clear e0
      go_wp2
      go_ret3
      exact ⟨_, _, _, rfl, B10.out, .inr ⟨rfl, NO.out, rfl, rfl⟩⟩
    subst e0
    obtain ⟨y0, y1, y2⟩ := V10.out.cells
    have IW : IntKind.i64.wrap ((i : Int) + 1) = (i : Int) + 1 := by have := PB.out; rw [IntKind.wrap_i64]; omega
    have NX : Hid ((f3 = false ∧ Fe.Ru l m a0 (i + 1) (ls ++ [⟨p + x, o - 1, n - 1⟩]) (p + x) a3) ∨ (f3 = true ∧ Fe.unpack l = none)) := by
      cases f3 with
      | false => exact .inl ⟨rfl, STP.out.2.2 rfl HE.out⟩
      | true => exact .inr ⟨rfl, STP.out.1 rfl⟩
    go_wp2
    go_round
    case rel => exact ⟨i + 1, _, p + x, a3, f3, by omega, by go_num, rfl, O10.out, D10.out, B10.out, NX.out⟩
    case measure => simp [intOf]; omega
end Go.Proofs.YtkejdkajfnaieaaGreatDoor

namespace Go.Proofs.YtkejdkajfnaieaaGreatDoor
open Go.RowKit
set_option linter.unusedVariables false

set_option maxRecDepth 100000 in
set_option maxHeartbeats 4000000 in
theorem rat_any (v : Value) (l : List UInt8) (i : Nat) (w : World) (h : By w v l) :
    Calls Tryz.prog 69 #[v, .int .i64 (i : Nat)] w fun e w' => e = .returned (.int .i64 (Fe.bat l i)) ∧ w' = w := by
  obtain ⟨a, c, rfl, h1, h2, h3⟩ := h
  have h2' : c ≤ 9223372036854775807 := by unfold maxLen at h2; omega
  clear h2
  by_cases hi : i < l.length
  · have hi' : (i : Int) < (l.length : Int) := by omega
    obtain ⟨d, hd⟩ : ∃ d, l[i]? = some d := ⟨_, List.getElem?_eq_getElem hi⟩
    have HB : Hid (Fe.bat l i = (d.toNat : Int)) := Fe.bat_in hd
    obtain ⟨x, rfl, hx, hc⟩ := h3 (by rintro rfl; simp at hi)
    have c1 := hc i d hd
    have dl := d.toNat_lt
    have wd : IntKind.i64.wrap (d.toNat : Int) = (d.toNat : Int) := by rw [IntKind.wrap_i64]; omega
    clear hc hd h3
    go_enter Tryz.func69, Tryz.ntmps69
    go_wp2
    go_ret
    exact ⟨by rw [HB.out]; rfl, rfl⟩
  · have hi' : ¬ (i : Int) < (l.length : Int) := by omega
    have HB : Hid (Fe.bat l i = -1) := Fe.bat_out (by omega)
    clear h3
    go_enter Tryz.func69, Tryz.ntmps69
    go_wp2
    go_ret
    exact ⟨by rw [HB.out]; rfl, rfl⟩
/-- what the reference's Diff tells. -/
def RDiffSays (a b : List UInt8) (w w' : World) (v r : Value) : Prop :=
  ((6000 < a.length ∨ 6000 < b.length) ∧ v = .slice none 0 0 ∧ r = .int .i64 4) ∨ (a.length ≤ 6000 ∧ b.length ≤ 6000 ∧ r = .int .i64 0 ∧ Cho w' w.heap.size v (Fe.diff a b))
set_option maxRecDepth 100000 in
set_option maxHeartbeats 8000000 in
theorem rDiff_any (va vb : Value) (a b : List UInt8) (w : World) (ha : By w va a) (hb : By w vb b) :
    Calls Tryz.prog 21 #[va, vb] w fun e w' => ∃ v r, e = .returned (.tuple #[v, r]) ∧ RDiffSays a b w w' v r ∧ Below w.heap.size w w' := by
  have A : Hid (By w va a) := ha
  have B : Hid (By w vb b) := hb
  obtain ⟨pa, ca, rfl, a1, a2, -⟩ := ha
  obtain ⟨pb, cb, rfl, b1, b2, -⟩ := hb
  have a2' : ca ≤ 9223372036854775807 := by unfold maxLen at a2; omega
  have b2' : cb ≤ 9223372036854775807 := by unfold maxLen at b2; omega
  clear a2 b2
  by_cases h1 : 6000 < a.length
  · have h1' : (6000 : Int) < (a.length : Int) := by omega
    have H1 : Hid (6000 < a.length) := h1
    clear h1
    go_enter Tryz.func21, Tryz.ntmps21
    go_wp2
    go_ret2
    exact ⟨_, _, rfl, .inl ⟨.inl H1.out, rfl, rfl⟩, Below.refl _ _⟩
  by_cases h2 : 6000 < b.length
  · have h1' : ¬ (6000 : Int) < (a.length : Int) := by omega
    have h2' : (6000 : Int) < (b.length : Int) := by omega
    have H2 : Hid (6000 < b.length) := h2
    clear h1 h2
    go_enter Tryz.func21, Tryz.ntmps21
    go_wp2
    go_ret2
    exact ⟨_, _, rfl, .inl ⟨.inr H2.out, rfl, rfl⟩, Below.refl _ _⟩
  have h1' : ¬ (6000 : Int) < (a.length : Int) := by omega
  have h2' : ¬ (6000 : Int) < (b.length : Int) := by omega
  have L : Hid (a.length ≤ 6000 ∧ b.length ≤ 6000) := ⟨by omega, by omega⟩
  clear h1 h2
  obtain ⟨m, hm⟩ : ∃ m, max a.length b.length = m := ⟨_, rfl⟩
  have M : Hid (max a.length b.length = m) := hm
  have hm6 : m ≤ 6000 := by omega
  clear hm
  go_enter Tryz.func21, Tryz.ntmps21
  go_wp2_with fail
  go_loopw [6, 7] (fun lv iv W => ∃ n : Nat, n ≤ m ∧ iv = .int .i64 (n : Nat) ∧ Cho W w.heap.size lv (Fe.dif a b n) ∧ Below w.heap.size w W) (fun _ iv _ => m - (intOf iv).toNat)
  case atStart => exact ⟨0, Nat.zero_le _, rfl, Cho.nil _ _, Below.refl _ _⟩
  case round =>
  obtain ⟨n, hn, rfl, ho, hb⟩ := hrel
  have O : Hid (Cho wr w.heap.size u6 (Fe.dif a b n)) := ho
  have BW : Hid (Below w.heap.size w wr) := hb
  clear ho hb
  by_cases he : n = m
  case pos =>
    have na' : ¬ (n : Int) < (a.length : Int) := by have := M.out; omega
    have nb' : ¬ (n : Int) < (b.length : Int) := by have := M.out; omega
    subst he
    go_wp2
    go_ret2
    exact ⟨_, _, rfl, .inr ⟨L.out.1, L.out.2, rfl, by unfold Fe.diff; rw [M.out]; exact O.out⟩, BW.out⟩
  rcases (by have := M.out; omega : n < a.length ∨ (¬ n < a.length ∧ n < b.length)) with na | ⟨na, nb⟩
  case inl =>
    have na' : (n : Int) < (a.length : Int) := by omega
    have hlt : n < m := by omega
    go_wp2_with fail
    refine (rat_any _ a n wr (A.out.below BW.out)).mono ?_
    rintro e w1 ⟨rfl, rfl⟩
    go_wp2_with fail
    refine (rat_any _ b n _ (B.out.below BW.out)).mono ?_
    rintro e w2 ⟨rfl, rfl⟩
    obtain ⟨x, hx⟩ : ∃ x, Fe.bat a n = x := ⟨_, rfl⟩
    obtain ⟨y, hy⟩ : ∃ y, Fe.bat b n = y := ⟨_, rfl⟩
    have XY : Hid (Fe.bat a n = x ∧ Fe.bat b n = y) := ⟨hx, hy⟩
    rw [hx, hy]
    clear hx hy
    have SZ : Hid (w.heap.size ≤ w2.heap.size) := BW.out.size
    by_cases hxy : x = y
    case pos =>
      have DS : Hid (Fe.dif a b (n + 1) = Fe.dif a b n) := Fe.dif_same (by rw [XY.out.1, XY.out.2, hxy])
      subst hxy
      go_wp2
      go_roundw
      case rel => exact ⟨n + 1, by omega, by go_num, by rw [DS.out]; exact O.out, BW.out⟩
      case measure => simp [intOf]; omega
    have DS : Hid (Fe.dif a b (n + 1) = Fe.dif a b n ++ [⟨n, x, y⟩]) := by
      unfold Hid
      rw [Fe.dif_more (by rw [XY.out.1, XY.out.2]; exact hxy), XY.out.1, XY.out.2]
    have hxb : (x == y) = false := beq_eq_false_iff_ne.2 hxy
    have DL : Hid ((Fe.dif a b n).length ≤ 6000) := Nat.le_trans (Fe.dif_len a b n) (by omega)
    go_wp2_with (at_builtin; refine app_ch _ rfl _ _ rfl w.heap.size _ (Fe.dif a b n) rfl (O.out.alloc _) w2.heap.size ⟨n, x, y⟩ rfl (Chc.mk' ⟨n, x, y⟩ rfl) (by have := DL.out; omega) (by have := SZ.out; simp; omega) ?_)
    intro g cap w5 o5 g5 a5 l5
    have O5 : Hid (Cho w5 w.heap.size (.slice (some ⟨g, 0, none⟩) ((Fe.dif a b n).length + 1) cap) (Fe.dif a b n ++ [⟨n, x, y⟩])) := o5
    have B5 : Hid (Below w.heap.size w w5) := (BW.out.alloc SZ.out _).grown g5 (by have := SZ.out; simp; omega) (fun k hk => (O.out.block k hk).1)
    clear o5 g5 a5 l5
    go_wp2
    go_roundw
    case rel => exact ⟨n + 1, by omega, by go_num, by rw [DS.out]; exact O5.out, B5.out⟩
    case measure => simp [intOf]; omega
  case inr =>
    have na' : ¬ (n : Int) < (a.length : Int) := by omega
    have nb' : (n : Int) < (b.length : Int) := by omega
    have hlt : n < m := by omega
    go_wp2_with fail
    refine (rat_any _ a n wr (A.out.below BW.out)).mono ?_
    rintro e w1 ⟨rfl, rfl⟩
    go_wp2_with fail
    refine (rat_any _ b n _ (B.out.below BW.out)).mono ?_
    rintro e w2 ⟨rfl, rfl⟩
    obtain ⟨x, hx⟩ : ∃ x, Fe.bat a n = x := ⟨_, rfl⟩
    obtain ⟨y, hy⟩ : ∃ y, Fe.bat b n = y := ⟨_, rfl⟩
    have XY : Hid (Fe.bat a n = x ∧ Fe.bat b n = y) := ⟨hx, hy⟩
    rw [hx, hy]
    clear hx hy
    have SZ : Hid (w.heap.size ≤ w2.heap.size) := BW.out.size
    by_cases hxy : x = y
    case pos =>
      have DS : Hid (Fe.dif a b (n + 1) = Fe.dif a b n) := Fe.dif_same (by rw [XY.out.1, XY.out.2, hxy])
      subst hxy
      go_wp2
      go_roundw
      case rel => exact ⟨n + 1, by omega, by go_num, by rw [DS.out]; exact O.out, BW.out⟩
      case measure => simp [intOf]; omega
    have DS : Hid (Fe.dif a b (n + 1) = Fe.dif a b n ++ [⟨n, x, y⟩]) := by
      unfold Hid
      rw [Fe.dif_more (by rw [XY.out.1, XY.out.2]; exact hxy), XY.out.1, XY.out.2]
    have hxb : (x == y) = false := beq_eq_false_iff_ne.2 hxy
    have DL : Hid ((Fe.dif a b n).length ≤ 6000) := Nat.le_trans (Fe.dif_len a b n) (by omega)
    go_wp2_with (at_builtin; refine app_ch _ rfl _ _ rfl w.heap.size _ (Fe.dif a b n) rfl (O.out.alloc _) w2.heap.size ⟨n, x, y⟩ rfl (Chc.mk' ⟨n, x, y⟩ rfl) (by have := DL.out; omega) (by have := SZ.out; simp; omega) ?_)
    intro g cap w5 o5 g5 a5 l5
    have O5 : Hid (Cho w5 w.heap.size (.slice (some ⟨g, 0, none⟩) ((Fe.dif a b n).length + 1) cap) (Fe.dif a b n ++ [⟨n, x, y⟩])) := o5
    have B5 : Hid (Below w.heap.size w w5) := (BW.out.alloc SZ.out _).grown g5 (by have := SZ.out; simp; omega) (fun k hk => (O.out.block k hk).1)
    clear o5 g5 a5 l5
    go_wp2
    go_roundw
    case rel => exact ⟨n + 1, by omega, by go_num, by rw [DS.out]; exact O5.out, B5.out⟩
    case measure => simp [intOf]; omega
end Go.Proofs.YtkejdkajfnaieaaGreatDoor

namespace Go.Proofs.YtkejdkajfnaieaaGreatDoor
open Go.RowKit

set_option maxHeartbeats 400000 in
theorem within_yes (x m : Int) (w : World) (h1 : -m ≤ x) (h2 : x ≤ m) (m0 : 0 ≤ m) (m1 : m ≤ 2000000000000) :
    Calls Tryz.prog 228 #[.int .i64 x, .int .i64 m] w fun e w' => e = .returned (.bool true) ∧ w' = w := by
  go_enter Tryz.func228, Tryz.ntmps228
  go_wp2
  go_ret
  exact ⟨rfl, rfl⟩

set_option maxHeartbeats 400000 in
theorem within_no (x m : Int) (w : World) (h : x < -m ∨ m < x) (m0 : 0 ≤ m) (m1 : m ≤ 2000000000000) :
    Calls Tryz.prog 228 #[.int .i64 x, .int .i64 m] w fun e w' => e = .returned (.bool false) ∧ w' = w := by
  rcases h with h | h
  · have h' : ¬ -m ≤ x := by omega
    go_enter Tryz.func228, Tryz.ntmps228
    go_wp2
    go_ret
    exact ⟨rfl, rfl⟩
  · have h' : -m ≤ x := by omega
    have h'' : ¬ x ≤ m := by omega
    go_enter Tryz.func228, Tryz.ntmps228
    go_wp2
    go_ret
    exact ⟨rfl, rfl⟩

end Go.Proofs.YtkejdkajfnaieaaGreatDoor

namespace Go.Proofs.YtkejdkajfnaieaaGreatDoor.Ma

/-- r is the root of n, rounded down. -/
def Sq (r n : Int) : Prop := 0 ≤ r ∧ r * r ≤ n ∧ n < (r + 1) * (r + 1)

def pw (k : Nat) : Int := 2 ^ k

theorem pw_zero : pw 0 = 1 := rfl
theorem pw_succ (k : Nat) : pw (k + 1) = 2 * pw k := by unfold pw; rw [Int.pow_succ]; omega
theorem pw_pos (k : Nat) : 1 ≤ pw k := by
  induction k with
  | zero => rw [pw_zero]; omega
  | succ k ih => rw [pw_succ]; omega
theorem pw_mono (a b : Nat) (h : a ≤ b) : pw a ≤ pw b := by
  induction b with
  | zero => have : a = 0 := by omega
            subst this; exact Int.le_refl _
  | succ b ih =>
    by_cases e : a = b + 1
    · subst e; exact Int.le_refl _
    · have := ih (by omega)
      have p := pw_pos b
      rw [pw_succ]; omega
theorem pw_32 : pw 32 = 4294967296 := by unfold pw; decide

theorem mul_mono (a b : Int) (h0 : 0 ≤ a) (h : a ≤ b) : a * a ≤ b * b :=
  Int.mul_le_mul h h h0 (by omega)

theorem sq_expand (r d : Int) : (r + d) * (r + d) = r * r + 2 * (r * d) + d * d := by
  rw [Int.add_mul, Int.mul_add, Int.mul_add, Int.mul_comm d r]; omega

theorem lt_of_sq (a b : Int) (h0 : 0 ≤ b) (h : a * a < b * b) : a < b := by
  by_cases hc : a < b
  · exact hc
  · have := mul_mono b a h0 (by omega)
    omega

theorem le_of_sq (a b : Int) (h0 : 0 ≤ b) (h : a * a ≤ b * b) : a ≤ b := by
  have e := sq_expand b 1
  have : a < b + 1 := lt_of_sq a (b + 1) (by omega) (by omega)
  omega

theorem sq_uniq (r s n : Int) (h : Sq r n) (k : Sq s n) : r = s := by
  obtain ⟨h0, h1, h2⟩ := h
  obtain ⟨k0, k1, k2⟩ := k
  have a := lt_of_sq r (s + 1) (by omega) (by omega)
  have b := lt_of_sq s (r + 1) (by omega) (by omega)
  omega

theorem sq_self (m : Int) (h : 0 ≤ m) : Sq m (m * m) := by
  have e := sq_expand m 1
  exact ⟨h, Int.le_refl _, by omega⟩

/-- a root of an int is below this. -/
theorem root_small (r n : Int) (h : r * r ≤ n) (hn : n ≤ 9223372036854775807) : r ≤ 3037000499 := by
  have := lt_of_sq r 3037000500 (by omega) (by omega)
  omega

theorem test_iff (x n : Int) (hx : 0 < x) : x ≤ n / x ↔ x * x ≤ n := Int.le_ediv_iff_mul_le hx

end Go.Proofs.YtkejdkajfnaieaaGreatDoor.Ma

namespace Go.Proofs.YtkejdkajfnaieaaGreatDoor
open Go.RowKit

set_option maxHeartbeats 400000 in
theorem root_neg (n : Int) (w : World) (h : n < 0) :
    Calls Tryz.prog 229 #[.int .i64 n] w fun e w' => e = .returned (.tuple #[.int .i64 0, .iface 97 (.int .i64 1)]) ∧ w' = w := by
  go_enter Tryz.func229, Tryz.ntmps229
  go_wp2
  go_ret2
  exact ⟨rfl, rfl⟩

theorem half_pw (k : Nat) : Ma.pw (k + 1) / 2 = Ma.pw k := by rw [Ma.pw_succ]; omega

set_option maxHeartbeats 400000 in
theorem root_any (n : Int) (w : World) (h0 : 0 ≤ n) (h1 : n ≤ 9223372036854775807) :
    Calls Tryz.prog 229 #[.int .i64 n] w fun e w' => ∃ r, Ma.Sq r n ∧ e = .returned (.tuple #[.int .i64 r, .nilIface]) ∧ w' = w := by
  go_enter Tryz.func229, Tryz.ntmps229
  go_wp2
  go_loop [4, 5] (fun root bit => ∃ (k : Nat) (r b : Int), k ≤ 32 ∧ root = .int .i64 r ∧ bit = .int .i64 b ∧ b = Ma.pw k / 2 ∧ 0 ≤ r ∧ r * r ≤ n ∧ n < (r + Ma.pw k) * (r + Ma.pw k)) (fun _ bit => (intOf bit).toNat)
  case atStart => exact ⟨32, 0, 2147483648, by omega, rfl, rfl, by rw [Ma.pw_32]; omega, by omega, by omega, by rw [Ma.pw_32]; omega⟩
  case round =>
    obtain ⟨k, r, b, hk, rfl, rfl, hb, hr, hl, hu⟩ := hrel
    by_cases hz : k = 0
    · subst hz
      have hb0 : b = 0 := by rw [hb, Ma.pw_zero]; omega
      subst hb0
      clear hb
      rw [Ma.pw_zero] at hu
      go_wp2
      go_ret2
      exact ⟨r, ⟨hr, hl, hu⟩, rfl, rfl⟩
    · obtain ⟨j, rfl⟩ : ∃ j, k = j + 1 := ⟨k - 1, by omega⟩
      have hp := Ma.pw_pos j
      have hq := Ma.pw_mono j 31 (by omega)
      have e31 : Ma.pw 31 = 2147483648 := by unfold Ma.pw; decide
      rw [e31] at hq
      clear e31
      rw [half_pw] at hb
      rw [Ma.pw_succ] at hu
      have hb1 : 0 < b := by omega
      have hb2 : b ≤ 2147483648 := by omega
      have hr2 := Ma.root_small r n hl h1
      have hsum : r + 2 * Ma.pw j = r + b + b := by omega
      rw [hsum] at hu
      clear hsum
      have Hb : Hid (b = Ma.pw j) := hb
      have HH : Hid (b / 2 = Ma.pw j / 2) := by rw [hb]; rfl
      clear hb hp hq
      have Hu : Hid (n < (r + b + b) * (r + b + b)) := hu
      have Hl : Hid (r * r ≤ n) := hl
      clear hu hl
      by_cases ht : r + b ≤ n / (r + b)
      · have Ht : Hid ((r + b) * (r + b) ≤ n) := (Ma.test_iff (r + b) n (by omega)).1 ht
        go_wp2
        go_round
        case rel => exact ⟨j, r + b, b / 2, by omega, rfl, rfl, HH, by omega, Ht, by rw [← Hb]; exact Hu⟩
        case measure => simp [intOf]; omega
      · have Ht : Hid (n < (r + b) * (r + b)) := by
          have := mt (Ma.test_iff (r + b) n (by omega)).2 ht
          unfold Hid; omega
        go_wp2
        go_round
        case rel => exact ⟨j, r, b / 2, by omega, rfl, rfl, HH, by omega, Hl, by rw [← Hb]; exact Ht⟩
        case measure => simp [intOf]; omega

end Go.Proofs.YtkejdkajfnaieaaGreatDoor

namespace Go.Proofs.YtkejdkajfnaieaaGreatDoor
open Go.RowKit

def In6 (x : Int) : Prop := -1000000 ≤ x ∧ x ≤ 1000000

section
variable (a b c d : Int) (w : World)
theorem idx0 : (Instr.index 282 (.agg #[.int .i64 a, .int .i64 b, .int .i64 c, .int .i64 d]) (.int .i64 0)).run Tryz.prog w = .ok (.int .i64 a) w := by kernel_rfl
theorem idx1 : (Instr.index 282 (.agg #[.int .i64 a, .int .i64 b, .int .i64 c, .int .i64 d]) (.int .i64 1)).run Tryz.prog w = .ok (.int .i64 b) w := by kernel_rfl
theorem idx2 : (Instr.index 282 (.agg #[.int .i64 a, .int .i64 b, .int .i64 c, .int .i64 d]) (.int .i64 2)).run Tryz.prog w = .ok (.int .i64 c) w := by kernel_rfl
theorem idx3 : (Instr.index 282 (.agg #[.int .i64 a, .int .i64 b, .int .i64 c, .int .i64 d]) (.int .i64 3)).run Tryz.prog w = .ok (.int .i64 d) w := by kernel_rfl
end

theorem sqb (x : Int) (h1 : -2000000 ≤ x) (h2 : x ≤ 2000000) : 0 ≤ x * x ∧ x * x ≤ 4000000000000 := by
  rcases Int.le_total 0 x with h | h
  · exact ⟨Int.mul_nonneg h h, Ma.mul_mono x 2000000 h h2⟩
  · have e : x * x = (-x) * (-x) := by rw [Int.neg_mul_neg]
    rw [e]
    exact ⟨Int.mul_nonneg (by omega) (by omega), Ma.mul_mono (-x) 2000000 (by omega) (by omega)⟩

set_option maxHeartbeats 400000 in
theorem far_ok (a b c d : Int) (w : World) (ha : In6 a) (hb : In6 b) (hc : In6 c) (hd : In6 d) :
    Calls Tryz.prog 207 #[.int .i64 a, .int .i64 b, .int .i64 c, .int .i64 d] w fun e w' => ∃ r, Ma.Sq r ((a - c) * (a - c) + (b - d) * (b - d)) ∧ e = .returned (.tuple #[.int .i64 r, .nilIface]) ∧ w' = w := by
  obtain ⟨ha1, ha2⟩ := ha
  obtain ⟨hb1, hb2⟩ := hb
  obtain ⟨hc1, hc2⟩ := hc
  obtain ⟨hd1, hd2⟩ := hd
  have i0 := idx0 a b c d
  have i1 := idx1 a b c d
  have i2 := idx2 a b c d
  have i3 := idx3 a b c d
  go_enter Tryz.func207, Tryz.ntmps207
  go_wp2
  go_loop [19] (fun i => ∃ k : Nat, k ≤ 4 ∧ i = .int .i64 k) (fun i => 4 - (intOf i).toNat)
  case atStart => exact ⟨0, by omega, rfl⟩
  case round =>
    obtain ⟨k, hk, rfl⟩ := hrel
    match k, hk with
    | 0, _ =>
      go_wp2_with (go_at_call 228; refine (within_yes _ _ _ (by omega) (by omega) (by omega) (by omega)).mono ?_; rintro e w' ⟨rfl, rfl⟩)
      go_round
      case rel => exact ⟨1, by omega, rfl⟩
      case measure => simp [intOf]
    | 1, _ =>
      go_wp2_with (go_at_call 228; refine (within_yes _ _ _ (by omega) (by omega) (by omega) (by omega)).mono ?_; rintro e w' ⟨rfl, rfl⟩)
      go_round
      case rel => exact ⟨2, by omega, rfl⟩
      case measure => simp [intOf]
    | 2, _ =>
      go_wp2_with (go_at_call 228; refine (within_yes _ _ _ (by omega) (by omega) (by omega) (by omega)).mono ?_; rintro e w' ⟨rfl, rfl⟩)
      go_round
      case rel => exact ⟨3, by omega, rfl⟩
      case measure => simp [intOf]
    | 3, _ =>
      go_wp2_with (go_at_call 228; refine (within_yes _ _ _ (by omega) (by omega) (by omega) (by omega)).mono ?_; rintro e w' ⟨rfl, rfl⟩)
      go_round
      case rel => exact ⟨4, by omega, rfl⟩
      case measure => simp [intOf]
    | 4, _ =>
      have s1 := sqb (a - c) (by omega) (by omega)
      have s2 := sqb (b - d) (by omega) (by omega)
      obtain ⟨s10, s11⟩ := s1
      obtain ⟨s20, s21⟩ := s2
      go_wp2_with (go_at_call 229; refine (root_any _ _ (by omega) (by omega)).mono ?_; rintro e w' ⟨r, hr, rfl, rfl⟩)
      go_ret2
      exact ⟨r, hr, rfl, rfl⟩

end Go.Proofs.YtkejdkajfnaieaaGreatDoor

namespace Go.Proofs.YtkejdkajfnaieaaGreatDoor
set_option linter.unusedVariables false

/-- the greatest number up to k whose square is not above n. -/
def rt : Nat → Int → Int
  | 0, _ => 0
  | k + 1, n => if ((k : Int) + 1) * ((k : Int) + 1) ≤ n then (k : Int) + 1 else rt k n
theorem rt_eq : ∀ (k : Nat) (r n : Int), Ma.Sq r n → r ≤ k → rt k n = r
  | 0, r, n, h, hk => by
    have := h.1
    show (0 : Int) = r
    omega
  | k + 1, r, n, h, hk => by
    unfold rt
    split
    · rename_i hc
      have := Ma.lt_of_sq ((k : Int) + 1) (r + 1) (by have := h.1; omega) (by have := h.2.2; omega)
      omega
    · rename_i hc
      have := Ma.lt_of_sq r ((k : Int) + 1) (by omega) (by have := h.2.1; omega)
      exact rt_eq k r n h (by omega)
theorem rt_ge : ∀ (k : Nat) (n : Int), 0 ≤ rt k n ∧ rt k n ≤ k
  | 0, n => by unfold rt; omega
  | k + 1, n => by
    unfold rt
    have := rt_ge k n
    split <;> omega
/-- how far two cells of a field are. -/
def farN (W a b : Nat) : Int := rt 200 ((((a % W : Nat) : Int) - ((b % W : Nat) : Int)) * (((a % W : Nat) : Int) - ((b % W : Nat) : Int)) + (((a / W : Nat) : Int) - ((b / W : Nat) : Int)) * (((a / W : Nat) : Int) - ((b / W : Nat) : Int)))
theorem farN_ge (W a b : Nat) : 0 ≤ farN W a b ∧ farN W a b ≤ 200 := rt_ge 200 _
theorem sq_abs_le (x : Int) (m : Int) (h1 : -m ≤ x) (h2 : x ≤ m) : x * x ≤ m * m := by
  rcases Int.le_total 0 x with h | h
  · exact Ma.mul_mono x m h h2
  · have e : x * x = (-x) * (-x) := by rw [Int.neg_mul_neg]
    rw [e]
    exact Ma.mul_mono (-x) m (by omega) (by omega)
theorem farN_eq {W a b : Nat} {r : Int} (hW : W ≤ 12) (ha : a ≤ 144) (hb : b ≤ 144) (hW0 : 0 < W)
    (h : Ma.Sq r ((((a % W : Nat) : Int) - ((b % W : Nat) : Int)) * (((a % W : Nat) : Int) - ((b % W : Nat) : Int)) + (((a / W : Nat) : Int) - ((b / W : Nat) : Int)) * (((a / W : Nat) : Int) - ((b / W : Nat) : Int)))) : farN W a b = r := by
  unfold farN
  refine rt_eq 200 r _ h ?_
  have a1 := Nat.mod_lt a hW0
  have b1 := Nat.mod_lt b hW0
  have a2 := Nat.div_le_self a W
  have b2 := Nat.div_le_self b W
  generalize a / W = x at *
  generalize b / W = y at *
  generalize a % W = x' at *
  generalize b % W = y' at *
  have s1 := sq_abs_le ((x' : Int) - (y' : Int)) 12 (by omega) (by omega)
  have s2 := sq_abs_le ((x : Int) - (y : Int)) 144 (by omega) (by omega)
  have := h.2.1
  exact Ma.le_of_sq r 200 (by omega) (by omega)

theorem small_in6 {n : Nat} (h : n ≤ 144) : In6 (n : Nat) := ⟨by omega, by omega⟩
end Go.Proofs.YtkejdkajfnaieaaGreatDoor

namespace Go.Proofs.YtkejdkajfnaieaaGreatDoor
open Go.RowKit
set_option linter.unusedVariables false

/-- v is a world. -/
def Wl (w : World) (v : Value) (W : WV) : Prop := ∃ u1 u2 u3 u4 u5, v = .agg #[.int .i64 W.turn, .int .i64 W.next, .int .i64 W.wide, .int .i64 W.high, u1, u2, u3, u4, u5] ∧ Ro w u1 W.gs ∧ Ro w u2 W.os ∧ Ro w u3 W.gold ∧ Unl w u4 W.us ∧ Jbl w u5 W.qs
theorem Wl.below {w w' : World} {v : Value} {W : WV} (h : Wl w v W) (hb : Below w.heap.size w w') : Wl w' v W := by
  obtain ⟨u1, u2, u3, u4, u5, h1, h2, h3, h4, h5, h6⟩ := h
  exact ⟨u1, u2, u3, u4, u5, h1, h2.below hb, h3.below hb, h4.below hb, h5.below hb, h6.below hb⟩
/-- a world in a box. -/
structure Bw (w : World) (z : Nat) (W : WV) (u1 u2 u3 u4 u5 : Value) : Prop where
  c0 : w.cell? ⟨z, 0, none⟩ = some (.int .i64 W.turn)
  c1 : w.cell? ⟨z, 1, none⟩ = some (.int .i64 W.next)
  c2 : w.cell? ⟨z, 2, none⟩ = some (.int .i64 W.wide)
  c3 : w.cell? ⟨z, 3, none⟩ = some (.int .i64 W.high)
  c4 : w.cell? ⟨z, 4, none⟩ = some u1
  c5 : w.cell? ⟨z, 5, none⟩ = some u2
  c6 : w.cell? ⟨z, 6, none⟩ = some u3
  c7 : w.cell? ⟨z, 7, none⟩ = some u4
  c8 : w.cell? ⟨z, 8, none⟩ = some u5
theorem Bw.lt {w : World} {z : Nat} {W : WV} {u1 u2 u3 u4 u5 : Value} (h : Bw w z W u1 u2 u3 u4 u5) : z < w.heap.size := cell_lt h.c0
theorem Bw.below {w w' : World} {z n : Nat} {W : WV} {u1 u2 u3 u4 u5 : Value} (h : Bw w z W u1 u2 u3 u4 u5) (hb : Below n w w') (hn : z < n) : Bw w' z W u1 u2 u3 u4 u5 :=
  ⟨by rw [hb.cell (p := ⟨z, 0, none⟩) hn]; exact h.c0, by rw [hb.cell (p := ⟨z, 1, none⟩) hn]; exact h.c1, by rw [hb.cell (p := ⟨z, 2, none⟩) hn]; exact h.c2, by rw [hb.cell (p := ⟨z, 3, none⟩) hn]; exact h.c3, by rw [hb.cell (p := ⟨z, 4, none⟩) hn]; exact h.c4, by rw [hb.cell (p := ⟨z, 5, none⟩) hn]; exact h.c5, by rw [hb.cell (p := ⟨z, 6, none⟩) hn]; exact h.c6, by rw [hb.cell (p := ⟨z, 7, none⟩) hn]; exact h.c7, by rw [hb.cell (p := ⟨z, 8, none⟩) hn]; exact h.c8⟩
theorem Bw.mk' {w : World} {z : Nat} (W : WV) (u1 u2 u3 u4 u5 : Value) (hz : w.heap.size = z) : Bw (w.alloc (.cells #[.int .i64 W.turn, .int .i64 W.next, .int .i64 W.wide, .int .i64 W.high, u1, u2, u3, u4, u5] 29)) z W u1 u2 u3 u4 u5 := by
  subst hz
  constructor <;> simp
/-- the world with which nothing begins. -/
def WV.zero : WV := ⟨0, 0, 0, 0, [], [], [], [], []⟩
end Go.Proofs.YtkejdkajfnaieaaGreatDoor

namespace Go.Proofs.YtkejdkajfnaieaaGreatDoor.Tx

/-- a text at each byte c. -/
def cut (c : UInt8) : List UInt8 → List (List UInt8)
  | [] => [[]]
  | b :: r => if b = c then [] :: cut c r else match cut c r with
    | [] => [[b]]
    | w :: ws => (b :: w) :: ws
/-- and back. -/
def join (c : UInt8) : List (List UInt8) → List UInt8
  | [] => []
  | [w] => w
  | w :: v :: ws => w ++ c :: join c (v :: ws)

theorem cut_ne (c : UInt8) (l : List UInt8) : cut c l ≠ [] := by
  cases l with
  | nil => simp [cut]
  | cons b r =>
    unfold cut
    split
    · simp
    · split <;> simp
theorem join_cons {c : UInt8} {w : List UInt8} {ws : List (List UInt8)} (h : ws ≠ []) : join c (w :: ws) = w ++ c :: join c ws := by
  cases ws with
  | nil => exact absurd rfl h
  | cons v ws => rfl
theorem join_cut (c : UInt8) (l : List UInt8) : join c (cut c l) = l := by
  induction l with
  | nil => rfl
  | cons b r ih =>
    unfold cut
    split
    · rename_i h
      rw [join_cons (cut_ne c r), ih, h]
      rfl
    · cases hw : cut c r with
      | nil => exact absurd hw (cut_ne c r)
      | cons w ws =>
        rw [hw] at ih
        cases ws with
        | nil => rw [← ih]; rfl
        | cons v ws => rw [← ih]; rfl
/-- no word has the byte. -/
theorem cut_free (c : UInt8) (l : List UInt8) : ∀ w ∈ cut c l, c ∉ w := by
  induction l with
  | nil => intro w hw; simp [cut] at hw; subst hw; simp
  | cons b r ih =>
    intro w hw
    unfold cut at hw
    split at hw
    · rcases List.mem_cons.1 hw with rfl | hw
      · simp
      · exact ih w hw
    · rename_i hb
      cases hc : cut c r with
      | nil => exact absurd hc (cut_ne c r)
      | cons v vs =>
        rw [hc] at hw ih
        rcases List.mem_cons.1 hw with rfl | hw
        · intro h
          rcases List.mem_cons.1 h with h | h
          · exact hb h.symm
          · exact ih v (List.mem_cons_self ..) h
        · exact ih w (List.mem_cons_of_mem _ hw)
theorem cut_cons {c b : UInt8} {r w : List UInt8} {ws : List (List UInt8)} (h : b ≠ c) (hr : cut c r = w :: ws) : cut c (b :: r) = (b :: w) :: ws := by
  rw [cut, if_neg h, hr]
theorem cut_word {c : UInt8} {w : List UInt8} (h : c ∉ w) : cut c w = [w] := by
  induction w with
  | nil => rfl
  | cons b w ih =>
    rw [List.mem_cons, not_or] at h
    unfold cut
    rw [if_neg (fun e => h.1 e.symm), ih h.2]
theorem cut_app {c : UInt8} {w : List UInt8} (h : c ∉ w) (r : List UInt8) : cut c (w ++ c :: r) = w :: cut c r := by
  induction w with
  | nil => simp [cut]
  | cons b w ih =>
    rw [List.mem_cons, not_or] at h
    rw [List.cons_append, cut_cons (fun e => h.1 e.symm) (ih h.2)]
theorem cut_join {c : UInt8} : ∀ {ws : List (List UInt8)}, ws ≠ [] → (∀ w ∈ ws, c ∉ w) → cut c (join c ws) = ws
  | [], h, _ => absurd rfl h
  | [w], _, h => cut_word (h w (List.mem_cons_self ..))
  | w :: v :: ws, _, h => by
    rw [join_cons (by simp), cut_app (h w (List.mem_cons_self ..)), cut_join (by simp) (fun x hx => h x (List.mem_cons_of_mem _ hx))]

/-- a digit. -/
def isDig (b : UInt8) : Bool := decide (48 ≤ b.toNat) && decide (b.toNat ≤ 57)
/-- the digits of a number. -/
def dig (n : Nat) : List UInt8 := if n < 10 then [(48 + n).toUInt8] else dig (n / 10) ++ [(48 + n % 10).toUInt8]
termination_by n
/-- the number of some digits. -/
def val (l : List UInt8) : Nat := l.foldl (fun n b => n * 10 + (b.toNat - 48)) 0
/-- a whole number of at most so many digits, without a needless 0. -/
def whole (most : Nat) (l : List UInt8) : Option Nat := if l = [] ∨ most < l.length ∨ (l.head? = some 48 ∧ 1 < l.length) then none else if l.all isDig then some (val l) else none

theorem dig_small {n : Nat} (h : n < 10) : dig n = [(48 + n).toUInt8] := by rw [dig, if_pos h]
theorem dig_big {n : Nat} (h : ¬ n < 10) : dig n = dig (n / 10) ++ [(48 + n % 10).toUInt8] := by rw [dig, if_neg h]
theorem sign_nat {d : Nat} (h : d < 10) : ((48 + d).toUInt8).toNat = 48 + d := by
  show (48 + d) % 256 = 48 + d
  omega
theorem val_snoc (l : List UInt8) (b : UInt8) : val (l ++ [b]) = val l * 10 + (b.toNat - 48) := by
  unfold val
  rw [List.foldl_append]
  rfl
theorem dig_ne (n : Nat) : dig n ≠ [] := by
  rw [dig]
  split <;> simp
theorem dig_all (n : Nat) : (dig n).all isDig = true := by
  induction n using Nat.strongRecOn with
  | ind n ih =>
    by_cases h : n < 10
    · rw [dig_small h]
      simp [isDig]
      omega
    · rw [dig_big h, List.all_append, ih (n / 10) (by omega)]
      simp [isDig]
      omega
theorem val_dig (n : Nat) : val (dig n) = n := by
  induction n using Nat.strongRecOn with
  | ind n ih =>
    by_cases h : n < 10
    · rw [dig_small h]
      show 0 * 10 + (((48 + n).toUInt8).toNat - 48) = n
      rw [sign_nat h]
      omega
    · rw [dig_big h, val_snoc, ih (n / 10) (by omega), sign_nat (show n % 10 < 10 by omega)]
      omega
theorem dig_head (n : Nat) : (dig n).head? = some 48 → n = 0 := by
  induction n using Nat.strongRecOn with
  | ind n ih =>
    intro h
    by_cases hn : n < 10
    · rw [dig_small hn] at h
      simp only [List.head?_cons, Option.some.injEq] at h
      have h2 : ((48 + n).toUInt8).toNat = 48 := by rw [h]; rfl
      rw [sign_nat hn] at h2
      omega
    · rw [dig_big hn] at h
      cases hd : dig (n / 10) with
      | nil => exact absurd hd (dig_ne _)
      | cons b r =>
        rw [hd] at h
        have := ih (n / 10) (by omega) (by rw [hd]; simpa using h)
        omega
theorem dig_len {n : Nat} : ∀ {k : Nat}, 0 < k → n < 10 ^ k → (dig n).length ≤ k := by
  induction n using Nat.strongRecOn with
  | ind n ih =>
    intro k hk h
    by_cases hn : n < 10
    · rw [dig_small hn]
      simp
      omega
    · rw [dig_big hn, List.length_append]
      cases k with
      | zero => omega
      | succ k =>
        have hk0 : 0 < k := by
          rcases Nat.eq_zero_or_pos k with rfl | hp
          · simp at h; omega
          · exact hp
        have h2 : n / 10 < 10 ^ k := by
          rw [Nat.pow_succ] at h
          omega
        have := ih (n / 10) (by omega) hk0 h2
        simp
        omega
theorem whole_dig {n most : Nat} (h0 : 0 < most) (h : n < 10 ^ most) : whole most (dig n) = some n := by
  unfold whole
  rw [if_neg, if_pos (dig_all n), val_dig]
  rintro (h1 | h1 | ⟨h1, h2⟩)
  · exact dig_ne n h1
  · have := dig_len h0 h
    omega
  · have := dig_head n h1
    subst this
    rw [dig_small (by decide)] at h2
    simp at h2
theorem dig_val : ∀ (k : Nat) (l : List UInt8), l.length = k → l ≠ [] → ¬ (l.head? = some 48 ∧ 1 < l.length) → l.all isDig = true → dig (val l) = l := by
  intro k
  induction k with
  | zero => intro l h1 h2; exact absurd (List.length_eq_zero_iff.1 h1) h2
  | succ k ih =>
    intro l hl hne hz hd
    obtain ⟨r, b, rfl⟩ : ∃ r b, l = r ++ [b] := ⟨l.dropLast, l.getLast hne, (List.dropLast_concat_getLast hne).symm⟩
    have hb : isDig b = true := by
      rw [List.all_append] at hd
      simp at hd
      exact hd.2
    have hbn : 48 ≤ b.toNat ∧ b.toNat ≤ 57 := by
      unfold isDig at hb
      simpa using hb
    have back : ((48 + (b.toNat - 48)).toUInt8) = b := by
      rw [show 48 + (b.toNat - 48) = b.toNat by omega]
      simp
    rw [val_snoc]
    by_cases hr : r = []
    · subst hr
      rw [show val [] = 0 from rfl, Nat.zero_mul, Nat.zero_add, dig_small (by omega), back]
      rfl
    · have hrd : r.all isDig = true := by
        rw [List.all_append] at hd
        simp at hd
        rw [List.all_eq_true]
        exact hd.1
      have hrl : r.length = k := by simpa using hl
      have hhead : (r ++ [b]).head? = r.head? := by
        cases r with
        | nil => exact absurd rfl hr
        | cons a r => rfl
      have hr0 : 0 < r.length := List.length_pos_iff.2 hr
      have hz' : ¬ r.head? = some 48 := fun h => hz ⟨by rw [hhead]; exact h, by simp; omega⟩
      have hi := ih r hrl hr (fun h => hz' h.1) hrd
      have hv : val r ≠ 0 := by
        intro h
        rw [h, dig_small (by decide)] at hi
        rw [← hi] at hz'
        exact hz' rfl
      have e : (val r * 10 + (b.toNat - 48)) / 10 = val r := by omega
      have e2 : (val r * 10 + (b.toNat - 48)) % 10 = b.toNat - 48 := by omega
      rw [dig_big (by omega), e, e2, hi, back]
theorem dig_whole {most n : Nat} {l : List UInt8} (h : whole most l = some n) : dig n = l := by
  unfold whole at h
  split at h
  · cases h
  · rename_i hc
    rw [not_or, not_or] at hc
    split at h
    · rename_i hd
      injection h with h
      rw [← h]
      exact dig_val l.length l rfl hc.1 hc.2.2 hd
    · cases h
theorem whole_lt {most n : Nat} {l : List UInt8} (h : whole most l = some n) : l.length ≤ most := by
  unfold whole at h
  split at h
  · cases h
  · rename_i hc
    rw [not_or, not_or] at hc
    omega
theorem whole_ne {most n : Nat} {l : List UInt8} (h : whole most l = some n) : l ≠ [] := by
  rintro rfl
  simp [whole] at h
/-- digits are no blank and no end of a line. -/
theorem dig_free (n : Nat) (c : UInt8) (h : c.toNat < 48) : c ∉ dig n := by
  intro hm
  have := List.all_eq_true.1 (dig_all n) c hm
  unfold isDig at this
  simp at this
  omega
end Go.Proofs.YtkejdkajfnaieaaGreatDoor.Tx

namespace Go.Proofs.YtkejdkajfnaieaaGreatDoor.Kd
open Tx

/-- a kind: Life, Hit, Range, Sight, Speed, Price, Turns, Carry are its numbers. -/
structure K where
  name : List UInt8
  nums : List Int
  flies : Bool
  trains : Bool

def isLetter (b : UInt8) : Bool := decide (97 ≤ b.toNat) && decide (b.toNat ≤ 122)
def nameOk (l : List UInt8) : Bool := !l.isEmpty && (decide (l.length ≤ 8) && l.all isLetter)
def numsFault (ns : List Int) : Int := if ns.any (fun x => decide (x < 0 ∨ 1000 < x)) then 1 else if ns.getD 0 0 < 1 ∨ 4 < ns.getD 4 0 ∨ 12 < ns.getD 2 0 ∨ 12 < ns.getD 3 0 then 1 else 0
/-- what is wrong with one, those ahead being right. -/
def kindFault (ahead : List K) (k : K) : Int := if nameOk k.name then (if ahead.any (fun a => a.name == k.name) then 8 else numsFault k.nums) else 2
def kindsGo (ahead : List K) : List K → Int
  | [] => 0
  | k :: r => if kindFault ahead k = 0 then kindsGo (ahead ++ [k]) r else kindFault ahead k
/-- what is wrong with some. -/
def kindsFault (l : List K) : Int := if 8 < l.length then 4 else kindsGo [] l

def flag (b : Bool) (c : UInt8) : List UInt8 := if b then [c] else [45]
def words (k : K) : List (List UInt8) := k.name :: ((k.nums.map fun n => dig n.toNat) ++ [flag k.flies 102, flag k.trains 116])
def kline (k : K) : List UInt8 := join 32 (words k)
def prt (l : List K) : List UInt8 := l.flatMap fun k => kline k ++ [10]

def unflag (c : UInt8) (w : List UInt8) : Option Bool := if w = [c] then some true else if w = [45] then some false else none
def wholes : List (List UInt8) → Option (List Int)
  | [] => some []
  | w :: r => match whole 4 w, wholes r with
    | some n, some ns => some ((n : Int) :: ns)
    | _, _ => none
/-- the kind of a line's words. -/
def kwords (ws : List (List UInt8)) : Option K := if ws.length = 11 then
    match wholes ((ws.drop 1).take 8), unflag 102 (ws.getD 9 []), unflag 116 (ws.getD 10 []) with
    | some ns, some f, some t => some ⟨ws.getD 0 [], ns, f, t⟩
    | _, _, _ => none
  else none
/-- the kinds of some lines; else the line, and the fault. -/
def kparse (acc : List K) : List (List UInt8) → (Nat × Int) ⊕ List K
  | [] => .inr acc
  | [w] => if w = [] then .inr acc else .inl (acc.length, 2)
  | w :: v :: r => match kwords (cut 32 w) with
    | none => .inl (acc.length, 2)
    | some k => if acc.length = 8 then .inl (acc.length, 4) else if kindFault acc k = 0 then kparse (acc ++ [k]) (v :: r) else .inl (acc.length, kindFault acc k)
def parse (s : List UInt8) : (Nat × Int) ⊕ List K := kparse [] (cut 10 s)

/-- the form of a kind whose numbers can be told. -/
structure Fit (k : K) : Prop where
  len : k.nums.length = 8
  low : ∀ n ∈ k.nums, 0 ≤ n ∧ n < 10000

theorem fault_fit {ahead : List K} {k : K} (h : kindFault ahead k = 0) (hl : k.nums.length = 8) : Fit k ∧ nameOk k.name = true := by
  unfold kindFault at h
  split at h
  · rename_i hn
    split at h
    · omega
    · refine ⟨⟨hl, fun n hm => ?_⟩, hn⟩
      unfold numsFault at h
      split at h
      · omega
      · rename_i hx
        rw [Bool.not_eq_true, List.any_eq_false] at hx
        have := hx n hm
        simp at this
        omega
  · omega
theorem name_free {l : List UInt8} (h : nameOk l = true) (c : UInt8) (hc : c.toNat < 97) : c ∉ l := by
  intro hm
  unfold nameOk at h
  simp only [Bool.and_eq_true, List.all_eq_true] at h
  have := h.2.2 c hm
  unfold isLetter at this
  simp at this
  omega
theorem flag_free (b : Bool) (c d : UInt8) (h1 : d ≠ c) (h2 : d ≠ 45) : d ∉ flag b c := by
  unfold flag
  split
  · simpa using h1
  · simpa using h2
theorem words_free {k : K} (hn : nameOk k.name = true) (c : UInt8) (hc : c.toNat < 45) : ∀ w ∈ words k, c ∉ w := by
  intro w hw
  have h102 : c ≠ 102 := by rintro rfl; revert hc; decide
  have h116 : c ≠ 116 := by rintro rfl; revert hc; decide
  have h45 : c ≠ 45 := by rintro rfl; revert hc; decide
  unfold words at hw
  simp only [List.mem_cons, List.mem_append, List.mem_map, List.not_mem_nil, or_false] at hw
  rcases hw with rfl | ⟨n, _, rfl⟩ | rfl | rfl
  · exact name_free hn c (by omega)
  · exact dig_free _ c (by omega)
  · exact flag_free _ _ _ h102 h45
  · exact flag_free _ _ _ h116 h45
theorem mem_join {c d : UInt8} : ∀ {ws : List (List UInt8)}, d ∈ join c ws → d = c ∨ ∃ w ∈ ws, d ∈ w
  | [], h => by simp [join] at h
  | [w], h => .inr ⟨w, List.mem_cons_self .., h⟩
  | w :: v :: ws, h => by
    rw [join_cons (by simp), List.mem_append, List.mem_cons] at h
    rcases h with h | h | h
    · exact .inr ⟨w, List.mem_cons_self .., h⟩
    · exact .inl h
    · rcases mem_join h with h | ⟨x, hx, hd⟩
      · exact .inl h
      · exact .inr ⟨x, List.mem_cons_of_mem _ hx, hd⟩
theorem kline_free {k : K} (hn : nameOk k.name = true) : (10 : UInt8) ∉ kline k := by
  intro h
  rcases mem_join h with h | ⟨w, hw, hd⟩
  · revert h; decide
  · exact words_free hn 10 (by decide) w hw hd

theorem wholes_dig : ∀ {ns : List Int}, (∀ n ∈ ns, 0 ≤ n ∧ n < 10000) → wholes (ns.map fun n => dig n.toNat) = some ns
  | [], _ => rfl
  | n :: ns, h => by
    have h1 := h n (List.mem_cons_self ..)
    have e : whole 4 (dig n.toNat) = some n.toNat := whole_dig (by decide) (by show n.toNat < 10000; omega)
    have e2 := wholes_dig (ns := ns) (fun x hx => h x (List.mem_cons_of_mem _ hx))
    rw [List.map_cons, wholes, e, e2]
    simp
    omega
theorem wholes_back : ∀ {ws : List (List UInt8)} {ns : List Int}, wholes ws = some ns → (ns.map fun n => dig n.toNat) = ws ∧ ∀ n ∈ ns, 0 ≤ n
  | [], ns, h => by
    simp [wholes] at h
    subst h
    simp
  | w :: r, ns, h => by
    unfold wholes at h
    split at h
    · rename_i n ns' h1 h2
      injection h with h
      subst h
      obtain ⟨a1, a2⟩ := wholes_back h2
      refine ⟨?_, ?_⟩
      · rw [List.map_cons, a1, Int.toNat_natCast, dig_whole h1]
      · intro x hx
        rcases List.mem_cons.1 hx with rfl | hx
        · omega
        · exact a2 x hx
    · cases h
theorem unflag_flag (b : Bool) (c : UInt8) (h : c ≠ 45) : unflag c (flag b c) = some b := by
  unfold unflag flag
  cases b
  · have : ¬ ([45] : List UInt8) = [c] := by simp; exact fun e => h e.symm
    simp [this]
  · simp
theorem unflag_back {c : UInt8} {w : List UInt8} {b : Bool} (h : unflag c w = some b) : flag b c = w := by
  unfold unflag at h
  split at h
  · rename_i hw
    injection h with h
    subst h
    rw [hw]
    rfl
  · split at h
    · rename_i hw
      injection h with h
      subst h
      rw [hw]
      rfl
    · cases h
theorem kwords_words {k : K} (hf : Fit k) : kwords (words k) = some k := by
  obtain ⟨name, nums, f, t⟩ := k
  have hl : nums.length = 8 := hf.len
  have e1 : ((words ⟨name, nums, f, t⟩).drop 1).take 8 = nums.map fun n => dig n.toNat := by
    show ((nums.map fun n => dig n.toNat) ++ [flag f 102, flag t 116]).take 8 = _
    rw [List.take_left' (by rw [List.length_map]; exact hl)]
  have e2 : (words ⟨name, nums, f, t⟩).getD 9 [] = flag f 102 := by
    show (name :: ((nums.map fun n => dig n.toNat) ++ [flag f 102, flag t 116])).getD 9 [] = _
    rw [List.getD_cons_succ, List.getD_eq_getElem?_getD, List.getElem?_append_right (by rw [List.length_map]; omega), List.length_map, hl]
    rfl
  have e3 : (words ⟨name, nums, f, t⟩).getD 10 [] = flag t 116 := by
    show (name :: ((nums.map fun n => dig n.toNat) ++ [flag f 102, flag t 116])).getD 10 [] = _
    rw [List.getD_cons_succ, List.getD_eq_getElem?_getD, List.getElem?_append_right (by rw [List.length_map]; omega), List.length_map, hl]
    rfl
  unfold kwords
  rw [if_pos (by simp [words, hl]), e1, e2, e3, wholes_dig hf.low, unflag_flag f 102 (by decide), unflag_flag t 116 (by decide)]
  rfl
theorem list11 {ws : List (List UInt8)} (h : ws.length = 11) : ws = ws.getD 0 [] :: ((ws.drop 1).take 8 ++ [ws.getD 9 [], ws.getD 10 []]) := by
  match ws, h with
  | [w0, w1, w2, w3, w4, w5, w6, w7, w8, w9, w10], _ => rfl
theorem words_kwords {ws : List (List UInt8)} {k : K} (h : kwords ws = some k) : words k = ws ∧ k.nums.length = 8 := by
  unfold kwords at h
  split at h
  · rename_i hl
    split at h
    · rename_i ns f t h1 h2 h3
      injection h with h
      subst h
      have a := wholes_back h1
      refine ⟨?_, ?_⟩
      · unfold words
        rw [a.1, unflag_back h2, unflag_back h3]
        exact (list11 hl).symm
      · show ns.length = 8
        have := congrArg List.length a.1
        rw [List.length_map, List.length_take, List.length_drop] at this
        omega
    · cases h
  · cases h

theorem cut_prt : ∀ {l : List K}, (∀ k ∈ l, nameOk k.name = true) → cut 10 (prt l) = l.map kline ++ [[]]
  | [], _ => rfl
  | k :: l, h => by
    show cut 10 ((kline k ++ [10]) ++ prt l) = _
    rw [List.append_assoc]
    show cut 10 (kline k ++ 10 :: prt l) = _
    rw [cut_app (kline_free (h k (List.mem_cons_self ..))), cut_prt (fun x hx => h x (List.mem_cons_of_mem _ hx))]
    rfl
theorem kindsGo_all : ∀ {l acc : List K}, kindsGo acc l = 0 → (∀ k ∈ l, k.nums.length = 8) → ∀ k ∈ l, Fit k ∧ nameOk k.name = true
  | [], _, _, _, k, hk => by simp at hk
  | x :: l, acc, h, hl, k, hk => by
    unfold kindsGo at h
    split at h
    · rename_i h0
      rcases List.mem_cons.1 hk with rfl | hk
      · exact fault_fit h0 (hl k (List.mem_cons_self ..))
      · exact kindsGo_all h (fun y hy => hl y (List.mem_cons_of_mem _ hy)) k hk
    · rename_i h0
      exact absurd h h0
theorem kparse_lines : ∀ {l acc : List K}, kindsGo acc l = 0 → (∀ k ∈ l, k.nums.length = 8) → acc.length + l.length ≤ 8 → kparse acc (l.map kline ++ [[]]) = .inr (acc ++ l)
  | [], acc, _, _, _ => by simp [kparse]
  | k :: l, acc, h, hl, hn => by
    unfold kindsGo at h
    split at h
    · rename_i h0
      have hk := fault_fit h0 (hl k (List.mem_cons_self ..))
      have e : cut 32 (kline k) = words k := cut_join (by simp [words]) (words_free hk.2 32 (by decide))
      have ih := kparse_lines (l := l) (acc := acc ++ [k]) h (fun y hy => hl y (List.mem_cons_of_mem _ hy)) (by simp at hn ⊢; omega)
      simp only [List.length_cons] at hn
      cases l with
      | nil =>
        show kparse acc [kline k, []] = _
        rw [kparse, e, kwords_words hk.1]
        simp only
        rw [if_neg (by simp at hn; omega), if_pos h0]
        simpa using ih
      | cons k2 l =>
        show kparse acc (kline k :: kline k2 :: (l.map kline ++ [[]])) = _
        rw [kparse, e, kwords_words hk.1]
        simp only
        rw [if_neg (by simp at hn; omega), if_pos h0]
        simpa using ih
    · rename_i h0
      exact absurd h h0
/-- what is printed is read as it was. -/
theorem parse_prt {l : List K} (h : kindsFault l = 0) (hl : ∀ k ∈ l, k.nums.length = 8) : parse (prt l) = .inr l := by
  unfold kindsFault at h
  split at h
  · omega
  · have a := kindsGo_all h hl
    unfold parse
    rw [cut_prt (fun k hk => (a k hk).2), kparse_lines h hl (by simp; omega)]
    rfl
theorem prt_lines : ∀ {ls : List (List UInt8)} {acc l : List K}, ls ≠ [] → kparse acc ls = .inr l → acc.length ≤ 8 → ∃ l', l = acc ++ l' ∧ prt l' = join 10 ls ∧ kindsGo acc l' = 0 ∧ l.length ≤ 8 ∧ ∀ k ∈ l', k.nums.length = 8
  | [], _, _, h, _, _ => absurd rfl h
  | [w], acc, l, _, h, ha => by
    unfold kparse at h
    split at h
    · rename_i hw
      injection h with h
      subst h
      subst hw
      exact ⟨[], by simp, rfl, rfl, ha, by simp⟩
    · cases h
  | w :: v :: r, acc, l, _, h, ha => by
    unfold kparse at h
    split at h
    · cases h
    · rename_i k hk
      split at h
      · cases h
      · rename_i h8
        split at h
        · rename_i h0
          obtain ⟨l', e1, e2, e3, e4, e5⟩ := prt_lines (by simp) h (by simp; omega)
          have a := words_kwords hk
          refine ⟨k :: l', by rw [e1]; simp, ?_, ?_, e4, ?_⟩
          · show (kline k ++ [10]) ++ prt l' = _
            rw [join_cons (by simp), e2, show kline k = w by unfold kline; rw [a.1, join_cut]]
            simp
          · unfold kindsGo
            rw [if_pos h0]
            exact e3
          · intro x hx
            rcases List.mem_cons.1 hx with rfl | hx
            · exact a.2
            · exact e5 x hx
        · cases h
/-- what any text is read as is printed as that text. -/
theorem prt_parse {s : List UInt8} {l : List K} (h : parse s = .inr l) : prt l = s ∧ kindsFault l = 0 ∧ ∀ k ∈ l, k.nums.length = 8 := by
  unfold parse at h
  obtain ⟨l', e1, e2, e3, e4, e5⟩ := prt_lines (cut_ne 10 s) h (by simp)
  rw [List.nil_append] at e1
  subst e1
  refine ⟨by rw [e2, join_cut], ?_, e5⟩
  unfold kindsFault
  rw [if_neg (by omega)]
  exact e3
end Go.Proofs.YtkejdkajfnaieaaGreatDoor.Kd

namespace Go.Proofs.YtkejdkajfnaieaaGreatDoor
open Go.RowKit
set_option linter.unusedVariables false

/-- a kind as memory has it. -/
structure KV where
  b : ByteArray
  n0 : Int
  n1 : Int
  n2 : Int
  n3 : Int
  n4 : Int
  n5 : Int
  n6 : Int
  n7 : Int
  f : Bool
  t : Bool
def KV.k (k : KV) : Kd.K := ⟨k.b.data.toList, [k.n0, k.n1, k.n2, k.n3, k.n4, k.n5, k.n6, k.n7], k.f, k.t⟩
def KV.val (k : KV) : Value := .agg #[.string k.b, .int .i64 k.n0, .int .i64 k.n1, .int .i64 k.n2, .int .i64 k.n3, .int .i64 k.n4, .int .i64 k.n5, .int .i64 k.n6, .int .i64 k.n7, .bool k.f, .bool k.t]
/-- its cells, from an address on. -/
structure Kc (w : World) (y : Addr) (k : KV) : Prop where
  c0 : w.cell? y = some (.string k.b)
  c1 : w.cell? ⟨y.block, y.off + 1, none⟩ = some (.int .i64 k.n0)
  c2 : w.cell? ⟨y.block, y.off + 2, none⟩ = some (.int .i64 k.n1)
  c3 : w.cell? ⟨y.block, y.off + 3, none⟩ = some (.int .i64 k.n2)
  c4 : w.cell? ⟨y.block, y.off + 4, none⟩ = some (.int .i64 k.n3)
  c5 : w.cell? ⟨y.block, y.off + 5, none⟩ = some (.int .i64 k.n4)
  c6 : w.cell? ⟨y.block, y.off + 6, none⟩ = some (.int .i64 k.n5)
  c7 : w.cell? ⟨y.block, y.off + 7, none⟩ = some (.int .i64 k.n6)
  c8 : w.cell? ⟨y.block, y.off + 8, none⟩ = some (.int .i64 k.n7)
  c9 : w.cell? ⟨y.block, y.off + 9, none⟩ = some (.bool k.f)
  c10 : w.cell? ⟨y.block, y.off + 10, none⟩ = some (.bool k.t)
theorem Kc.lt {w : World} {y : Addr} {k : KV} (h : Kc w y k) : y.block < w.heap.size := cell_lt h.c0
theorem Kc.below {w w' : World} {y : Addr} {k : KV} {B : Nat} (h : Kc w y k) (hb : Below B w w') (hy : y.block < B) : Kc w' y k :=
  ⟨by rw [hb.cell (p := y) hy]; exact h.c0, by rw [hb.cell (p := ⟨y.block, y.off + 1, none⟩) hy]; exact h.c1, by rw [hb.cell (p := ⟨y.block, y.off + 2, none⟩) hy]; exact h.c2, by rw [hb.cell (p := ⟨y.block, y.off + 3, none⟩) hy]; exact h.c3, by rw [hb.cell (p := ⟨y.block, y.off + 4, none⟩) hy]; exact h.c4, by rw [hb.cell (p := ⟨y.block, y.off + 5, none⟩) hy]; exact h.c5, by rw [hb.cell (p := ⟨y.block, y.off + 6, none⟩) hy]; exact h.c6, by rw [hb.cell (p := ⟨y.block, y.off + 7, none⟩) hy]; exact h.c7, by rw [hb.cell (p := ⟨y.block, y.off + 8, none⟩) hy]; exact h.c8, by rw [hb.cell (p := ⟨y.block, y.off + 9, none⟩) hy]; exact h.c9, by rw [hb.cell (p := ⟨y.block, y.off + 10, none⟩) hy]; exact h.c10⟩
/-- v is a slice of the kinds ks. -/
def Kl (w : World) (v : Value) (ks : List KV) : Prop := ∃ a c, v = .slice a ks.length c ∧ ks.length ≤ c ∧ c ≤ 9223372036854775807 ∧ (ks ≠ [] → ∃ x, a = some x ∧ x.block < w.heap.size ∧ ∀ (i : Nat) k, ks[i]? = some k → Kc w (x.add (i * 11)) k)
theorem Kl.below {w w' : World} {v : Value} {ks : List KV} (h : Kl w v ks) (hb : Below w.heap.size w w') : Kl w' v ks := by
  obtain ⟨a, c, h1, h2, h3, h4⟩ := h
  refine ⟨a, c, h1, h2, h3, fun hn => ?_⟩
  obtain ⟨x, e, hx, hk⟩ := h4 hn
  exact ⟨x, e, Nat.lt_of_lt_of_le hx hb.size, fun i k hi => (hk i k hi).below hb (by rw [add_block]; exact hx)⟩

theorem Kc.mk' {w : World} {z : Nat} (k : KV) (hz : w.heap.size = z) : Kc (w.alloc (.cells #[.string k.b, .int .i64 k.n0, .int .i64 k.n1, .int .i64 k.n2, .int .i64 k.n3, .int .i64 k.n4, .int .i64 k.n5, .int .i64 k.n6, .int .i64 k.n7, .bool k.f, .bool k.t] 101)) ⟨z, 0, none⟩ k := by
  subst hz
  constructor <;> simp
end Go.Proofs.YtkejdkajfnaieaaGreatDoor

namespace Go.Proofs.YtkejdkajfnaieaaGreatDoor
open Go.RowKit
set_option linter.unusedVariables false

theorem Ro.lit1 {w : World} {z : Nat} (a : Int) (hz : w.heap.size = z) : Ro (w.alloc (.cells #[.int .i64 a] 3)) (.slice (some ⟨z, 0, none⟩) 1 1) [a] := by
  subst hz
  refine ⟨_, 1, rfl, Nat.le_refl _, by omega, fun _ => ⟨_, rfl, by simp, fun i d hd => ?_⟩⟩
  rw [Addr.add_lit, Nat.zero_add]
  match i, hd with
  | 0, hd => simp at hd; subst hd; simp
theorem Ro.lit2 {w : World} {z : Nat} (a b : Int) (hz : w.heap.size = z) : Ro (w.alloc (.cells #[.int .i64 a, .int .i64 b] 3)) (.slice (some ⟨z, 0, none⟩) 2 2) [a, b] := by
  subst hz
  refine ⟨_, 2, rfl, Nat.le_refl _, by omega, fun _ => ⟨_, rfl, by simp, fun i d hd => ?_⟩⟩
  rw [Addr.add_lit, Nat.zero_add]
  match i, hd with
  | 0, hd => simp at hd; subst hd; simp
  | 1, hd => simp at hd; subst hd; simp
end Go.Proofs.YtkejdkajfnaieaaGreatDoor

