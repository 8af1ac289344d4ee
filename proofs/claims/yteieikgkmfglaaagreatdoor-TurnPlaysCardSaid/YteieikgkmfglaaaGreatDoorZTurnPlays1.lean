/- Numbers in bytes. Plain mathematics. · Readers of numbers in bytes. Plain mathematics. · What stays where one block turns. (Big2 has the same words for texts of its own; where both are wanted, let Big2 import this.) · What a walk is told of a slice of integers that came in. · Lists of integers: what a slice holds. · api.Unit: records in memory. · api.Job: records in memory. · Worlds in bytes. Plain mathematics. · Fields: plain mathematics. · Texts: cut at a byte and joined again; whole numbers as digits. Plain mathematics. · Kinds: what is wrong with them, their text, and back. Plain mathematics. · Kinds in memory. · Worlds: what is wrong with one. Plain mathematics. · Worlds in memory. · Lists of integers that the call itself makes, by append. · A whole list behind another one, where there is nothing in it. · Lists of integers: a whole list behind another one. · A list of integers that is written out, of any length. · Worlds: the numbers that are written, as mathematics; a world's slices. · slices.IndexFunc and ContainsFunc of units. · world.within. -/
import Derived.Test.YteieikgkmfglaaaGreatDoorRows
import Derived.WalkKit
import Derived.WalkSpells
import Derived.WalkLawsBesides
import Derived.ProofKit
import Derived.Deep.QuietTactic
import Derived.BigQuiet
import Derived.WideShapes
import Derived.OwnWalk
import Derived.Deep.AppendLies
import Derived.Laws.AppendOwnNone
import Derived.Laws.Closers25
import Derived.IntWalk
namespace Go.Proofs.YteieikgkmfglaaaGreatDoor
set_option linter.unusedVariables false
namespace Wd

/-- numbers below 0 between the others. -/
def zz (n : Int) : Nat := if n < 0 then ((-(n + 1)).toNat) * 2 + 1 else n.toNat * 2
def unz (x : Nat) : Int := if x % 2 = 1 then -((x / 2 : Nat) : Int) - 1 else ((x / 2 : Nat) : Int)
theorem unz_zz (n : Int) : unz (zz n) = n := by
  unfold unz zz
  by_cases h : n < 0
  · rw [if_pos h, if_pos (by omega)]; omega
  · rw [if_neg h, if_neg (by omega)]; omega
theorem zz_unz (x : Nat) : zz (unz x) = x := by
  unfold unz zz
  by_cases h : x % 2 = 1
  · rw [if_pos h, if_pos (by omega)]; omega
  · rw [if_neg h, if_neg (by omega)]; omega
def In64 (n : Int) : Prop := -9223372036854775808 ≤ n ∧ n ≤ 9223372036854775807
theorem zz_lt {n : Int} (h : In64 n) : zz n < 18446744073709551616 := by
  unfold In64 at h
  unfold zz
  split <;> omega
theorem unz_in {x : Nat} (h : x < 18446744073709551616) : In64 (unz x) := by
  unfold In64 unz
  split <;> omega

/-- seven bits a byte. -/
def vl (x : Nat) : List UInt8 := if h : x < 128 then [UInt8.ofNat x] else UInt8.ofNat (x % 128 + 128) :: vl (x / 128)
termination_by x
theorem vl_small {x : Nat} (h : x < 128) : vl x = [UInt8.ofNat x] := by rw [vl, dif_pos h]
theorem vl_great {x : Nat} (h : 128 ≤ x) : vl x = UInt8.ofNat (x % 128 + 128) :: vl (x / 128) := by rw [vl, dif_neg (by omega)]
def num (n : Int) : List UInt8 := vl (zz n)
/-- the number that bytes go on with: i bytes are read, they come to x. -/
def rd (i x : Nat) : List UInt8 → Option (Nat × Nat)
  | [] => none
  | c :: t => if i = 9 ∧ 1 < c.toNat then none else if 128 ≤ c.toNat then rd (i + 1) (x + c.toNat % 128 * 128 ^ i) t else if c.toNat = 0 ∧ 0 < i then none else some (x + c.toNat * 128 ^ i, i + 1)

theorem pow_le9 {i : Nat} (h : i ≤ 9) : 128 ^ i ≤ 128 ^ 9 := Nat.pow_le_pow_right (by decide) h
theorem pow9 : (128 : Nat) ^ 9 = 9223372036854775808 := by decide
theorem rd_le : ∀ (l : List UInt8) (i x y n : Nat), i ≤ 9 → x < 128 ^ i → rd i x l = some (y, n) → i < n ∧ n ≤ i + l.length ∧ n ≤ 10 ∧ y < 18446744073709551616
  | [], i, x, y, n, hi, hx, h => by simp [rd] at h
  | c :: t, i, x, y, n, hi, hx, h => by
    have hc : c.toNat < 256 := c.toNat_lt
    have hs : 128 ^ (i + 1) = 128 ^ i * 128 := Nat.pow_succ ..
    unfold rd at h
    split at h
    · cases h
    · rename_i h9
      split at h
      · rename_i hm
        have : i ≠ 9 := fun e => h9 ⟨e, by omega⟩
        have hm2 : c.toNat % 128 * 128 ^ i ≤ 127 * 128 ^ i := Nat.mul_le_mul_right _ (by omega)
        obtain ⟨h1, h2, h3, h4⟩ := rd_le t (i + 1) _ y n (by omega) (by omega) h
        simp only [List.length_cons]
        exact ⟨by omega, by omega, h3, h4⟩
      · split at h
        · cases h
        · injection h with h
          injection h with h1 h2
          subst h1 h2
          refine ⟨by omega, by simp only [List.length_cons]; omega, by omega, ?_⟩
          by_cases e : i = 9
          · subst e
            have : c.toNat ≤ 1 := by
              rcases Nat.lt_or_ge 1 c.toNat with h | h
              · exact absurd ⟨rfl, h⟩ h9
              · exact h
            have : c.toNat * 128 ^ 9 ≤ 1 * 128 ^ 9 := Nat.mul_le_mul_right _ this
            rw [pow9] at this hx ⊢
            omega
          · have h8 : 128 ^ i ≤ 128 ^ 8 := Nat.pow_le_pow_right (by decide) (by omega)
            have h82 : (128 : Nat) ^ 8 = 72057594037927936 := by decide
            have : c.toNat * 128 ^ i ≤ 127 * 128 ^ i := Nat.mul_le_mul_right _ (by omega)
            omega
theorem rd_vl : ∀ (f x i a : Nat) (t : List UInt8), x ≤ f → i ≤ 9 → x * 128 ^ i < 18446744073709551616 → (i = 0 ∨ 0 < x) → rd i a (vl x ++ t) = some (a + x * 128 ^ i, i + (vl x).length)
  | f, x, i, a, t, hf, hi, hx, hz => by
    by_cases h : x < 128
    · have e : (UInt8.ofNat x).toNat = x := by rw [UInt8.toNat_ofNat']; omega
      rw [vl_small h]
      show rd i a (UInt8.ofNat x :: t) = _
      unfold rd
      rw [e, if_neg, if_neg (by omega), if_neg (by omega)]
      · rfl
      · rintro ⟨e9, h1⟩
        subst e9
        have : 2 * 128 ^ 9 ≤ x * 128 ^ 9 := Nat.mul_le_mul_right _ h1
        rw [pow9] at this hx
        omega
    · have e : (UInt8.ofNat (x % 128 + 128)).toNat = x % 128 + 128 := by rw [UInt8.toNat_ofNat']; omega
      have hs : 128 ^ (i + 1) = 128 ^ i * 128 := Nat.pow_succ ..
      have i9 : i ≠ 9 := fun e9 => by
        subst e9
        have : 128 * 128 ^ 9 ≤ x * 128 ^ 9 := Nat.mul_le_mul_right _ (by omega)
        rw [pow9] at this hx
        omega
      rw [vl_great (by omega)]
      show rd i a (UInt8.ofNat (x % 128 + 128) :: (vl (x / 128) ++ t)) = _
      unfold rd
      have hsum : x = x / 128 * 128 + x % 128 := by omega
      have hmul : x * 128 ^ i = x / 128 * 128 ^ (i + 1) + x % 128 * 128 ^ i := by
        conv => lhs; rw [hsum]
        rw [Nat.add_mul, hs, Nat.mul_comm (128 ^ i) 128, Nat.mul_assoc]
      rw [e, if_neg (fun h => i9 h.1), if_pos (by omega)]
      match f, hf with
      | 0, hf => omega
      | f + 1, hf =>
        rw [rd_vl f (x / 128) (i + 1) _ t (by omega) (by omega) (by omega) (.inr (by omega))]
        simp only [List.length_cons]
        have e3 : (x % 128 + 128) % 128 = x % 128 := by omega
        rw [e3, hmul]
        congr 2
        · omega
        · omega
termination_by f => f
theorem rd_back : ∀ (l : List UInt8) (i a y n : Nat), i ≤ 9 → rd i a l = some (y, n) → ∃ x t, y = a + x * 128 ^ i ∧ l = vl x ++ t ∧ n = i + (vl x).length ∧ (i = 0 ∨ 0 < x)
  | [], i, a, y, n, hi, h => by simp [rd] at h
  | c :: t, i, a, y, n, hi, h => by
    have hc : c.toNat < 256 := c.toNat_lt
    have hs : 128 ^ (i + 1) = 128 ^ i * 128 := Nat.pow_succ ..
    unfold rd at h
    split at h
    · cases h
    · rename_i h9
      split at h
      · rename_i hm
        have i9 : i ≠ 9 := fun e => h9 ⟨e, by omega⟩
        obtain ⟨x, t', h1, h2, h3, h4⟩ := rd_back t (i + 1) _ y n (by omega) h
        have x0 : 0 < x := by omega
        have e1 : (x * 128 + c.toNat % 128) % 128 + 128 = c.toNat := by omega
        have e2 : (x * 128 + c.toNat % 128) / 128 = x := by omega
        have ev : vl (x * 128 + c.toNat % 128) = c :: vl x := by
          rw [vl_great (by omega), e1, e2, UInt8.ofNat_toNat]
        refine ⟨x * 128 + c.toNat % 128, t', ?_, ?_, ?_, .inr (by omega)⟩
        · rw [h1, hs, Nat.add_mul, Nat.mul_comm (128 ^ i) 128, ← Nat.mul_assoc]; omega
        · rw [ev, h2]; rfl
        · rw [ev, h3]; simp only [List.length_cons]; omega
      · rename_i hm
        split at h
        · cases h
        · rename_i hz
          injection h with h
          injection h with h1 h2
          have ev : vl c.toNat = [c] := by rw [vl_small (by omega), UInt8.ofNat_toNat]
          refine ⟨c.toNat, t, h1.symm, by rw [ev]; rfl, by rw [ev, ← h2]; rfl, ?_⟩
          omega

/-- the number that stands at a place, and the place behind it. -/
def pnum (b : List UInt8) (a : Nat) : Option (Int × Nat) := match rd 0 0 (b.drop a) with
  | none => none
  | some (x, n) => some (unz x, a + n)
theorem pnum_le {b : List UInt8} {a : Nat} {v : Int} {a' : Nat} (h : pnum b a = some (v, a')) : a < a' ∧ a' ≤ b.length ∧ a' ≤ a + 10 ∧ In64 v := by
  unfold pnum at h
  split at h
  · cases h
  · rename_i x n hr
    injection h with h
    injection h with h1 h2
    obtain ⟨e1, e2, e3, e4⟩ := rd_le _ 0 0 x n (by omega) (by simp) hr
    rw [List.length_drop] at e2
    refine ⟨by omega, by omega, by omega, by rw [← h1]; exact unz_in e4⟩
theorem pnum_num {b : List UInt8} {a : Nat} {n : Int} {t : List UInt8} (h : In64 n) (hb : b.drop a = num n ++ t) : pnum b a = some (n, a + (num n).length) := by
  unfold pnum
  rw [hb]
  unfold num
  rw [rd_vl _ (zz n) 0 0 t (Nat.le_refl _) (by omega) (by simpa using zz_lt h) (.inl rfl)]
  simp [unz_zz]
theorem pnum_back {b : List UInt8} {a : Nat} {v : Int} {a' : Nat} (h : pnum b a = some (v, a')) : b.drop a = num v ++ b.drop a' ∧ a' = a + (num v).length := by
  unfold pnum at h
  split at h
  · cases h
  · rename_i x n hr
    injection h with h
    injection h with h1 h2
    obtain ⟨x', t, e1, e2, e3, -⟩ := rd_back _ 0 0 x n (by omega) hr
    have ex : x = x' := by omega
    subst ex
    have en : num v = vl x := by unfold num; rw [← h1, zz_unz]
    have el : a' = a + (num v).length := by rw [en]; omega
    refine ⟨?_, el⟩
    rw [en, el, ← List.drop_drop, e2, en, List.drop_left]

/-- readers, one behind the other. -/
abbrev Pr (α : Type) := Nat → Option (α × Nat)
def prep {α : Type} (p : Pr α) : Nat → Pr (List α)
  | 0, a => some ([], a)
  | n + 1, a => match p a with
    | none => none
    | some (v, a') => match prep p n a' with
      | none => none
      | some (l, a'') => some (v :: l, a'')
theorem prep_snoc {α : Type} (p : Pr α) : ∀ (n a : Nat), prep p (n + 1) a = match prep p n a with
    | none => none
    | some (l, a') => match p a' with
      | none => none
      | some (v, a'') => some (l ++ [v], a'')
  | 0, a => by
    simp only [prep]
    cases p a with
    | none => rfl
    | some x => rfl
  | n + 1, a => by
    rw [prep]
    rw [show prep p (n + 1) a = (match p a with | none => none | some (v, a') => match prep p n a' with | none => none | some (l, a'') => some (v :: l, a'')) from rfl]
    cases p a with
    | none => rfl
    | some x =>
      obtain ⟨v, a'⟩ := x
      simp only
      rw [prep_snoc p n a']
      cases prep p n a' with
      | none => rfl
      | some y =>
        obtain ⟨l, a''⟩ := y
        simp only
        cases p a'' with
        | none => rfl
        | some z => rfl
theorem prep_len {α : Type} {p : Pr α} : ∀ {n a : Nat} {l : List α} {a' : Nat}, prep p n a = some (l, a') → l.length = n
  | 0, a, l, a', h => by simp [prep] at h; rw [h.1]; rfl
  | n + 1, a, l, a', h => by
    rw [prep] at h
    split at h
    · cases h
    · split at h
      · cases h
      · rename_i hh
        injection h with h
        injection h with h1 h2
        rw [← h1, List.length_cons, prep_len hh]
def pmany (b : List UInt8) (a : Nat) : Option (Nat × Nat) := match pnum b a with
  | none => none
  | some (n, a') => if 0 ≤ n ∧ n ≤ 200 then some (n.toNat, a') else none
def pbind {α β : Type} (p : Pr α) (f : α → Pr β) : Pr β := fun a => match p a with
  | none => none
  | some (v, a') => f v a'
def plist {α : Type} (b : List UInt8) (p : Pr α) : Pr (List α) := pbind (pmany b) (fun n => prep p n)
def pret {α : Type} (v : α) : Pr α := fun a => some (v, a)
end Wd
end Go.Proofs.YteieikgkmfglaaaGreatDoor

namespace Go.Proofs.YteieikgkmfglaaaGreatDoor
set_option linter.unusedVariables false
namespace Wd

/-- what a reader that goes on where something is wrong has read: f: something was wrong. -/
def Rd {α : Type} (p : Pr α) (a : Nat) (f : Bool) (v : α) (a' : Nat) (f' : Bool) : Prop := (f = true → f' = true) ∧ (f = false → (p a = some (v, a') ∧ f' = false) ∨ (p a = none ∧ f' = true))
theorem Rd.ret {α : Type} (v : α) (a : Nat) (f : Bool) : Rd (pret v) a f v a f := ⟨fun h => h, fun h => .inl ⟨rfl, h⟩⟩
theorem Rd.bind {α β : Type} {p : Pr α} {q : α → Pr β} {a : Nat} {f : Bool} {v : α} {a' : Nat} {f' : Bool} {u : β} {a'' : Nat} {f'' : Bool} (h1 : Rd p a f v a' f') (h2 : Rd (q v) a' f' u a'' f'') : Rd (pbind p q) a f u a'' f'' := by
  refine ⟨fun h => h2.1 (h1.1 h), fun h => ?_⟩
  rcases h1.2 h with ⟨e1, e2⟩ | ⟨e1, e2⟩
  · unfold pbind
    rw [e1]
    exact h2.2 e2
  · refine .inr ⟨?_, h2.1 e2⟩
    unfold pbind
    rw [e1]
theorem Rd.snoc {α : Type} {p : Pr α} {n a : Nat} {f : Bool} {l : List α} {a' : Nat} {f' : Bool} {v : α} {a'' : Nat} {f'' : Bool} (h1 : Rd (prep p n) a f l a' f') (h2 : Rd p a' f' v a'' f'') : Rd (prep p (n + 1)) a f (l ++ [v]) a'' f'' := by
  refine ⟨fun h => h2.1 (h1.1 h), fun h => ?_⟩
  rw [prep_snoc]
  rcases h1.2 h with ⟨e1, e2⟩ | ⟨e1, e2⟩
  · rw [e1]
    rcases h2.2 e2 with ⟨e3, e4⟩ | ⟨e3, e4⟩
    · exact .inl ⟨by simp only [e3], e4⟩
    · exact .inr ⟨by simp only [e3], e4⟩
  · exact .inr ⟨by rw [e1], h2.1 e2⟩
theorem Rd.nil {α : Type} (p : Pr α) (a : Nat) (f : Bool) : Rd (prep p 0) a f [] a f := ⟨fun h => h, fun h => .inl ⟨rfl, h⟩⟩
theorem prep_none {α : Type} {p : Pr α} {n a : Nat} (h : prep p n a = none) : ∀ m, prep p (n + m) a = none
  | 0 => h
  | m + 1 => by
    rw [show n + (m + 1) = (n + m) + 1 from rfl, prep_snoc, prep_none h m]
theorem Rd.early {α : Type} {p : Pr α} {n a : Nat} {f : Bool} {l : List α} {a' : Nat} (h : Rd (prep p n) a f l a' true) {m : Nat} (hm : n ≤ m) (l' : List α) (a'' : Nat) : Rd (prep p m) a f l' a'' true := by
  refine ⟨fun _ => rfl, fun hf => ?_⟩
  rcases h.2 hf with ⟨-, e⟩ | ⟨e, -⟩
  · cases e
  · have := prep_none e (m - n)
    rw [Nat.add_sub_cancel' hm] at this
    exact .inr ⟨this, rfl⟩
theorem Rd.bad {α : Type} {p : Pr α} {a : Nat} {v : α} {a' : Nat} : Rd p a true v a' true := ⟨fun h => h, fun h => by cases h⟩
/-- the list behind how many there are. -/
theorem Rd.list {α : Type} {b : List UInt8} {p : Pr α} {a : Nat} {f : Bool} {n : Nat} {a' : Nat} {f' : Bool} {l : List α} {a'' : Nat} {f'' : Bool} (h1 : Rd (pmany b) a f n a' f') (h2 : Rd (prep p n) a' f' l a'' f'') : Rd (plist b p) a f l a'' f'' := Rd.bind (q := fun n => prep p n) h1 h2
theorem plist_eq {α : Type} (b : List UInt8) (p : Pr α) : plist b p = pbind (pmany b) (fun n => prep p n) := rfl

def wr (l : List Int) : List UInt8 := l.flatMap num
/-- a reader reads what was written, and nothing else. -/
structure Reads {α : Type} (b : List UInt8) (p : Pr α) (e : α → List Int) (ok : α → Prop) : Prop where
  fwd : ∀ {a : Nat} {v : α} {t : List UInt8}, ok v → b.drop a = wr (e v) ++ t → p a = some (v, a + (wr (e v)).length)
  back : ∀ {a : Nat} {v : α} {a' : Nat}, p a = some (v, a') → ok v ∧ b.drop a = wr (e v) ++ b.drop a' ∧ a' = a + (wr (e v)).length
theorem wr_append (l m : List Int) : wr (l ++ m) = wr l ++ wr m := by unfold wr; rw [List.flatMap_append]
theorem wr_one (n : Int) : wr [n] = num n := by simp [wr]
theorem reads_num (b : List UInt8) : Reads b (pnum b) (fun n => [n]) In64 where
  fwd := fun {a v t} h hb => by
    rw [wr_one] at hb ⊢
    exact pnum_num h hb
  back := fun {a v a'} h => by
    rw [wr_one]
    exact ⟨(pnum_le h).2.2.2, (pnum_back h).1, (pnum_back h).2⟩
theorem reads_ret {α : Type} (b : List UInt8) (v : α) : Reads b (pret v) (fun _ => []) (fun u => u = v) where
  fwd := fun {a u t} h hb => by subst h; rfl
  back := fun {a u a'} h => by
    unfold pret at h
    injection h with h
    injection h with h1 h2
    exact ⟨h1.symm, by rw [h2]; rfl, by rw [h2]; rfl⟩
/-- one behind the other: f finds the first part of what comes of both. -/
theorem Reads.bind {α β : Type} {b : List UInt8} {p : Pr α} {q : α → Pr β} {e : α → List Int} {e' : β → List Int} {ok : α → Prop} {ok' : α → β → Prop} (f : β → α) (h1 : Reads b p e ok) (h2 : ∀ v, Reads b (q v) e' (ok' v)) (hf : ∀ v u, ok' v u → f u = v) : Reads b (pbind p q) (fun u => e (f u) ++ e' u) (fun u => ok (f u) ∧ ok' (f u) u) where
  fwd := fun {a u t} h hb => by
    rw [wr_append, List.append_assoc] at hb
    unfold pbind
    rw [h1.fwd h.1 hb]
    simp only
    rw [wr_append, List.length_append, ← Nat.add_assoc]
    refine (h2 (f u)).fwd (t := t) h.2 ?_
    rw [← List.drop_drop, hb, List.drop_left]
  back := fun {a u a'} h => by
    unfold pbind at h
    split at h
    · cases h
    · rename_i v a1 hp
      obtain ⟨k1, k2, k3⟩ := h1.back hp
      obtain ⟨m1, m2, m3⟩ := (h2 v).back h
      have ev := hf v u m1
      rw [ev]
      refine ⟨⟨k1, m1⟩, ?_, ?_⟩
      · rw [wr_append, List.append_assoc, k2, m2]
      · rw [wr_append, List.length_append, m3, k3]; omega
theorem Reads.rep {α : Type} {b : List UInt8} {p : Pr α} {e : α → List Int} {ok : α → Prop} (h : Reads b p e ok) : ∀ n, Reads b (prep p n) (fun l => l.flatMap e) (fun l => l.length = n ∧ ∀ v ∈ l, ok v)
  | 0 => {
    fwd := fun {a l t} hl hb => by
      obtain rfl := List.length_eq_zero_iff.1 hl.1
      rfl
    back := fun {a l a'} hl => by
      simp only [prep, Option.some.injEq, Prod.mk.injEq] at hl
      obtain ⟨rfl, rfl⟩ := hl
      exact ⟨⟨rfl, by simp⟩, rfl, rfl⟩ }
  | n + 1 => {
    fwd := fun {a l t} hl hb => by
      match l, hl with
      | v :: l, hl =>
        rw [List.flatMap_cons, wr_append] at hb ⊢
        rw [List.append_assoc] at hb
        rw [prep, h.fwd (hl.2 v (by simp)) hb]
        simp only
        rw [(Reads.rep h n).fwd (v := l) (t := t) ⟨by simpa using hl.1, fun u hu => hl.2 u (by simp [hu])⟩ (by rw [← List.drop_drop, hb, List.drop_left])]
        simp only [List.length_append]
        rw [Nat.add_assoc]
    back := fun {a l a'} hl => by
      rw [prep] at hl
      split at hl
      · cases hl
      · rename_i v a1 hp
        split at hl
        · cases hl
        · rename_i l' a2 hq
          injection hl with hl
          injection hl with e1 e2
          subst e1 e2
          obtain ⟨k1, k2, k3⟩ := h.back hp
          obtain ⟨m1, m2, m3⟩ := (Reads.rep h n).back hq
          refine ⟨⟨by rw [List.length_cons, m1.1], ?_⟩, ?_, ?_⟩
          · intro u hu
            rcases List.mem_cons.1 hu with rfl | hu
            · exact k1
            · exact m1.2 u hu
          · rw [List.flatMap_cons, wr_append, List.append_assoc, k2, m2]
          · rw [List.flatMap_cons, wr_append, List.length_append, m3, k3]; omega }
theorem in_200 {n : Nat} (h : n ≤ 200) : In64 (n : Int) := by unfold In64; omega
theorem reads_many (b : List UInt8) : Reads b (pmany b) (fun n => [(n : Int)]) (fun n => n ≤ 200) where
  fwd := fun {a v t} h hb => by
    rw [wr_one] at hb ⊢
    unfold pmany
    rw [pnum_num (in_200 h) hb]
    simp only
    rw [if_pos (by omega)]
    rfl
  back := fun {a v a'} h => by
    unfold pmany at h
    split at h
    · cases h
    · rename_i n a1 hp
      split at h
      · rename_i hn
        injection h with h
        injection h with e1 e2
        subst e1 e2
        rw [wr_one]
        have : ((n.toNat : Nat) : Int) = n := by omega
        rw [this]
        exact ⟨by omega, (pnum_back hp).1, (pnum_back hp).2⟩
      · cases h
theorem Reads.list {α : Type} {b : List UInt8} {p : Pr α} {e : α → List Int} {ok : α → Prop} (h : Reads b p e ok) : Reads b (plist b p) (fun l => (l.length : Int) :: l.flatMap e) (fun l => l.length ≤ 200 ∧ ∀ v ∈ l, ok v) := by
  have := Reads.bind (q := fun n => prep p n) List.length (reads_many b) (fun n => h.rep n) (fun n l hl => hl.1)
  rw [plist_eq]
  exact { fwd := fun {a v t} hv hb => this.fwd (a := a) (v := v) (t := t) ⟨hv.1, rfl, hv.2⟩ hb, back := fun {a v a'} hh => by obtain ⟨⟨h1, h2, h3⟩, h4, h5⟩ := this.back hh; exact ⟨⟨h1, h3⟩, h4, h5⟩ }
/-- the same, told by other words. -/
theorem Reads.as {α : Type} {b : List UInt8} {p : Pr α} {e e' : α → List Int} {ok ok' : α → Prop} (h : Reads b p e ok) (he : ∀ v, e' v = e v) (ho : ∀ v, ok' v ↔ ok v) : Reads b p e' ok' := by
  obtain rfl : e' = e := funext he
  obtain rfl : ok' = ok := funext fun v => propext (ho v)
  exact h
end Wd
end Go.Proofs.YteieikgkmfglaaaGreatDoor

namespace Go.Proofs.YteieikgkmfglaaaGreatDoor
open Go.RowKit

/-- nothing below has turned but block z. -/
structure Kp (z : Nat) (w w' : World) : Prop where
  os : w'.os = w.os
  tape : w'.tape = w.tape
  output : w'.output = w.output
  size : w.heap.size ≤ w'.heap.size
  block : ∀ k, k < w.heap.size → k ≠ z → w'.heap[k]? = w.heap[k]?

theorem Kp.of {z : Nat} {w w' : World} (h : Below w.heap.size w w') : Kp z w w' := ⟨h.os, h.tape, h.output, h.size, fun k hk _ => h.block k hk⟩
theorem Kp.refl (z : Nat) (w : World) : Kp z w w := Kp.of (Below.refl _ _)
theorem Kp.trans {z : Nat} {a b c : World} (h : Kp z a b) (k : Kp z b c) : Kp z a c :=
  ⟨k.os.trans h.os, k.tape.trans h.tape, k.output.trans h.output, Nat.le_trans h.size k.size, fun i hi hz => (k.block i (Nat.lt_of_lt_of_le hi h.size) hz).trans (h.block i hi hz)⟩
theorem Kp.set {z : Nat} (w : World) (i : Nat) (u : Value) : Kp z w (w.setCell ⟨z, i, none⟩ u) :=
  ⟨rfl, rfl, rfl, by simp [World.setCell], fun k _ hz => Below.heap_setCell _ _ _ _ hz⟩
theorem Kp.below {z B : Nat} {a w w' : World} (h : Below B a w) (k : Kp z w w') (hB : B ≤ w.heap.size) (hz : B ≤ z) : Below B a w' :=
  h.trans ⟨k.os, k.tape, k.output, k.size, fun i hi => k.block i (by omega) (by omega)⟩

theorem Kp.set_new {z b : Nat} {w W : World} (h : Kp z w W) (hb : w.heap.size ≤ b) (i : Nat) (u : Value) : Kp z w (W.setCell ⟨b, i, none⟩ u) :=
  ⟨h.os, h.tape, h.output, by simpa [World.setCell] using h.size, fun k hk hz => (Below.heap_setCell _ _ _ _ (by show k ≠ b; omega)).trans (h.block k hk hz)⟩
theorem Kp.drewN {z : Nat} {w W : World} (h : Kp z w W) (n : Nat) : Kp z w (W.drewN n) := ⟨h.os, h.tape, h.output, h.size, h.block⟩

theorem lt_of_block {w : World} {b : Nat} {o : Obj} (h : w.heap[b]? = some o) : b < w.heap.size := by
  rcases Nat.lt_or_ge b w.heap.size with h1 | h1
  · exact h1
  · rw [Array.getElem?_eq_none h1] at h; cases h

end Go.Proofs.YteieikgkmfglaaaGreatDoor

namespace Go.Proofs.YteieikgkmfglaaaGreatDoor

/-- nil, or a row of cells: the numbers zs, of which the first len are the elements. -/
def IsRow (k : IntKind) (w : World) (a : Option Addr) (len cap : Nat) (zs : List Int) : Prop :=
  (a = none ∧ len = 0 ∧ cap = 0 ∧ zs = []) ∨
  ∃ x, a = some x ∧ len ≤ cap ∧ cap ≤ maxLen ∧ zs.length = cap ∧ (∀ i, i < zs.length → w.cell? (x.add i) = some (.int k (zs.getD i 0))) ∧ ∀ n ∈ zs, (Lit.int k n).wf = true
end Go.Proofs.YteieikgkmfglaaaGreatDoor

namespace Go.Proofs.YteieikgkmfglaaaGreatDoor
open Go.RowKit

/-- the cells of a list, from an address on. -/
def Cells (w : World) (a : Option Addr) (xs : List Int) : Prop := xs ≠ [] → ∃ x, a = some x ∧ x.block < w.heap.size ∧ ∀ i d, xs[i]? = some d → w.cell? (x.add i) = some (.int .i64 d)
/-- v is a slice of the integers xs. -/
def Ro (w : World) (v : Value) (xs : List Int) : Prop := ∃ (a : Option Addr) (c : Nat), v = .slice a xs.length c ∧ xs.length ≤ c ∧ c ≤ 9223372036854775807 ∧ Cells w a xs

theorem cell_lt {w : World} {x : Addr} {v : Value} (h : w.cell? x = some v) : x.block < w.heap.size := by
  rcases Nat.lt_or_ge x.block w.heap.size with h1 | h1
  · exact h1
  · simp [World.cell?, Array.getElem?_eq_none h1] at h

theorem add_block (x : Addr) (i : Nat) : (x.add i).block = x.block := by unfold Addr.add; split <;> rfl

theorem Cells.below {w w' : World} {a : Option Addr} {xs : List Int} (h : Cells w a xs) (hb : Below w.heap.size w w') : Cells w' a xs := fun hx => by
  obtain ⟨x, ha, hl, hc⟩ := h hx
  refine ⟨x, ha, Nat.lt_of_lt_of_le hl hb.size, fun i d hd => ?_⟩
  rw [hb.cell (p := x.add i) (by rw [add_block]; exact hl)]
  exact hc i d hd
theorem Ro.below {w w' : World} {v : Value} {xs : List Int} (h : Ro w v xs) (hb : Below w.heap.size w w') : Ro w' v xs := by
  obtain ⟨a, c, h1, h2, h3, h4⟩ := h
  exact ⟨a, c, h1, h2, h3, h4.below hb⟩
theorem Ro.drewN {w : World} {v : Value} {xs : List Int} (h : Ro w v xs) (n : Nat) : Ro (w.drewN n) v xs := h.below (_root_.Go.below_drewN (Below.refl _ _) n)

/-- what came in. -/
theorem IsRow.ro {w : World} {a : Option Addr} {len cap : Nat} {zs : List Int} (h : IsRow .i64 w a len cap zs) : Ro w (.slice a len cap) (zs.take len) := by
  rcases h with ⟨rfl, rfl, rfl, rfl⟩ | ⟨x, rfl, h1, h2, h3, h4, h5⟩
  · exact ⟨none, 0, rfl, Nat.le_refl _, by omega, fun h => absurd rfl h⟩
  · have hl : (zs.take len).length = len := by rw [List.length_take]; omega
    refine ⟨some x, cap, by rw [hl], by omega, by unfold maxLen at h2; omega, fun hx => ⟨x, rfl, ?_, fun i d hd => ?_⟩⟩
    · have h0 : 0 < zs.length := by
        rcases Nat.eq_zero_or_pos zs.length with h | h
        · exact absurd (by rw [List.length_eq_zero_iff.1 h]; simp) hx
        · exact h
      have := cell_lt (x := x.add 0) (h4 0 h0)
      rwa [add_block] at this
    · rw [List.getElem?_take] at hd
      split at hd
      · obtain ⟨hi, he⟩ := List.getElem?_eq_some_iff.1 hd
        rw [h4 i hi, List.getD_eq_getElem?_getD, hd]
        rfl
      · cases hd
end Go.Proofs.YteieikgkmfglaaaGreatDoor

namespace Go.Proofs.YteieikgkmfglaaaGreatDoor
open Go.RowKit
set_option linter.unusedVariables false

structure UnV where
  id : Int
  player : Int
  kind : Int
  at_ : Int
  life : Int
  load : Int
  task : Int
  goal : Int
def UnV.val (k : UnV) : Value := .agg #[.int .i64 k.id, .int .i64 k.player, .int .i64 k.kind, .int .i64 k.at_, .int .i64 k.life, .int .i64 k.load, .int .i64 k.task, .int .i64 k.goal]
/-- its cells, from an address on. -/
structure Unc (w : World) (y : Addr) (k : UnV) : Prop where
  c0 : w.cell? y = some (.int .i64 k.id)
  c1 : w.cell? ⟨y.block, y.off + 1, none⟩ = some (.int .i64 k.player)
  c2 : w.cell? ⟨y.block, y.off + 2, none⟩ = some (.int .i64 k.kind)
  c3 : w.cell? ⟨y.block, y.off + 3, none⟩ = some (.int .i64 k.at_)
  c4 : w.cell? ⟨y.block, y.off + 4, none⟩ = some (.int .i64 k.life)
  c5 : w.cell? ⟨y.block, y.off + 5, none⟩ = some (.int .i64 k.load)
  c6 : w.cell? ⟨y.block, y.off + 6, none⟩ = some (.int .i64 k.task)
  c7 : w.cell? ⟨y.block, y.off + 7, none⟩ = some (.int .i64 k.goal)
theorem Unc.lt {w : World} {y : Addr} {k : UnV} (h : Unc w y k) : y.block < w.heap.size := cell_lt h.c0
theorem Unc.below {w w' : World} {y : Addr} {k : UnV} {B : Nat} (h : Unc w y k) (hb : Below B w w') (hy : y.block < B) : Unc w' y k :=
  ⟨by rw [hb.cell (p := y) hy]; exact h.c0, by rw [hb.cell (p := ⟨y.block, y.off + 1, none⟩) hy]; exact h.c1, by rw [hb.cell (p := ⟨y.block, y.off + 2, none⟩) hy]; exact h.c2, by rw [hb.cell (p := ⟨y.block, y.off + 3, none⟩) hy]; exact h.c3, by rw [hb.cell (p := ⟨y.block, y.off + 4, none⟩) hy]; exact h.c4, by rw [hb.cell (p := ⟨y.block, y.off + 5, none⟩) hy]; exact h.c5, by rw [hb.cell (p := ⟨y.block, y.off + 6, none⟩) hy]; exact h.c6, by rw [hb.cell (p := ⟨y.block, y.off + 7, none⟩) hy]; exact h.c7⟩
/-- v is a slice of them. -/
def Unl (w : World) (v : Value) (ks : List UnV) : Prop := ∃ a c, v = .slice a ks.length c ∧ ks.length ≤ c ∧ c ≤ 9223372036854775807 ∧ (ks ≠ [] → ∃ x, a = some x ∧ x.block < w.heap.size ∧ ∀ (i : Nat) k, ks[i]? = some k → Unc w (x.add (i * 8)) k)
theorem Unl.below {w w' : World} {v : Value} {ks : List UnV} (h : Unl w v ks) (hb : Below w.heap.size w w') : Unl w' v ks := by
  obtain ⟨a, c, h1, h2, h3, h4⟩ := h
  refine ⟨a, c, h1, h2, h3, fun hn => ?_⟩
  obtain ⟨x, e, hx, hk⟩ := h4 hn
  exact ⟨x, e, Nat.lt_of_lt_of_le hx hb.size, fun i k hi => (hk i k hi).below hb (by rw [add_block]; exact hx)⟩
theorem Unc.mk' {w : World} {z : Nat} (k : UnV) (hz : w.heap.size = z) : Unc (w.alloc (.cells #[.int .i64 k.id, .int .i64 k.player, .int .i64 k.kind, .int .i64 k.at_, .int .i64 k.life, .int .i64 k.load, .int .i64 k.task, .int .i64 k.goal] 44)) ⟨z, 0, none⟩ k := by
  subst hz
  constructor <;> simp
end Go.Proofs.YteieikgkmfglaaaGreatDoor

namespace Go.Proofs.YteieikgkmfglaaaGreatDoor
open Go.RowKit
set_option linter.unusedVariables false

structure JbV where
  player : Int
  unit : Int
  kind : Int
  left : Int
def JbV.val (k : JbV) : Value := .agg #[.int .i64 k.player, .int .i64 k.unit, .int .i64 k.kind, .int .i64 k.left]
/-- its cells, from an address on. -/
structure Jbc (w : World) (y : Addr) (k : JbV) : Prop where
  c0 : w.cell? y = some (.int .i64 k.player)
  c1 : w.cell? ⟨y.block, y.off + 1, none⟩ = some (.int .i64 k.unit)
  c2 : w.cell? ⟨y.block, y.off + 2, none⟩ = some (.int .i64 k.kind)
  c3 : w.cell? ⟨y.block, y.off + 3, none⟩ = some (.int .i64 k.left)
theorem Jbc.lt {w : World} {y : Addr} {k : JbV} (h : Jbc w y k) : y.block < w.heap.size := cell_lt h.c0
theorem Jbc.below {w w' : World} {y : Addr} {k : JbV} {B : Nat} (h : Jbc w y k) (hb : Below B w w') (hy : y.block < B) : Jbc w' y k :=
  ⟨by rw [hb.cell (p := y) hy]; exact h.c0, by rw [hb.cell (p := ⟨y.block, y.off + 1, none⟩) hy]; exact h.c1, by rw [hb.cell (p := ⟨y.block, y.off + 2, none⟩) hy]; exact h.c2, by rw [hb.cell (p := ⟨y.block, y.off + 3, none⟩) hy]; exact h.c3⟩
/-- v is a slice of them. -/
def Jbl (w : World) (v : Value) (ks : List JbV) : Prop := ∃ a c, v = .slice a ks.length c ∧ ks.length ≤ c ∧ c ≤ 9223372036854775807 ∧ (ks ≠ [] → ∃ x, a = some x ∧ x.block < w.heap.size ∧ ∀ (i : Nat) k, ks[i]? = some k → Jbc w (x.add (i * 4)) k)
theorem Jbl.below {w w' : World} {v : Value} {ks : List JbV} (h : Jbl w v ks) (hb : Below w.heap.size w w') : Jbl w' v ks := by
  obtain ⟨a, c, h1, h2, h3, h4⟩ := h
  refine ⟨a, c, h1, h2, h3, fun hn => ?_⟩
  obtain ⟨x, e, hx, hk⟩ := h4 hn
  exact ⟨x, e, Nat.lt_of_lt_of_le hx hb.size, fun i k hi => (hk i k hi).below hb (by rw [add_block]; exact hx)⟩
theorem Jbc.mk' {w : World} {z : Nat} (k : JbV) (hz : w.heap.size = z) : Jbc (w.alloc (.cells #[.int .i64 k.player, .int .i64 k.unit, .int .i64 k.kind, .int .i64 k.left] 71)) ⟨z, 0, none⟩ k := by
  subst hz
  constructor <;> simp
end Go.Proofs.YteieikgkmfglaaaGreatDoor

namespace Go.Proofs.YteieikgkmfglaaaGreatDoor
set_option linter.unusedVariables false

structure WV where
  turn : Int
  next : Int
  wide : Int
  high : Int
  gs : List Int
  os : List Int
  gold : List Int
  us : List UnV
  qs : List JbV
namespace Wd

def punit (b : List UInt8) : Pr UnV := pbind (pnum b) fun v0 => pbind (pnum b) fun v1 => pbind (pnum b) fun v2 => pbind (pnum b) fun v3 => pbind (pnum b) fun v4 => pbind (pnum b) fun v5 => pbind (pnum b) fun v6 => pbind (pnum b) fun v7 => pret ⟨v0, v1, v2, v3, v4, v5, v6, v7⟩
def pjob (b : List UInt8) : Pr JbV := pbind (pnum b) fun v0 => pbind (pnum b) fun v1 => pbind (pnum b) fun v2 => pbind (pnum b) fun v3 => pret ⟨v0, v1, v2, v3⟩
def pworld (b : List UInt8) : Pr WV := pbind (pnum b) fun t => pbind (pnum b) fun x => pbind (pnum b) fun wd => pbind (pnum b) fun hg => pbind (plist b (pnum b)) fun gs => pbind (plist b (pnum b)) fun os => pbind (plist b (pnum b)) fun gold => pbind (plist b (punit b)) fun us => pbind (plist b (pjob b)) fun qs => pret ⟨t, x, wd, hg, gs, os, gold, us, qs⟩

def unums (u : UnV) : List Int := [u.id, u.player, u.kind, u.at_, u.life, u.load, u.task, u.goal]
def jnums (j : JbV) : List Int := [j.player, j.unit, j.kind, j.left]
def nums (W : WV) : List Int := [W.turn, W.next, W.wide, W.high] ++ ((W.gs.length : Int) :: W.gs) ++ ((W.os.length : Int) :: W.os) ++ ((W.gold.length : Int) :: W.gold) ++ ((W.us.length : Int) :: W.us.flatMap unums) ++ ((W.qs.length : Int) :: W.qs.flatMap jnums)
def enc (W : WV) : List UInt8 := wr (nums W)
structure Wok (W : WV) : Prop where
  in_ : ∀ n ∈ nums W, In64 n
  g : W.gs.length ≤ 200
  o : W.os.length ≤ 200
  p : W.gold.length ≤ 200
  u : W.us.length ≤ 200
  q : W.qs.length ≤ 200

theorem reads_unit (b : List UInt8) : Reads b (punit b) unums (fun u => ∀ n ∈ unums u, In64 n) := by
  have h := reads_num b
  have := Reads.bind UnV.id h (fun v0 => Reads.bind UnV.player h (fun v1 => Reads.bind UnV.kind h (fun v2 => Reads.bind UnV.at_ h (fun v3 => Reads.bind UnV.life h (fun v4 => Reads.bind UnV.load h (fun v5 => Reads.bind UnV.task h (fun v6 => Reads.bind UnV.goal h (fun v7 => reads_ret b (⟨v0, v1, v2, v3, v4, v5, v6, v7⟩ : UnV)) (by intro v u hu; subst hu; rfl)) (by intro v u hu; rw [hu.2])) (by intro v u hu; rw [hu.2.2])) (by intro v u hu; rw [hu.2.2.2])) (by intro v u hu; rw [hu.2.2.2.2])) (by intro v u hu; rw [hu.2.2.2.2.2])) (by intro v u hu; rw [hu.2.2.2.2.2.2])) (by intro v u hu; rw [hu.2.2.2.2.2.2.2])
  refine this.as (fun v => rfl) fun v => ?_
  simp [unums]
theorem reads_job (b : List UInt8) : Reads b (pjob b) jnums (fun u => ∀ n ∈ jnums u, In64 n) := by
  have h := reads_num b
  have := Reads.bind JbV.player h (fun v0 => Reads.bind JbV.unit h (fun v1 => Reads.bind JbV.kind h (fun v2 => Reads.bind JbV.left h (fun v3 => reads_ret b (⟨v0, v1, v2, v3⟩ : JbV)) (by intro v u hu; subst hu; rfl)) (by intro v u hu; rw [hu.2])) (by intro v u hu; rw [hu.2.2])) (by intro v u hu; rw [hu.2.2.2])
  refine this.as (fun v => rfl) fun v => ?_
  simp [jnums]
theorem fm_one : ∀ l : List Int, l.flatMap (fun n => [n]) = l
  | [] => rfl
  | x :: l => by rw [List.flatMap_cons, fm_one l]; rfl
theorem reads_ints (b : List UInt8) : Reads b (plist b (pnum b)) (fun l => (l.length : Int) :: l) (fun l => l.length ≤ 200 ∧ ∀ v ∈ l, In64 v) := (reads_num b).list.as (fun v => by rw [fm_one]) (fun v => Iff.rfl)
theorem reads_world (b : List UInt8) : Reads b (pworld b) nums Wok := by
  have h := reads_num b
  have hi := reads_ints b
  have := Reads.bind WV.turn h (fun v0 => Reads.bind WV.next h (fun v1 => Reads.bind WV.wide h (fun v2 => Reads.bind WV.high h (fun v3 => Reads.bind WV.gs hi (fun v4 => Reads.bind WV.os hi (fun v5 => Reads.bind WV.gold hi (fun v6 => Reads.bind WV.us (reads_unit b).list (fun v7 => Reads.bind WV.qs (reads_job b).list (fun v8 => reads_ret b (⟨v0, v1, v2, v3, v4, v5, v6, v7, v8⟩ : WV)) (by intro v u hu; subst hu; rfl)) (by intro v u hu; rw [hu.2])) (by intro v u hu; rw [hu.2.2])) (by intro v u hu; rw [hu.2.2.2])) (by intro v u hu; rw [hu.2.2.2.2])) (by intro v u hu; rw [hu.2.2.2.2.2])) (by intro v u hu; rw [hu.2.2.2.2.2.2])) (by intro v u hu; rw [hu.2.2.2.2.2.2.2])) (by intro v u hu; rw [hu.2.2.2.2.2.2.2.2])
  refine this.as (fun v => by simp [nums]) fun v => ?_
  constructor
  · intro k
    have i := k.in_
    have mem : ∀ {n : Int}, n ∈ nums v ↔ n = v.turn ∨ n = v.next ∨ n = v.wide ∨ n = v.high ∨ n = v.gs.length ∨ n ∈ v.gs ∨ n = v.os.length ∨ n ∈ v.os ∨ n = v.gold.length ∨ n ∈ v.gold ∨ n = v.us.length ∨ n ∈ v.us.flatMap unums ∨ n = v.qs.length ∨ n ∈ v.qs.flatMap jnums := by
      intro n; simp [nums]
    refine ⟨i _ (mem.2 (by simp)), i _ (mem.2 (by simp)), i _ (mem.2 (by simp)), i _ (mem.2 (by simp)), ⟨k.g, fun n hn => i _ (mem.2 (by simp [hn]))⟩, ⟨k.o, fun n hn => i _ (mem.2 (by simp [hn]))⟩, ⟨k.p, fun n hn => i _ (mem.2 (by simp [hn]))⟩, ⟨k.u, fun u hu n hn => i _ (mem.2 ?_)⟩, ⟨k.q, fun u hu n hn => i _ (mem.2 ?_)⟩, rfl⟩
    · have : n ∈ v.us.flatMap unums := List.mem_flatMap.2 ⟨u, hu, hn⟩
      simp only [this, true_or, or_true]
    · have : n ∈ v.qs.flatMap jnums := List.mem_flatMap.2 ⟨u, hu, hn⟩
      simp only [this, or_true]
  · rintro ⟨h0, h1, h2, h3, ⟨h4, h5⟩, ⟨h6, h7⟩, ⟨h8, h9⟩, ⟨h10, h11⟩, ⟨h12, h13⟩, -⟩
    refine ⟨?_, h4, h6, h8, h10, h12⟩
    intro n hn
    simp only [nums, List.mem_append, List.mem_cons, List.not_mem_nil, or_false, List.mem_flatMap] at hn
    rcases hn with (((((rfl | rfl | rfl | rfl) | (rfl | hn)) | (rfl | hn)) | (rfl | hn)) | (rfl | ⟨u, hu, hn⟩)) | (rfl | ⟨u, hu, hn⟩)
    · exact h0
    · exact h1
    · exact h2
    · exact h3
    · exact in_200 h4
    · exact h5 _ hn
    · exact in_200 h6
    · exact h7 _ hn
    · exact in_200 h8
    · exact h9 _ hn
    · exact in_200 h10
    · exact h11 u hu n hn
    · exact in_200 h12
    · exact h13 u hu n hn

theorem dec_enc {W : WV} (h : Wok W) (t : List UInt8) : pworld (enc W ++ t) 0 = some (W, (enc W).length) := by
  have := (reads_world (enc W ++ t)).fwd (a := 0) (v := W) (t := t) h rfl
  rw [Nat.zero_add] at this
  exact this
theorem dec_back {b : List UInt8} {W : WV} {n : Nat} (h : pworld b 0 = some (W, n)) : Wok W ∧ b = enc W ++ b.drop n ∧ n = (enc W).length := by
  obtain ⟨h1, h2, h3⟩ := (reads_world b).back h
  exact ⟨h1, h2, by rw [h3, Nat.zero_add]; rfl⟩
theorem num_pos (n : Int) : 0 < (num n).length := by
  unfold num
  by_cases h : zz n < 128
  · rw [vl_small h]; simp
  · rw [vl_great (by omega)]; simp
theorem dec_cut {W : WV} (h : Wok W) {m : Nat} (hm : m < (enc W).length) : pworld ((enc W).take m) 0 = none := by
  cases hp : pworld ((enc W).take m) 0 with
  | none => rfl
  | some x =>
    obtain ⟨W', n⟩ := x
    obtain ⟨k1, k2, k3⟩ := dec_back hp
    have e : enc W = enc W' ++ (((enc W).take m).drop n ++ (enc W).drop m) := by
      rw [← List.append_assoc, ← k2, List.take_append_drop]
    have d1 := dec_enc k1 (((enc W).take m).drop n ++ (enc W).drop m)
    rw [← e] at d1
    have d2 := dec_enc h []
    rw [List.append_nil, d1] at d2
    have d3 : (enc W').length = (enc W).length := by injection d2 with d2; injection d2
    have d4 := congrArg List.length k2
    rw [List.length_append, List.length_take] at d4
    omega
end Wd
end Go.Proofs.YteieikgkmfglaaaGreatDoor

namespace Go.Proofs.YteieikgkmfglaaaGreatDoor.Fd

/-- what is wrong with a cell. -/
def cellFault (g o : Int) : Int := if g < 0 ∨ 3 < g ∨ o < 0 ∨ 1000000 < o then 1 else if 0 < o ∧ g ≠ 0 then 7 else 0
def cellsFault : List Int → List Int → Int
  | g :: gs, o :: os => if cellFault g o = 0 then cellsFault gs os else cellFault g o
  | _, _ => 0
/-- what is wrong with a field. -/
def fault (W H : Int) (gs os : List Int) : Int :=
  if W < 1 ∨ 12 < W ∨ H < 1 ∨ 12 < H then 1 else if (gs.length : Int) ≠ W * H ∨ (os.length : Int) ≠ W * H then 3 else cellsFault gs os

/-- a field with which nothing is wrong. -/
structure Good (W H : Nat) (gs os : List Int) : Prop where
  w1 : 1 ≤ W
  w2 : W ≤ 12
  h1 : 1 ≤ H
  h2 : H ≤ 12
  gl : gs.length = W * H
  ol : os.length = W * H
  cell : ∀ (i : Nat) g o, gs[i]? = some g → os[i]? = some o → 0 ≤ g ∧ g ≤ 3 ∧ 0 ≤ o ∧ o ≤ 1000000 ∧ (0 < o → g = 0)

theorem cellFault_zero {g o : Int} (h : cellFault g o = 0) : 0 ≤ g ∧ g ≤ 3 ∧ 0 ≤ o ∧ o ≤ 1000000 ∧ (0 < o → g = 0) := by
  unfold cellFault at h
  split at h
  · omega
  · split at h
    · omega
    · omega
theorem cellsFault_zero : ∀ (gs os : List Int), cellsFault gs os = 0 → ∀ (i : Nat) g o, gs[i]? = some g → os[i]? = some o → cellFault g o = 0
  | [], _, _, i, g, o, h1, _ => by simp at h1
  | _ :: _, [], _, i, g, o, _, h2 => by simp at h2
  | g0 :: gs, o0 :: os, h, i, g, o, h1, h2 => by
    unfold cellsFault at h
    split at h
    · rename_i hc
      cases i with
      | zero => simp at h1 h2; subst h1; subst h2; exact hc
      | succ i => exact cellsFault_zero gs os h i g o (by simpa using h1) (by simpa using h2)
    · rename_i hc
      exact absurd h hc
theorem cellsFault_range (gs os : List Int) : cellsFault gs os = 0 ∨ cellsFault gs os = 1 ∨ cellsFault gs os = 7 := by
  induction gs generalizing os with
  | nil => left; unfold cellsFault; rfl
  | cons g gs ih =>
    cases os with
    | nil => left; unfold cellsFault; rfl
    | cons o os =>
      unfold cellsFault
      split
      · exact ih os
      · unfold cellFault
        split
        · right; left; rfl
        · split
          · right; right; rfl
          · left; rfl
theorem fault_range (W H : Int) (gs os : List Int) : fault W H gs os = 0 ∨ fault W H gs os = 1 ∨ fault W H gs os = 3 ∨ fault W H gs os = 7 := by
  unfold fault
  split
  · omega
  · split
    · omega
    · have := cellsFault_range gs os; omega
theorem fault_zero {W H : Int} {gs os : List Int} (h : fault W H gs os = 0) : ∃ W' H' : Nat, W = W' ∧ H = H' ∧ Good W' H' gs os := by
  unfold fault at h
  split at h
  · omega
  · split at h
    · omega
    · rename_i h1 h2
      refine ⟨W.toNat, H.toNat, by omega, by omega, by omega, by omega, by omega, by omega, ?_, ?_, fun i g o hg ho => cellFault_zero (cellsFault_zero gs os h i g o hg ho)⟩
      · have e : ((W.toNat * H.toNat : Nat) : Int) = W * H := by rw [Int.natCast_mul, Int.toNat_of_nonneg (by omega), Int.toNat_of_nonneg (by omega)]
        omega
      · have e : ((W.toNat * H.toNat : Nat) : Int) = W * H := by rw [Int.natCast_mul, Int.toNat_of_nonneg (by omega), Int.toNat_of_nonneg (by omega)]
        omega
theorem cellFault_of {g o : Int} (h : 0 ≤ g ∧ g ≤ 3 ∧ 0 ≤ o ∧ o ≤ 1000000 ∧ (0 < o → g = 0)) : cellFault g o = 0 := by
  unfold cellFault
  rw [if_neg (by omega), if_neg (by omega)]
theorem cellsFault_of : ∀ (gs os : List Int), (∀ (i : Nat) g o, gs[i]? = some g → os[i]? = some o → cellFault g o = 0) → cellsFault gs os = 0
  | [], _, _ => by unfold cellsFault; rfl
  | _ :: _, [], _ => by unfold cellsFault; rfl
  | g :: gs, o :: os, h => by
    unfold cellsFault
    rw [if_pos (h 0 g o rfl rfl)]
    exact cellsFault_of gs os fun i g' o' h1 h2 => h (i + 1) g' o' (by simpa using h1) (by simpa using h2)
theorem fault_good {W H : Nat} {gs os : List Int} (h : Good W H gs os) : fault W H gs os = 0 := by
  have e : ((W * H : Nat) : Int) = (W : Int) * H := Int.natCast_mul _ _
  have := h.gl; have := h.ol; have := h.w1; have := h.w2; have := h.h1; have := h.h2
  unfold fault
  rw [if_neg (by omega), if_neg (by omega)]
  exact cellsFault_of gs os fun i g o h1 h2 => cellFault_of (h.cell i g o h1 h2)
theorem Good.pos {W H : Nat} {gs os : List Int} (h : Good W H gs os) : 1 ≤ W * H ∧ W * H ≤ 144 := by
  have h1 := Nat.mul_le_mul h.w1 h.h1
  have h2 := Nat.mul_le_mul h.w2 h.h2
  omega
theorem cellsFault_drop (gs os : List Int) (k : Nat) (g o : Int) (hg : gs[k]? = some g) (ho : os[k]? = some o) :
    cellsFault (gs.drop k) (os.drop k) = if cellFault g o = 0 then cellsFault (gs.drop (k + 1)) (os.drop (k + 1)) else cellFault g o := by
  obtain ⟨h1, e1⟩ := List.getElem?_eq_some_iff.1 hg
  obtain ⟨h2, e2⟩ := List.getElem?_eq_some_iff.1 ho
  rw [List.drop_eq_getElem_cons h1, List.drop_eq_getElem_cons h2, e1, e2]
  rfl

/-- the fault of a cell's number. -/
def askFault (F : Int) (n : Nat) (xs : List Int) : Int := if F ≠ 0 then F else if xs.all (fun x => decide (0 ≤ x ∧ x < n)) then 0 else 6

/-- the cells beside one. -/
def near (W H a : Nat) : List Int :=
  (if 0 < a / W then [(a : Int) - W] else []) ++ ((if 0 < a % W then [(a : Int) - 1] else []) ++ ((if a % W + 1 < W then [(a : Int) + 1] else []) ++ (if a / W + 1 < H then [(a : Int) + W] else [])))

/-- how far it is onto a ground. -/
def onto (g : Int) (flies : Bool) : Int := if g = 1 then 0 else if g = 2 then (if flies then 1 else 0) else if g = 3 then (if flies then 1 else 2) else 1
end Go.Proofs.YteieikgkmfglaaaGreatDoor.Fd

namespace Go.Proofs.YteieikgkmfglaaaGreatDoor.Tx

/-- a text at each byte c. -/
def cut (c : UInt8) : List UInt8 → List (List UInt8)
  | [] => [[]]
  | b :: r => if b = c then [] :: cut c r else match cut c r with
    | [] => [[b]]
    | w :: ws => (b :: w) :: ws
/-- and back. -/
def join (c : UInt8) : List (List UInt8) → List UInt8
  | [] => []
  | [w] => w
  | w :: v :: ws => w ++ c :: join c (v :: ws)

theorem cut_ne (c : UInt8) (l : List UInt8) : cut c l ≠ [] := by
  cases l with
  | nil => simp [cut]
  | cons b r =>
    unfold cut
    split
    · simp
    · split <;> simp
theorem join_cons {c : UInt8} {w : List UInt8} {ws : List (List UInt8)} (h : ws ≠ []) : join c (w :: ws) = w ++ c :: join c ws := by
  cases ws with
  | nil => exact absurd rfl h
  | cons v ws => rfl
theorem join_cut (c : UInt8) (l : List UInt8) : join c (cut c l) = l := by
  induction l with
  | nil => rfl
  | cons b r ih =>
    unfold cut
    split
    · rename_i h
      rw [join_cons (cut_ne c r), ih, h]
      rfl
    · cases hw : cut c r with
      | nil => exact absurd hw (cut_ne c r)
      | cons w ws =>
        rw [hw] at ih
        cases ws with
        | nil => rw [← ih]; rfl
        | cons v ws => rw [← ih]; rfl
/-- no word has the byte. -/
theorem cut_free (c : UInt8) (l : List UInt8) : ∀ w ∈ cut c l, c ∉ w := by
  induction l with
  | nil => intro w hw; simp [cut] at hw; subst hw; simp
  | cons b r ih =>
    intro w hw
    unfold cut at hw
    split at hw
    · rcases List.mem_cons.1 hw with rfl | hw
      · simp
      · exact ih w hw
    · rename_i hb
      cases hc : cut c r with
      | nil => exact absurd hc (cut_ne c r)
      | cons v vs =>
        rw [hc] at hw ih
        rcases List.mem_cons.1 hw with rfl | hw
        · intro h
          rcases List.mem_cons.1 h with h | h
          · exact hb h.symm
          · exact ih v (List.mem_cons_self ..) h
        · exact ih w (List.mem_cons_of_mem _ hw)
theorem cut_cons {c b : UInt8} {r w : List UInt8} {ws : List (List UInt8)} (h : b ≠ c) (hr : cut c r = w :: ws) : cut c (b :: r) = (b :: w) :: ws := by
  rw [cut, if_neg h, hr]
theorem cut_word {c : UInt8} {w : List UInt8} (h : c ∉ w) : cut c w = [w] := by
  induction w with
  | nil => rfl
  | cons b w ih =>
    rw [List.mem_cons, not_or] at h
    unfold cut
    rw [if_neg (fun e => h.1 e.symm), ih h.2]
theorem cut_app {c : UInt8} {w : List UInt8} (h : c ∉ w) (r : List UInt8) : cut c (w ++ c :: r) = w :: cut c r := by
  induction w with
  | nil => simp [cut]
  | cons b w ih =>
    rw [List.mem_cons, not_or] at h
    rw [List.cons_append, cut_cons (fun e => h.1 e.symm) (ih h.2)]
theorem cut_join {c : UInt8} : ∀ {ws : List (List UInt8)}, ws ≠ [] → (∀ w ∈ ws, c ∉ w) → cut c (join c ws) = ws
  | [], h, _ => absurd rfl h
  | [w], _, h => cut_word (h w (List.mem_cons_self ..))
  | w :: v :: ws, _, h => by
    rw [join_cons (by simp), cut_app (h w (List.mem_cons_self ..)), cut_join (by simp) (fun x hx => h x (List.mem_cons_of_mem _ hx))]

/-- a digit. -/
def isDig (b : UInt8) : Bool := decide (48 ≤ b.toNat) && decide (b.toNat ≤ 57)
/-- the digits of a number. -/
def dig (n : Nat) : List UInt8 := if n < 10 then [(48 + n).toUInt8] else dig (n / 10) ++ [(48 + n % 10).toUInt8]
termination_by n
/-- the number of some digits. -/
def val (l : List UInt8) : Nat := l.foldl (fun n b => n * 10 + (b.toNat - 48)) 0
/-- a whole number of at most so many digits, without a needless 0. -/
def whole (most : Nat) (l : List UInt8) : Option Nat := if l = [] ∨ most < l.length ∨ (l.head? = some 48 ∧ 1 < l.length) then none else if l.all isDig then some (val l) else none

theorem dig_small {n : Nat} (h : n < 10) : dig n = [(48 + n).toUInt8] := by rw [dig, if_pos h]
theorem dig_big {n : Nat} (h : ¬ n < 10) : dig n = dig (n / 10) ++ [(48 + n % 10).toUInt8] := by rw [dig, if_neg h]
theorem sign_nat {d : Nat} (h : d < 10) : ((48 + d).toUInt8).toNat = 48 + d := by
  show (48 + d) % 256 = 48 + d
  omega
theorem val_snoc (l : List UInt8) (b : UInt8) : val (l ++ [b]) = val l * 10 + (b.toNat - 48) := by
  unfold val
  rw [List.foldl_append]
  rfl
theorem dig_ne (n : Nat) : dig n ≠ [] := by
  rw [dig]
  split <;> simp
theorem dig_all (n : Nat) : (dig n).all isDig = true := by
  induction n using Nat.strongRecOn with
  | ind n ih =>
    by_cases h : n < 10
    · rw [dig_small h]
      simp [isDig]
      omega
    · rw [dig_big h, List.all_append, ih (n / 10) (by omega)]
      simp [isDig]
      omega
theorem val_dig (n : Nat) : val (dig n) = n := by
  induction n using Nat.strongRecOn with
  | ind n ih =>
    by_cases h : n < 10
    · rw [dig_small h]
      show 0 * 10 + (((48 + n).toUInt8).toNat - 48) = n
      rw [sign_nat h]
      omega
    · rw [dig_big h, val_snoc, ih (n / 10) (by omega), sign_nat (show n % 10 < 10 by omega)]
      omega
theorem dig_head (n : Nat) : (dig n).head? = some 48 → n = 0 := by
  induction n using Nat.strongRecOn with
  | ind n ih =>
    intro h
    by_cases hn : n < 10
    · rw [dig_small hn] at h
      simp only [List.head?_cons, Option.some.injEq] at h
      have h2 : ((48 + n).toUInt8).toNat = 48 := by rw [h]; rfl
      rw [sign_nat hn] at h2
      omega
    · rw [dig_big hn] at h
      cases hd : dig (n / 10) with
      | nil => exact absurd hd (dig_ne _)
      | cons b r =>
        rw [hd] at h
        have := ih (n / 10) (by omega) (by rw [hd]; simpa using h)
        omega
theorem dig_len {n : Nat} : ∀ {k : Nat}, 0 < k → n < 10 ^ k → (dig n).length ≤ k := by
  induction n using Nat.strongRecOn with
  | ind n ih =>
    intro k hk h
    by_cases hn : n < 10
    · rw [dig_small hn]
      simp
      omega
    · rw [dig_big hn, List.length_append]
      cases k with
      | zero => omega
      | succ k =>
        have hk0 : 0 < k := by
          rcases Nat.eq_zero_or_pos k with rfl | hp
          · simp at h; omega
          · exact hp
        have h2 : n / 10 < 10 ^ k := by
          rw [Nat.pow_succ] at h
          omega
        have := ih (n / 10) (by omega) hk0 h2
        simp
        omega
theorem whole_dig {n most : Nat} (h0 : 0 < most) (h : n < 10 ^ most) : whole most (dig n) = some n := by
  unfold whole
  rw [if_neg, if_pos (dig_all n), val_dig]
  rintro (h1 | h1 | ⟨h1, h2⟩)
  · exact dig_ne n h1
  · have := dig_len h0 h
    omega
  · have := dig_head n h1
    subst this
    rw [dig_small (by decide)] at h2
    simp at h2
theorem dig_val : ∀ (k : Nat) (l : List UInt8), l.length = k → l ≠ [] → ¬ (l.head? = some 48 ∧ 1 < l.length) → l.all isDig = true → dig (val l) = l := by
  intro k
  induction k with
  | zero => intro l h1 h2; exact absurd (List.length_eq_zero_iff.1 h1) h2
  | succ k ih =>
    intro l hl hne hz hd
    obtain ⟨r, b, rfl⟩ : ∃ r b, l = r ++ [b] := ⟨l.dropLast, l.getLast hne, (List.dropLast_concat_getLast hne).symm⟩
    have hb : isDig b = true := by
      rw [List.all_append] at hd
      simp at hd
      exact hd.2
    have hbn : 48 ≤ b.toNat ∧ b.toNat ≤ 57 := by
      unfold isDig at hb
      simpa using hb
    have back : ((48 + (b.toNat - 48)).toUInt8) = b := by
      rw [show 48 + (b.toNat - 48) = b.toNat by omega]
      simp
    rw [val_snoc]
    by_cases hr : r = []
    · subst hr
      rw [show val [] = 0 from rfl, Nat.zero_mul, Nat.zero_add, dig_small (by omega), back]
      rfl
    · have hrd : r.all isDig = true := by
        rw [List.all_append] at hd
        simp at hd
        rw [List.all_eq_true]
        exact hd.1
      have hrl : r.length = k := by simpa using hl
      have hhead : (r ++ [b]).head? = r.head? := by
        cases r with
        | nil => exact absurd rfl hr
        | cons a r => rfl
      have hr0 : 0 < r.length := List.length_pos_iff.2 hr
      have hz' : ¬ r.head? = some 48 := fun h => hz ⟨by rw [hhead]; exact h, by simp; omega⟩
      have hi := ih r hrl hr (fun h => hz' h.1) hrd
      have hv : val r ≠ 0 := by
        intro h
        rw [h, dig_small (by decide)] at hi
        rw [← hi] at hz'
        exact hz' rfl
      have e : (val r * 10 + (b.toNat - 48)) / 10 = val r := by omega
      have e2 : (val r * 10 + (b.toNat - 48)) % 10 = b.toNat - 48 := by omega
      rw [dig_big (by omega), e, e2, hi, back]
theorem dig_whole {most n : Nat} {l : List UInt8} (h : whole most l = some n) : dig n = l := by
  unfold whole at h
  split at h
  · cases h
  · rename_i hc
    rw [not_or, not_or] at hc
    split at h
    · rename_i hd
      injection h with h
      rw [← h]
      exact dig_val l.length l rfl hc.1 hc.2.2 hd
    · cases h
theorem whole_lt {most n : Nat} {l : List UInt8} (h : whole most l = some n) : l.length ≤ most := by
  unfold whole at h
  split at h
  · cases h
  · rename_i hc
    rw [not_or, not_or] at hc
    omega
theorem whole_ne {most n : Nat} {l : List UInt8} (h : whole most l = some n) : l ≠ [] := by
  rintro rfl
  simp [whole] at h
/-- digits are no blank and no end of a line. -/
theorem dig_free (n : Nat) (c : UInt8) (h : c.toNat < 48) : c ∉ dig n := by
  intro hm
  have := List.all_eq_true.1 (dig_all n) c hm
  unfold isDig at this
  simp at this
  omega
end Go.Proofs.YteieikgkmfglaaaGreatDoor.Tx

namespace Go.Proofs.YteieikgkmfglaaaGreatDoor.Kd
open Tx

/-- a kind: Life, Hit, Range, Sight, Speed, Price, Turns, Carry are its numbers. -/
structure K where
  name : List UInt8
  nums : List Int
  flies : Bool
  trains : Bool

def isLetter (b : UInt8) : Bool := decide (97 ≤ b.toNat) && decide (b.toNat ≤ 122)
def nameOk (l : List UInt8) : Bool := !l.isEmpty && (decide (l.length ≤ 8) && l.all isLetter)
def numsFault (ns : List Int) : Int := if ns.any (fun x => decide (x < 0 ∨ 1000 < x)) then 1 else if ns.getD 0 0 < 1 ∨ 4 < ns.getD 4 0 ∨ 12 < ns.getD 2 0 ∨ 12 < ns.getD 3 0 then 1 else 0
/-- what is wrong with one, those ahead being right. -/
def kindFault (ahead : List K) (k : K) : Int := if nameOk k.name then (if ahead.any (fun a => a.name == k.name) then 8 else numsFault k.nums) else 2
def kindsGo (ahead : List K) : List K → Int
  | [] => 0
  | k :: r => if kindFault ahead k = 0 then kindsGo (ahead ++ [k]) r else kindFault ahead k
/-- what is wrong with some. -/
def kindsFault (l : List K) : Int := if 8 < l.length then 4 else kindsGo [] l

def flag (b : Bool) (c : UInt8) : List UInt8 := if b then [c] else [45]
def words (k : K) : List (List UInt8) := k.name :: ((k.nums.map fun n => dig n.toNat) ++ [flag k.flies 102, flag k.trains 116])
def kline (k : K) : List UInt8 := join 32 (words k)
def prt (l : List K) : List UInt8 := l.flatMap fun k => kline k ++ [10]

def unflag (c : UInt8) (w : List UInt8) : Option Bool := if w = [c] then some true else if w = [45] then some false else none
def wholes : List (List UInt8) → Option (List Int)
  | [] => some []
  | w :: r => match whole 4 w, wholes r with
    | some n, some ns => some ((n : Int) :: ns)
    | _, _ => none
/-- the kind of a line's words. -/
def kwords (ws : List (List UInt8)) : Option K := if ws.length = 11 then
    match wholes ((ws.drop 1).take 8), unflag 102 (ws.getD 9 []), unflag 116 (ws.getD 10 []) with
    | some ns, some f, some t => some ⟨ws.getD 0 [], ns, f, t⟩
    | _, _, _ => none
  else none
/-- the kinds of some lines; else the line, and the fault. -/
def kparse (acc : List K) : List (List UInt8) → (Nat × Int) ⊕ List K
  | [] => .inr acc
  | [w] => if w = [] then .inr acc else .inl (acc.length, 2)
  | w :: v :: r => match kwords (cut 32 w) with
    | none => .inl (acc.length, 2)
    | some k => if acc.length = 8 then .inl (acc.length, 4) else if kindFault acc k = 0 then kparse (acc ++ [k]) (v :: r) else .inl (acc.length, kindFault acc k)
def parse (s : List UInt8) : (Nat × Int) ⊕ List K := kparse [] (cut 10 s)

/-- the form of a kind whose numbers can be told. -/
structure Fit (k : K) : Prop where
  len : k.nums.length = 8
  low : ∀ n ∈ k.nums, 0 ≤ n ∧ n < 10000

theorem fault_fit {ahead : List K} {k : K} (h : kindFault ahead k = 0) (hl : k.nums.length = 8) : Fit k ∧ nameOk k.name = true := by
  unfold kindFault at h
  split at h
  · rename_i hn
    split at h
    · omega
    · refine ⟨⟨hl, fun n hm => ?_⟩, hn⟩
      unfold numsFault at h
      split at h
      · omega
      · rename_i hx
        rw [Bool.not_eq_true, List.any_eq_false] at hx
        have := hx n hm
        simp at this
        omega
  · omega
theorem name_free {l : List UInt8} (h : nameOk l = true) (c : UInt8) (hc : c.toNat < 97) : c ∉ l := by
  intro hm
  unfold nameOk at h
  simp only [Bool.and_eq_true, List.all_eq_true] at h
  have := h.2.2 c hm
  unfold isLetter at this
  simp at this
  omega
theorem flag_free (b : Bool) (c d : UInt8) (h1 : d ≠ c) (h2 : d ≠ 45) : d ∉ flag b c := by
  unfold flag
  split
  · simpa using h1
  · simpa using h2
theorem words_free {k : K} (hn : nameOk k.name = true) (c : UInt8) (hc : c.toNat < 45) : ∀ w ∈ words k, c ∉ w := by
  intro w hw
  have h102 : c ≠ 102 := by rintro rfl; revert hc; decide
  have h116 : c ≠ 116 := by rintro rfl; revert hc; decide
  have h45 : c ≠ 45 := by rintro rfl; revert hc; decide
  unfold words at hw
  simp only [List.mem_cons, List.mem_append, List.mem_map, List.not_mem_nil, or_false] at hw
  rcases hw with rfl | ⟨n, _, rfl⟩ | rfl | rfl
  · exact name_free hn c (by omega)
  · exact dig_free _ c (by omega)
  · exact flag_free _ _ _ h102 h45
  · exact flag_free _ _ _ h116 h45
theorem mem_join {c d : UInt8} : ∀ {ws : List (List UInt8)}, d ∈ join c ws → d = c ∨ ∃ w ∈ ws, d ∈ w
  | [], h => by simp [join] at h
  | [w], h => .inr ⟨w, List.mem_cons_self .., h⟩
  | w :: v :: ws, h => by
    rw [join_cons (by simp), List.mem_append, List.mem_cons] at h
    rcases h with h | h | h
    · exact .inr ⟨w, List.mem_cons_self .., h⟩
    · exact .inl h
    · rcases mem_join h with h | ⟨x, hx, hd⟩
      · exact .inl h
      · exact .inr ⟨x, List.mem_cons_of_mem _ hx, hd⟩
theorem kline_free {k : K} (hn : nameOk k.name = true) : (10 : UInt8) ∉ kline k := by
  intro h
  rcases mem_join h with h | ⟨w, hw, hd⟩
  · revert h; decide
  · exact words_free hn 10 (by decide) w hw hd

theorem wholes_dig : ∀ {ns : List Int}, (∀ n ∈ ns, 0 ≤ n ∧ n < 10000) → wholes (ns.map fun n => dig n.toNat) = some ns
  | [], _ => rfl
  | n :: ns, h => by
    have h1 := h n (List.mem_cons_self ..)
    have e : whole 4 (dig n.toNat) = some n.toNat := whole_dig (by decide) (by show n.toNat < 10000; omega)
    have e2 := wholes_dig (ns := ns) (fun x hx => h x (List.mem_cons_of_mem _ hx))
    rw [List.map_cons, wholes, e, e2]
    simp
    omega
theorem wholes_back : ∀ {ws : List (List UInt8)} {ns : List Int}, wholes ws = some ns → (ns.map fun n => dig n.toNat) = ws ∧ ∀ n ∈ ns, 0 ≤ n
  | [], ns, h => by
    simp [wholes] at h
    subst h
    simp
  | w :: r, ns, h => by
    unfold wholes at h
    split at h
    · rename_i n ns' h1 h2
      injection h with h
      subst h
      obtain ⟨a1, a2⟩ := wholes_back h2
      refine ⟨?_, ?_⟩
      · rw [List.map_cons, a1, Int.toNat_natCast, dig_whole h1]
      · intro x hx
        rcases List.mem_cons.1 hx with rfl | hx
        · omega
        · exact a2 x hx
    · cases h
theorem unflag_flag (b : Bool) (c : UInt8) (h : c ≠ 45) : unflag c (flag b c) = some b := by
  unfold unflag flag
  cases b
  · have : ¬ ([45] : List UInt8) = [c] := by simp; exact fun e => h e.symm
    simp [this]
  · simp
theorem unflag_back {c : UInt8} {w : List UInt8} {b : Bool} (h : unflag c w = some b) : flag b c = w := by
  unfold unflag at h
  split at h
  · rename_i hw
    injection h with h
    subst h
    rw [hw]
    rfl
  · split at h
    · rename_i hw
      injection h with h
      subst h
      rw [hw]
      rfl
    · cases h
theorem kwords_words {k : K} (hf : Fit k) : kwords (words k) = some k := by
  obtain ⟨name, nums, f, t⟩ := k
  have hl : nums.length = 8 := hf.len
  have e1 : ((words ⟨name, nums, f, t⟩).drop 1).take 8 = nums.map fun n => dig n.toNat := by
    show ((nums.map fun n => dig n.toNat) ++ [flag f 102, flag t 116]).take 8 = _
    rw [List.take_left' (by rw [List.length_map]; exact hl)]
  have e2 : (words ⟨name, nums, f, t⟩).getD 9 [] = flag f 102 := by
    show (name :: ((nums.map fun n => dig n.toNat) ++ [flag f 102, flag t 116])).getD 9 [] = _
    rw [List.getD_cons_succ, List.getD_eq_getElem?_getD, List.getElem?_append_right (by rw [List.length_map]; omega), List.length_map, hl]
    rfl
  have e3 : (words ⟨name, nums, f, t⟩).getD 10 [] = flag t 116 := by
    show (name :: ((nums.map fun n => dig n.toNat) ++ [flag f 102, flag t 116])).getD 10 [] = _
    rw [List.getD_cons_succ, List.getD_eq_getElem?_getD, List.getElem?_append_right (by rw [List.length_map]; omega), List.length_map, hl]
    rfl
  unfold kwords
  rw [if_pos (by simp [words, hl]), e1, e2, e3, wholes_dig hf.low, unflag_flag f 102 (by decide), unflag_flag t 116 (by decide)]
  rfl
theorem list11 {ws : List (List UInt8)} (h : ws.length = 11) : ws = ws.getD 0 [] :: ((ws.drop 1).take 8 ++ [ws.getD 9 [], ws.getD 10 []]) := by
  match ws, h with
  | [w0, w1, w2, w3, w4, w5, w6, w7, w8, w9, w10], _ => rfl
theorem words_kwords {ws : List (List UInt8)} {k : K} (h : kwords ws = some k) : words k = ws ∧ k.nums.length = 8 := by
  unfold kwords at h
  split at h
  · rename_i hl
    split at h
    · rename_i ns f t h1 h2 h3
      injection h with h
      subst h
      have a := wholes_back h1
      refine ⟨?_, ?_⟩
      · unfold words
        rw [a.1, unflag_back h2, unflag_back h3]
        exact (list11 hl).symm
      · show ns.length = 8
        have := congrArg List.length a.1
        rw [List.length_map, List.length_take, List.length_drop] at this
        omega
    · cases h
  · cases h

theorem cut_prt : ∀ {l : List K}, (∀ k ∈ l, nameOk k.name = true) → cut 10 (prt l) = l.map kline ++ [[]]
  | [], _ => rfl
  | k :: l, h => by
    show cut 10 ((kline k ++ [10]) ++ prt l) = _
    rw [List.append_assoc]
    show cut 10 (kline k ++ 10 :: prt l) = _
    rw [cut_app (kline_free (h k (List.mem_cons_self ..))), cut_prt (fun x hx => h x (List.mem_cons_of_mem _ hx))]
    rfl
theorem kindsGo_all : ∀ {l acc : List K}, kindsGo acc l = 0 → (∀ k ∈ l, k.nums.length = 8) → ∀ k ∈ l, Fit k ∧ nameOk k.name = true
  | [], _, _, _, k, hk => by simp at hk
  | x :: l, acc, h, hl, k, hk => by
    unfold kindsGo at h
    split at h
    · rename_i h0
      rcases List.mem_cons.1 hk with rfl | hk
      · exact fault_fit h0 (hl k (List.mem_cons_self ..))
      · exact kindsGo_all h (fun y hy => hl y (List.mem_cons_of_mem _ hy)) k hk
    · rename_i h0
      exact absurd h h0
theorem kparse_lines : ∀ {l acc : List K}, kindsGo acc l = 0 → (∀ k ∈ l, k.nums.length = 8) → acc.length + l.length ≤ 8 → kparse acc (l.map kline ++ [[]]) = .inr (acc ++ l)
  | [], acc, _, _, _ => by simp [kparse]
  | k :: l, acc, h, hl, hn => by
    unfold kindsGo at h
    split at h
    · rename_i h0
      have hk := fault_fit h0 (hl k (List.mem_cons_self ..))
      have e : cut 32 (kline k) = words k := cut_join (by simp [words]) (words_free hk.2 32 (by decide))
      have ih := kparse_lines (l := l) (acc := acc ++ [k]) h (fun y hy => hl y (List.mem_cons_of_mem _ hy)) (by simp at hn ⊢; omega)
      simp only [List.length_cons] at hn
      cases l with
      | nil =>
        show kparse acc [kline k, []] = _
        rw [kparse, e, kwords_words hk.1]
        simp only
        rw [if_neg (by simp at hn; omega), if_pos h0]
        simpa using ih
      | cons k2 l =>
        show kparse acc (kline k :: kline k2 :: (l.map kline ++ [[]])) = _
        rw [kparse, e, kwords_words hk.1]
        simp only
        rw [if_neg (by simp at hn; omega), if_pos h0]
        simpa using ih
    · rename_i h0
      exact absurd h h0
/-- what is printed is read as it was. -/
theorem parse_prt {l : List K} (h : kindsFault l = 0) (hl : ∀ k ∈ l, k.nums.length = 8) : parse (prt l) = .inr l := by
  unfold kindsFault at h
  split at h
  · omega
  · have a := kindsGo_all h hl
    unfold parse
    rw [cut_prt (fun k hk => (a k hk).2), kparse_lines h hl (by simp; omega)]
    rfl
theorem prt_lines : ∀ {ls : List (List UInt8)} {acc l : List K}, ls ≠ [] → kparse acc ls = .inr l → acc.length ≤ 8 → ∃ l', l = acc ++ l' ∧ prt l' = join 10 ls ∧ kindsGo acc l' = 0 ∧ l.length ≤ 8 ∧ ∀ k ∈ l', k.nums.length = 8
  | [], _, _, h, _, _ => absurd rfl h
  | [w], acc, l, _, h, ha => by
    unfold kparse at h
    split at h
    · rename_i hw
      injection h with h
      subst h
      subst hw
      exact ⟨[], by simp, rfl, rfl, ha, by simp⟩
    · cases h
  | w :: v :: r, acc, l, _, h, ha => by
    unfold kparse at h
    split at h
    · cases h
    · rename_i k hk
      split at h
      · cases h
      · rename_i h8
        split at h
        · rename_i h0
          obtain ⟨l', e1, e2, e3, e4, e5⟩ := prt_lines (by simp) h (by simp; omega)
          have a := words_kwords hk
          refine ⟨k :: l', by rw [e1]; simp, ?_, ?_, e4, ?_⟩
          · show (kline k ++ [10]) ++ prt l' = _
            rw [join_cons (by simp), e2, show kline k = w by unfold kline; rw [a.1, join_cut]]
            simp
          · unfold kindsGo
            rw [if_pos h0]
            exact e3
          · intro x hx
            rcases List.mem_cons.1 hx with rfl | hx
            · exact a.2
            · exact e5 x hx
        · cases h
/-- what any text is read as is printed as that text. -/
theorem prt_parse {s : List UInt8} {l : List K} (h : parse s = .inr l) : prt l = s ∧ kindsFault l = 0 ∧ ∀ k ∈ l, k.nums.length = 8 := by
  unfold parse at h
  obtain ⟨l', e1, e2, e3, e4, e5⟩ := prt_lines (cut_ne 10 s) h (by simp)
  rw [List.nil_append] at e1
  subst e1
  refine ⟨by rw [e2, join_cut], ?_, e5⟩
  unfold kindsFault
  rw [if_neg (by omega)]
  exact e3
end Go.Proofs.YteieikgkmfglaaaGreatDoor.Kd

namespace Go.Proofs.YteieikgkmfglaaaGreatDoor
open Go.RowKit
set_option linter.unusedVariables false

/-- a kind as memory has it. -/
structure KV where
  b : ByteArray
  n0 : Int
  n1 : Int
  n2 : Int
  n3 : Int
  n4 : Int
  n5 : Int
  n6 : Int
  n7 : Int
  f : Bool
  t : Bool
def KV.k (k : KV) : Kd.K := ⟨k.b.data.toList, [k.n0, k.n1, k.n2, k.n3, k.n4, k.n5, k.n6, k.n7], k.f, k.t⟩
def KV.val (k : KV) : Value := .agg #[.string k.b, .int .i64 k.n0, .int .i64 k.n1, .int .i64 k.n2, .int .i64 k.n3, .int .i64 k.n4, .int .i64 k.n5, .int .i64 k.n6, .int .i64 k.n7, .bool k.f, .bool k.t]
/-- its cells, from an address on. -/
structure Kc (w : World) (y : Addr) (k : KV) : Prop where
  c0 : w.cell? y = some (.string k.b)
  c1 : w.cell? ⟨y.block, y.off + 1, none⟩ = some (.int .i64 k.n0)
  c2 : w.cell? ⟨y.block, y.off + 2, none⟩ = some (.int .i64 k.n1)
  c3 : w.cell? ⟨y.block, y.off + 3, none⟩ = some (.int .i64 k.n2)
  c4 : w.cell? ⟨y.block, y.off + 4, none⟩ = some (.int .i64 k.n3)
  c5 : w.cell? ⟨y.block, y.off + 5, none⟩ = some (.int .i64 k.n4)
  c6 : w.cell? ⟨y.block, y.off + 6, none⟩ = some (.int .i64 k.n5)
  c7 : w.cell? ⟨y.block, y.off + 7, none⟩ = some (.int .i64 k.n6)
  c8 : w.cell? ⟨y.block, y.off + 8, none⟩ = some (.int .i64 k.n7)
  c9 : w.cell? ⟨y.block, y.off + 9, none⟩ = some (.bool k.f)
  c10 : w.cell? ⟨y.block, y.off + 10, none⟩ = some (.bool k.t)
theorem Kc.lt {w : World} {y : Addr} {k : KV} (h : Kc w y k) : y.block < w.heap.size := cell_lt h.c0
theorem Kc.below {w w' : World} {y : Addr} {k : KV} {B : Nat} (h : Kc w y k) (hb : Below B w w') (hy : y.block < B) : Kc w' y k :=
  ⟨by rw [hb.cell (p := y) hy]; exact h.c0, by rw [hb.cell (p := ⟨y.block, y.off + 1, none⟩) hy]; exact h.c1, by rw [hb.cell (p := ⟨y.block, y.off + 2, none⟩) hy]; exact h.c2, by rw [hb.cell (p := ⟨y.block, y.off + 3, none⟩) hy]; exact h.c3, by rw [hb.cell (p := ⟨y.block, y.off + 4, none⟩) hy]; exact h.c4, by rw [hb.cell (p := ⟨y.block, y.off + 5, none⟩) hy]; exact h.c5, by rw [hb.cell (p := ⟨y.block, y.off + 6, none⟩) hy]; exact h.c6, by rw [hb.cell (p := ⟨y.block, y.off + 7, none⟩) hy]; exact h.c7, by rw [hb.cell (p := ⟨y.block, y.off + 8, none⟩) hy]; exact h.c8, by rw [hb.cell (p := ⟨y.block, y.off + 9, none⟩) hy]; exact h.c9, by rw [hb.cell (p := ⟨y.block, y.off + 10, none⟩) hy]; exact h.c10⟩
/-- v is a slice of the kinds ks. -/
def Kl (w : World) (v : Value) (ks : List KV) : Prop := ∃ a c, v = .slice a ks.length c ∧ ks.length ≤ c ∧ c ≤ 9223372036854775807 ∧ (ks ≠ [] → ∃ x, a = some x ∧ x.block < w.heap.size ∧ ∀ (i : Nat) k, ks[i]? = some k → Kc w (x.add (i * 11)) k)
theorem Kl.below {w w' : World} {v : Value} {ks : List KV} (h : Kl w v ks) (hb : Below w.heap.size w w') : Kl w' v ks := by
  obtain ⟨a, c, h1, h2, h3, h4⟩ := h
  refine ⟨a, c, h1, h2, h3, fun hn => ?_⟩
  obtain ⟨x, e, hx, hk⟩ := h4 hn
  exact ⟨x, e, Nat.lt_of_lt_of_le hx hb.size, fun i k hi => (hk i k hi).below hb (by rw [add_block]; exact hx)⟩

theorem Kc.mk' {w : World} {z : Nat} (k : KV) (hz : w.heap.size = z) : Kc (w.alloc (.cells #[.string k.b, .int .i64 k.n0, .int .i64 k.n1, .int .i64 k.n2, .int .i64 k.n3, .int .i64 k.n4, .int .i64 k.n5, .int .i64 k.n6, .int .i64 k.n7, .bool k.f, .bool k.t] 68)) ⟨z, 0, none⟩ k := by
  subst hz
  constructor <;> simp
end Go.Proofs.YteieikgkmfglaaaGreatDoor

namespace Go.Proofs.YteieikgkmfglaaaGreatDoor
set_option linter.unusedVariables false
namespace Wd

/-- not from least to 1000000. -/
def off (least n : Int) : Bool := !decide (least ≤ n ∧ n ≤ 1000000)
def numsBad (W : WV) : Bool := off 0 W.turn || (off 1 W.next || (!decide (1 ≤ (W.gold.length : Int) ∧ (W.gold.length : Int) ≤ 4) || W.gold.any (off 0)))
def has (n : Nat) (i : Int) : Bool := decide (0 ≤ i ∧ i < (n : Int))
/-- one who goes, or flies, may stand there. -/
def open_ (gs : List Int) (ahead : List UnV) (at_ : Int) (fl : Bool) : Bool := decide (0 < Fd.onto (gs.getD at_.toNat 0) fl) && !ahead.any (fun u => u.at_ == at_)
/-- what is wrong with the i-th unit, as far as its kind does not matter; as far as it does. -/
def kindPart (W : WV) (ahead : List UnV) (u : UnV) (k : KV) : Int :=
  if !decide (1 ≤ u.life ∧ u.life ≤ k.n0) || (!decide (0 ≤ u.load ∧ u.load ≤ k.n7) || !decide (0 ≤ u.task ∧ u.task ≤ 2)) then 1
  else if !has W.gs.length u.at_ || !has W.gs.length u.goal then 6
  else if !open_ W.gs ahead u.at_ k.f || (u.goal != 0 && u.task == 0) then 7 else 0
def notAbove (us : List UnV) (i : Nat) (u : UnV) : Bool := match i with
  | 0 => false
  | j + 1 => match us[j]? with
    | none => false
    | some x => decide (u.id ≤ x.id)
def unitFault (ks : List KV) (W : WV) (i : Nat) (u : UnV) : Int :=
  if !decide (1 ≤ u.id ∧ u.id ≤ W.next - 1) then 1
  else if notAbove W.us i u then 5
  else if !has W.gold.length u.player || !has ks.length u.kind then 1
  else match ks[u.kind.toNat]? with
    | none => 1
    | some k => kindPart W (W.us.take i) u k
def unitsGo (ks : List KV) (W : WV) (i : Nat) : List UnV → Int
  | [] => 0
  | u :: r => if unitFault ks W i u = 0 then unitsGo ks W (i + 1) r else unitFault ks W i u
def jobFault (ks : List KV) (W : WV) (j : JbV) : Int := match W.us.find? (fun u => u.id == j.unit) with
  | none => 6
  | some u => match ks[u.kind.toNat]? with
    | none => 7
    | some k => if u.player != j.player || !k.t then 7 else if !has ks.length j.kind || !decide (1 ≤ j.left ∧ j.left ≤ 1000) then 1 else 0
def jobsGo (ks : List KV) (W : WV) : List JbV → Int
  | [] => 0
  | j :: r => if jobFault ks W j = 0 then jobsGo ks W r else jobFault ks W j
def ground (ks : List KV) (W : WV) : Int := if Kd.kindsFault (ks.map KV.k) = 0 then Fd.fault W.wide W.high W.gs W.os else Kd.kindsFault (ks.map KV.k)
/-- what is wrong with a world. -/
def wfault (ks : List KV) (W : WV) : Int :=
  if ground ks W ≠ 0 then ground ks W
  else if numsBad W then 1
  else if 40 < W.us.length then 4
  else if unitsGo ks W 0 W.us ≠ 0 then unitsGo ks W 0 W.us
  else if 12 < W.qs.length then 4
  else jobsGo ks W W.qs
theorem unitsGo_at {ks : List KV} {W : WV} {i : Nat} {u : UnV} (h : W.us[i]? = some u) : unitsGo ks W i (W.us.drop i) = if unitFault ks W i u = 0 then unitsGo ks W (i + 1) (W.us.drop (i + 1)) else unitFault ks W i u := by
  obtain ⟨hi, e⟩ := List.getElem?_eq_some_iff.1 h
  rw [List.drop_eq_getElem_cons hi, e]
  rfl
theorem jobsGo_at {ks : List KV} {W : WV} {i : Nat} {j : JbV} (h : W.qs[i]? = some j) : jobsGo ks W (W.qs.drop i) = if jobFault ks W j = 0 then jobsGo ks W (W.qs.drop (i + 1)) else jobFault ks W j := by
  obtain ⟨hi, e⟩ := List.getElem?_eq_some_iff.1 h
  rw [List.drop_eq_getElem_cons hi, e]
  rfl
end Wd
end Go.Proofs.YteieikgkmfglaaaGreatDoor

namespace Go.Proofs.YteieikgkmfglaaaGreatDoor
open Go.RowKit
set_option linter.unusedVariables false

/-- v is a world. -/
def Wl (w : World) (v : Value) (W : WV) : Prop := ∃ u1 u2 u3 u4 u5, v = .agg #[.int .i64 W.turn, .int .i64 W.next, .int .i64 W.wide, .int .i64 W.high, u1, u2, u3, u4, u5] ∧ Ro w u1 W.gs ∧ Ro w u2 W.os ∧ Ro w u3 W.gold ∧ Unl w u4 W.us ∧ Jbl w u5 W.qs
theorem Wl.below {w w' : World} {v : Value} {W : WV} (h : Wl w v W) (hb : Below w.heap.size w w') : Wl w' v W := by
  obtain ⟨u1, u2, u3, u4, u5, h1, h2, h3, h4, h5, h6⟩ := h
  exact ⟨u1, u2, u3, u4, u5, h1, h2.below hb, h3.below hb, h4.below hb, h5.below hb, h6.below hb⟩
/-- a world in a box. -/
structure Bw (w : World) (z : Nat) (W : WV) (u1 u2 u3 u4 u5 : Value) : Prop where
  c0 : w.cell? ⟨z, 0, none⟩ = some (.int .i64 W.turn)
  c1 : w.cell? ⟨z, 1, none⟩ = some (.int .i64 W.next)
  c2 : w.cell? ⟨z, 2, none⟩ = some (.int .i64 W.wide)
  c3 : w.cell? ⟨z, 3, none⟩ = some (.int .i64 W.high)
  c4 : w.cell? ⟨z, 4, none⟩ = some u1
  c5 : w.cell? ⟨z, 5, none⟩ = some u2
  c6 : w.cell? ⟨z, 6, none⟩ = some u3
  c7 : w.cell? ⟨z, 7, none⟩ = some u4
  c8 : w.cell? ⟨z, 8, none⟩ = some u5
theorem Bw.lt {w : World} {z : Nat} {W : WV} {u1 u2 u3 u4 u5 : Value} (h : Bw w z W u1 u2 u3 u4 u5) : z < w.heap.size := cell_lt h.c0
theorem Bw.below {w w' : World} {z n : Nat} {W : WV} {u1 u2 u3 u4 u5 : Value} (h : Bw w z W u1 u2 u3 u4 u5) (hb : Below n w w') (hn : z < n) : Bw w' z W u1 u2 u3 u4 u5 :=
  ⟨by rw [hb.cell (p := ⟨z, 0, none⟩) hn]; exact h.c0, by rw [hb.cell (p := ⟨z, 1, none⟩) hn]; exact h.c1, by rw [hb.cell (p := ⟨z, 2, none⟩) hn]; exact h.c2, by rw [hb.cell (p := ⟨z, 3, none⟩) hn]; exact h.c3, by rw [hb.cell (p := ⟨z, 4, none⟩) hn]; exact h.c4, by rw [hb.cell (p := ⟨z, 5, none⟩) hn]; exact h.c5, by rw [hb.cell (p := ⟨z, 6, none⟩) hn]; exact h.c6, by rw [hb.cell (p := ⟨z, 7, none⟩) hn]; exact h.c7, by rw [hb.cell (p := ⟨z, 8, none⟩) hn]; exact h.c8⟩
theorem Bw.mk' {w : World} {z : Nat} (W : WV) (u1 u2 u3 u4 u5 : Value) (hz : w.heap.size = z) : Bw (w.alloc (.cells #[.int .i64 W.turn, .int .i64 W.next, .int .i64 W.wide, .int .i64 W.high, u1, u2, u3, u4, u5] 29)) z W u1 u2 u3 u4 u5 := by
  subst hz
  constructor <;> simp
/-- the world with which nothing begins. -/
def WV.zero : WV := ⟨0, 0, 0, 0, [], [], [], [], []⟩
end Go.Proofs.YteieikgkmfglaaaGreatDoor

namespace Go.Proofs.YteieikgkmfglaaaGreatDoor
open Go.RowKit
set_option linter.unusedVariables false

theorem info_int : (Tryz.prog.info? 3).map (fun i => (i.zero, i.size, i.bytes)) = some (some (.int .i64 0), 1, 8) := by kernel_rfl

/-- v is a slice of the integers xs, in a block of its own from base on. -/
def Ow (w : World) (base : Nat) (v : Value) (xs : List Int) : Prop := w.ownsRow base 3 1 v xs.length (xs.map (Value.int .i64))
theorem Ow.nil (w : World) (base : Nat) : Ow w base (.slice none 0 0) [] := World.ownsRow_nil _ _ _ _
theorem Ow.ro {w : World} {base : Nat} {v : Value} {xs : List Int} (h : Ow w base v xs) : Ro w v xs := by
  rcases h.2 with ⟨hv, h0⟩ | ⟨g, cap, cur, hv, hb, hg, h1, h2, h3, h4⟩
  · obtain rfl := List.length_eq_zero_iff.1 h0
    exact ⟨none, 0, hv, Nat.le_refl _, by omega, fun h => absurd rfl h⟩
  · refine ⟨_, cap, hv, h1, by unfold maxLen at h2; omega, fun _ => ⟨_, rfl, lt_of_block hg, fun i d hd => ?_⟩⟩
    have hi : i < xs.length := (List.getElem?_eq_some_iff.1 hd).1
    rw [Addr.add_lit, Nat.zero_add]
    have h5 : w.ownsRow base 3 1 (.slice (some ⟨g, 0, none⟩) xs.length cap) xs.length (xs.map (Value.int .i64)) := by rw [← hv]; exact h
    rw [h5.cellAt i (by omega), List.getElem?_map, hd]
    rfl
theorem Ow.kept {w w' : World} {base : Nat} {v : Value} {xs : List Int} {row : Option Nat} (h : Ow w base v xs) (hg : w.grownBy w' row) (hne : v.ownBlock = none ∨ v.ownBlock ≠ row) : Ow w' base v xs := World.ownsRow.kept h hg hne
theorem Ow.alloc {w : World} {base : Nat} {v : Value} {xs : List Int} (h : Ow w base v xs) (o : Obj) : Ow (w.alloc o) base v xs := World.ownsRow.alloc h o
theorem Ow.drewN {w : World} {base : Nat} {v : Value} {xs : List Int} (h : Ow w base v xs) (n : Nat) : Ow (w.drewN n) base v xs := h
theorem Ow.block {w : World} {base : Nat} {v : Value} {xs : List Int} (h : Ow w base v xs) : ∀ k, v.ownBlock = some k → base ≤ k ∧ k < w.heap.size := World.ownsRow.lt h
theorem Ow.below {w w' : World} {base : Nat} {v : Value} {xs : List Int} (h : Ow w base v xs) (hb : Below w.heap.size w w') : Ow w' base v xs :=
  h.kept (row := none) ⟨hb.os, hb.tape, hb.output, hb.size, fun k hk _ => hb.block k hk⟩ (by cases v.ownBlock <;> simp)
theorem Ow.mono {w : World} {base base' : Nat} {v : Value} {xs : List Int} (h : Ow w base v xs) (hb : base' ≤ base) : Ow w base' v xs := by
  refine ⟨h.1, ?_⟩
  rcases h.2 with h1 | ⟨g, cap, cur, h1, h2, h3⟩
  · exact .inl h1
  · exact .inr ⟨g, cap, cur, h1, Nat.le_trans hb h2, h3⟩
theorem Ow.len {w : World} {base : Nat} {v : Value} {xs : List Int} (h : Ow w base v xs) : ∃ a c, v = .slice a xs.length c := by
  obtain ⟨a, c, h1, -⟩ := h.ro
  exact ⟨a, c, h1⟩

/-- one more. -/
theorem app_int {ops : Array Oper} {rest : List Oper} {o : Oper} {a : Act} {Q : Exit → Act → World → Prop} (w : World) (hgd : o.guard = none) (s x : Operand)
    (ho : o.op = .call { callee := .builtin .append, args := #[s, x], argTypes := #[23, 23] }) (base : Nat) (v : Value) (xs : List Int) (hs : a.eval s = v) (hown : Ow w base v xs)
    (ad : Addr) (d : Int) (hx : a.eval x = .slice (some ad) 1 1) (hd : w.cell? ad = some (.int .i64 d)) (hl : xs.length ≤ 1000000000) (hbase : base ≤ w.heap.size)
    (h : ∀ g cap w', Ow w' base (.slice (some ⟨g, 0, none⟩) (xs.length + 1) cap) (xs ++ [d]) → w.grownBy w' v.ownBlock → (v.ownBlock = some g ∨ g = w.heap.size) → g < w'.heap.size → wpList Tryz.prog ops Q rest (a.put o.dst (.slice (some ⟨g, 0, none⟩) (xs.length + 1) cap)) w') :
    wpList Tryz.prog ops Q (o :: rest) a w := by
  obtain ⟨i0, hi, hz0, hz1, hz2⟩ := info_parts info_int
  refine wpList_append_lies w hgd s x 23 ho base 3 i0 (.int .i64 0) 1 8 Tryz.underlying23 hi hz0 hz1 hz2 rfl (by decide) v xs.length _ hs hown ad 1 1 [.int .i64 d] hx rfl ?_ ?_ (by decide) (by unfold maxLen; omega) (by omega) hbase _ rfl ?_
  · intro j u hj
    match j, hj with
    | 0, hj => simp at hj; subst hj; exact hd
  · intro u hu
    simp at hu
    subst hu
    rfl
  · intro g cap w' h1 h2 h3 h4
    refine h g cap w' ?_ h2 h3 h4
    unfold Ow
    rw [List.length_append, List.map_append]
    exact h1

/-- a list of one. -/
theorem Ow.one {w : World} {base z : Nat} (d : Int) (hb : base ≤ w.heap.size) (hz : w.heap.size = z) : Ow (w.alloc (.cells #[.int .i64 d] 3)) base (.slice (some ⟨z, 0, none⟩) 1 1) [d] := by
  subst hz
  exact ⟨rfl, .inr ⟨_, _, _, rfl, hb, heap_alloc_new w _, Nat.le_refl _, by unfold maxLen; decide, rfl, rfl⟩⟩
end Go.Proofs.YteieikgkmfglaaaGreatDoor

namespace Go.Proofs.YteieikgkmfglaaaGreatDoor
open Go.RowKit
set_option linter.unusedVariables false

theorem run_append_no {P : Program} {w : World} (base : Nat) (t ty e : TypeId) (i : TypeInfo) (size : Nat) (ht : P.underlying t = some (.slice e)) (hi : P.info? e = some i)
    (v : Value) (n : Nat) (xs : List Value) (hown : w.ownsRow base e size v n xs) (a : Option Addr) (c : Nat) :
    (Builtin.append_ #[t, t] ty #[v, .slice a 0 c]).run P w = .ok v w := by
  rcases hown.2 with ⟨rfl, rfl⟩ | ⟨g, cap, cur, rfl, _, _, hnc, _⟩
  · cases a <;> simp [Builtin.append_, run_underlying ht, sizeOf, typeInfo, hi, Builtin.lenOf, Builtin.firstCells, loadCells, loadCellsFrom]
  · cases a <;> simp [Builtin.append_, run_underlying ht, sizeOf, typeInfo, hi, Builtin.lenOf, Builtin.firstCells, hnc, storeCells, loadCells, loadCellsFrom]
end Go.Proofs.YteieikgkmfglaaaGreatDoor

namespace Go.Proofs.YteieikgkmfglaaaGreatDoor
open Go.RowKit
set_option linter.unusedVariables false

theorem app_row {ops : Array Oper} {rest : List Oper} {o : Oper} {a : Act} {Q : Exit → Act → World → Prop} (w : World) (hgd : o.guard = none) (s x : Operand)
    (ho : o.op = .call { callee := .builtin .append, args := #[s, x], argTypes := #[23, 23] }) (base : Nat) (v : Value) (xs : List Int) (hs : a.eval s = v) (hown : Ow w base v xs)
    (u : Value) (ys : List Int) (hx : a.eval x = u) (hu : Ro w u ys) (hl : xs.length + ys.length ≤ 1000000000) (hbase : base ≤ w.heap.size)
    (h : ∀ v' w', Ow w' base v' (xs ++ ys) → w.grownBy w' v.ownBlock → (v'.ownBlock = v.ownBlock ∨ v'.ownBlock = some w.heap.size) → wpList Tryz.prog ops Q rest (a.put o.dst v') w') :
    wpList Tryz.prog ops Q (o :: rest) a w := by
  obtain ⟨i0, hi, hz0, hz1, hz2⟩ := info_parts info_int
  obtain ⟨ad, c, rfl, h1, h2, h3⟩ := hu
  by_cases hn : ys = []
  · subst hn
    refine wpList_plain hgd fun K hK => ?_
    have hrun := run_append_no (P := Tryz.prog) (w := w) base 23 o.type 3 i0 1 Tryz.underlying23 hi v xs.length _ hown ad c
    have hx' : a.eval x = .slice ad 0 c := hx
    unfold Oper.wp
    simp [execOp, ho, resolve, invoke, builtin, hs, hx', hrun, Result.andThen]
    exact hK _ _ (h v w (by simpa using hown) (World.grownBy.refl _ _) (.inl rfl))
  · obtain ⟨y, rfl, hy, hc⟩ := h3 hn
    refine wpList_append_lies w hgd s x 23 ho base 3 i0 (.int .i64 0) 1 8 Tryz.underlying23 hi hz0 hz1 hz2 rfl (by decide) v xs.length _ hs hown y ys.length c (ys.map (Value.int .i64)) hx (by simp) ?_ ?_ (List.length_pos_iff.2 hn) (by unfold maxLen; omega) (by omega) hbase _ rfl ?_
    · intro j u hj
      rw [List.getElem?_map] at hj
      cases hd : ys[j]? with
      | none => rw [hd] at hj; cases hj
      | some d => rw [hd] at hj; cases hj; exact hc j d hd
    · exact ints_oneCell _ _
    · intro g cap w' k1 k2 k3 _
      refine h _ w' ?_ k2 ?_
      · unfold Ow
        rw [List.length_append, List.map_append]
        exact k1
      · rcases k3 with k3 | k3
        · exact .inl k3.symm
        · exact .inr (by rw [k3]; rfl)
end Go.Proofs.YteieikgkmfglaaaGreatDoor

namespace Go.Proofs.YteieikgkmfglaaaGreatDoor
open Go.RowKit
set_option linter.unusedVariables false

/-- any. -/
theorem Ro.lit {w : World} {z : Nat} (xs : List Int) (cs : Array Value) (hc : cs.toList = xs.map (Value.int .i64)) (hl : xs.length ≤ 1000) (hz : w.heap.size = z) : Ro (w.alloc (.cells cs 3)) (.slice (some ⟨z, 0, none⟩) xs.length xs.length) xs := by
  subst hz
  refine ⟨_, xs.length, rfl, Nat.le_refl _, by omega, fun _ => ⟨_, rfl, by simp, fun i d hd => ?_⟩⟩
  rw [Addr.add_lit, Nat.zero_add]
  have hh := heap_alloc_new w (.cells cs 3)
  simp only [World.cell?, hh]
  rw [← Array.getElem?_toList, hc, List.getElem?_map, hd]
  rfl
end Go.Proofs.YteieikgkmfglaaaGreatDoor

namespace Go.Proofs.YteieikgkmfglaaaGreatDoor
open Go.RowKit
set_option linter.unusedVariables false

/-- up to which list they are there. -/
def nums1 (W : WV) : Nat → List Int
  | 0 => [W.turn, W.next, W.wide, W.high]
  | 1 => [W.turn, W.next, W.wide, W.high] ++ ((W.gs.length : Int) :: W.gs)
  | 2 => [W.turn, W.next, W.wide, W.high] ++ ((W.gs.length : Int) :: W.gs) ++ ((W.os.length : Int) :: W.os)
  | _ => [W.turn, W.next, W.wide, W.high] ++ ((W.gs.length : Int) :: W.gs) ++ ((W.os.length : Int) :: W.os) ++ ((W.gold.length : Int) :: W.gold)
def nums2 (W : WV) (k : Nat) : List Int := nums1 W 3 ++ ((W.us.length : Int) :: (W.us.take k).flatMap Wd.unums)
def nums3 (W : WV) (k : Nat) : List Int := nums2 W W.us.length ++ ((W.qs.length : Int) :: (W.qs.take k).flatMap Wd.jnums)
theorem nums3_all (W : WV) : nums3 W W.qs.length = Wd.nums W := by
  simp [nums3, nums2, nums1, Wd.nums]
structure WSmall (W : WV) : Prop where
  g : W.gs.length ≤ 1048576
  o : W.os.length ≤ 1048576
  p : W.gold.length ≤ 1048576
  u : W.us.length ≤ 1048576
  q : W.qs.length ≤ 1048576
theorem nums1_len {W : WV} (h : WSmall W) (k : Nat) : (nums1 W k).length ≤ 4000000 := by
  obtain ⟨h1, h2, h3, h4, h5⟩ := h
  match k with
  | 0 => simp [nums1]
  | 1 => simp [nums1]; omega
  | 2 => simp [nums1]; omega
  | _ + 3 => simp [nums1]; omega
theorem flat_len {α : Type} {f : α → List Int} {n : Nat} (hf : ∀ x, (f x).length = n) : ∀ l : List α, (l.flatMap f).length = n * l.length
  | [] => by simp
  | x :: l => by rw [List.flatMap_cons, List.length_append, flat_len hf l, hf, List.length_cons, Nat.mul_add]; omega
theorem nums2_len {W : WV} (h : WSmall W) (k : Nat) : (nums2 W k).length ≤ 13000000 := by
  have h1 := nums1_len h 3
  have h2 := h.u
  unfold nums2
  rw [List.length_append, List.length_cons, flat_len (n := 8) (fun x => rfl), List.length_take]
  omega
theorem nums3_len {W : WV} (h : WSmall W) (k : Nat) : (nums3 W k).length ≤ 18000000 := by
  have h1 := nums2_len h W.us.length
  have h2 := h.q
  unfold nums3
  rw [List.length_append, List.length_cons, flat_len (n := 4) (fun x => rfl), List.length_take]
  omega
theorem nums2_next {W : WV} {k : Nat} {u : UnV} (h : W.us[k]? = some u) : nums2 W (k + 1) = nums2 W k ++ Wd.unums u := by
  obtain ⟨hi, e⟩ := List.getElem?_eq_some_iff.1 h
  unfold nums2
  rw [List.take_succ_eq_append_getElem hi, List.flatMap_append, e]
  simp
theorem nums3_next {W : WV} {k : Nat} {u : JbV} (h : W.qs[k]? = some u) : nums3 W (k + 1) = nums3 W k ++ Wd.jnums u := by
  obtain ⟨hi, e⟩ := List.getElem?_eq_some_iff.1 h
  unfold nums3
  rw [List.take_succ_eq_append_getElem hi, List.flatMap_append, e]
  simp
theorem Bw.grown {w w' : World} {z : Nat} {W : WV} {u1 u2 u3 u4 u5 : Value} {row : Option Nat} (h : Bw w z W u1 u2 u3 u4 u5) (hg : w.grownBy w' row) (hr : ∀ k, row = some k → z < k) : Bw w' z W u1 u2 u3 u4 u5 :=
  h.below (n := z + 1) ((Below.refl _ _).grown hg h.lt (fun k hk => hr k hk)) (Nat.lt_succ_self _)
theorem cell_of_new {w : World} {z i : Nat} {cs : Array Value} {T : TypeId} {v : Value} (hz : w.heap.size = z) (hv : cs[i]? = some v) : (w.alloc (.cells cs T)).cell? ⟨z, i, none⟩ = some v := by
  subst hz
  simp only [World.cell?, heap_alloc_new]
  simpa using hv
/-- what is there as long as lists are written. -/
structure Nm1 (w : World) (W : WV) (u1 u2 u3 u4 u5 : Value) (zl : Nat) (lv : Value) (l : List Int) (W' : World) : Prop where
  o : Ow W' (w.heap.size + 2) lv l
  ne : lv.ownBlock ≠ some zl
  b : Bw W' w.heap.size W u1 u2 u3 u4 u5
  c0 : W'.cell? ⟨zl, 0, none⟩ = some u1
  c1 : W'.cell? ⟨zl, 1, none⟩ = some u2
  c2 : W'.cell? ⟨zl, 2, none⟩ = some u3
  bl : Below w.heap.size w W'
theorem Nm1.step {w : World} {W : WV} {u1 u2 u3 u4 u5 : Value} {zl : Nat} {lv lv' : Value} {l l' : List Int} {W' W'' X : World} (h : Nm1 w W u1 u2 u3 u4 u5 zl lv l W') (hX1 : Below W'.heap.size W' X) (hg : X.grownBy W'' lv.ownBlock) (ho : Ow W'' (w.heap.size + 2) lv' l') (hb : lv'.ownBlock = lv.ownBlock ∨ lv'.ownBlock = some X.heap.size) : Nm1 w W u1 u2 u3 u4 u5 zl lv' l' W'' := by
  have hzl : zl < W'.heap.size := cell_lt h.c0
  have hXs := hX1.size
  have hob : ∀ k, lv.ownBlock = some k → w.heap.size + 2 ≤ k := fun k hk => (h.o.block k hk).1
  have far : ∀ p : Addr, p.block < W'.heap.size → some p.block ≠ lv.ownBlock → W''.cell? p = W'.cell? p := fun p hp hne => by
    rw [hg.cell_far p (by omega) hne, hX1.cell hp]
  have lz := h.b.lt
  have bw : Below w.heap.size w W'' := (h.bl.trans (hX1.mono (by omega))).grown hg (by omega) (fun k hk => by have := hob k hk; omega)
  refine ⟨ho, ?_, (h.b.below hX1 h.b.lt).grown hg (fun k hk => by have := hob k hk; omega), ?_, ?_, ?_, bw⟩
  · rcases hb with hb | hb
    · rw [hb]; exact h.ne
    · rw [hb]; intro e; injection e with e; omega
  · rw [far ⟨zl, 0, none⟩ hzl (fun e => h.ne e.symm)]; exact h.c0
  · rw [far ⟨zl, 1, none⟩ hzl (fun e => h.ne e.symm)]; exact h.c1
  · rw [far ⟨zl, 2, none⟩ hzl (fun e => h.ne e.symm)]; exact h.c2
theorem own_is {v : Value} {g n cap z : Nat} (h : v.ownBlock = some g ∨ g = z) : (Value.slice (some ⟨g, 0, none⟩) n cap).ownBlock = v.ownBlock ∨ (Value.slice (some ⟨g, 0, none⟩) n cap).ownBlock = some z := by
  rcases h with h | h
  · exact .inl (by rw [h]; rfl)
  · exact .inr (by rw [h]; rfl)
theorem Wl.slices {w : World} {W : WV} {u1 u2 u3 u4 u5 : Value} (h : Wl w (.agg #[.int .i64 W.turn, .int .i64 W.next, .int .i64 W.wide, .int .i64 W.high, u1, u2, u3, u4, u5]) W) : Ro w u1 W.gs ∧ Ro w u2 W.os ∧ Ro w u3 W.gold ∧ Unl w u4 W.us ∧ Jbl w u5 W.qs := by
  obtain ⟨v1, v2, v3, v4, v5, ev, r⟩ := h
  simp only [Value.agg.injEq, Array.mk.injEq, List.cons.injEq, and_true, true_and] at ev
  obtain ⟨rfl, rfl, rfl, rfl, rfl⟩ := ev
  exact r
end Go.Proofs.YteieikgkmfglaaaGreatDoor

namespace Go.Proofs.YteieikgkmfglaaaGreatDoor
open Go.RowKit
set_option linter.unusedVariables false

/-- r is where the first is; -1: there is none. -/
def FstU (p : UnV → Bool) (ks : List UnV) (r : Int) : Prop := (r = -1 ∧ ks.any p = false) ∨ ∃ (k : Nat) (x : UnV), r = k ∧ ks[k]? = some x ∧ p x = true ∧ (ks.take k).any p = false
theorem anyu_next {p : UnV → Bool} {ks : List UnV} {k : Nat} {x : UnV} (h : ks[k]? = some x) : (ks.take (k + 1)).any p = ((ks.take k).any p || p x) := by
  obtain ⟨hi, e⟩ := List.getElem?_eq_some_iff.1 h
  rw [List.take_succ_eq_append_getElem hi, List.any_append, e]
  simp

set_option maxHeartbeats 2000000 in
theorem idxu_any (K : Nat) (eK : ∀ args w, (callFunc K args).run Tryz.prog w = .ok (.enter K args) w) (u : Value) (cs : Array Value) (ks : List UnV) (p : UnV → Bool) (w : World) (hu : Unl w u ks)
    (hp : ∀ W, Below w.heap.size w W → ∀ k : UnV, Calls Tryz.prog K (#[k.val] ++ cs) W fun e w' => e = .returned (.bool (p k)) ∧ Below W.heap.size W w') :
    Calls Tryz.prog 64 #[u, .func (Fn.func K) #[] cs] w fun e w' => ∃ r : Int, e = .returned (.int .i64 r) ∧ FstU p ks r ∧ Below w.heap.size w w' := by
  obtain ⟨a, c, rfl, c1, c2, ca⟩ := hu
  have Ca : Hid (ks ≠ [] → ∃ x, a = some x ∧ x.block < w.heap.size ∧ ∀ (i : Nat) k, ks[i]? = some k → Unc w (x.add (i * 8)) k) := ca
  have Hp : Hid (∀ W, Below w.heap.size w W → ∀ k : UnV, Calls Tryz.prog K (#[k.val] ++ cs) W fun e w' => e = .returned (.bool (p k)) ∧ Below W.heap.size W w') := hp
  clear ca hp
  go_enter Tryz.func64, Tryz.ntmps64
  go_wp2
  go_loopw [8] (fun i W' => ∃ k : Nat, k ≤ ks.length ∧ i = .int .i64 (k : Nat) ∧ (ks.take k).any p = false ∧ Below w.heap.size w W') (fun i _ => ks.length - (intOf i).toNat)
  case atStart => exact ⟨0, Nat.zero_le _, rfl, by simp, Below.refl _ _⟩
  case round =>
    obtain ⟨k, hk, rfl, ht, hb⟩ := hrel
    have Ht : Hid ((ks.take k).any p = false) := ht
    have B : Hid (Below w.heap.size w wr) := hb
    clear ht hb
    by_cases h0 : k = ks.length
    · subst h0
      go_wp2
      go_ret
      refine ⟨_, rfl, .inl ⟨rfl, ?_⟩, B⟩
      have := Ht.out
      rw [List.take_of_length_le (Nat.le_refl _)] at this
      exact this
    · have hkx : k < ks.length := by omega
      obtain ⟨x, rfl, hx1, hx⟩ := Ca.out (by intro h; rw [h] at hkx; simp at hkx)
      obtain ⟨y, hy⟩ : ∃ y, ks[k]? = some y := ⟨_, List.getElem?_eq_getElem hkx⟩
      have Yc := (hx k y hy).below B.out (by rw [add_block]; exact hx1)
      obtain ⟨q0, q1, q2, q3, q4, q5, q6, q7⟩ := Yc
      have hc := Hp.out wr B.out y
      have Hs : Hid _ := anyu_next (p := p) hy
      have Hm : Hid (ks[k]? = some y) := hy
      clear hx hx1 hy
      cases hy : p y with
      | true =>
        rw [hy] at hc
        have Hc : Hid (Calls Tryz.prog K (#[y.val] ++ cs) wr fun e w' => e = .returned (.bool true) ∧ Below wr.heap.size wr w') := hc
        have Hy : Hid (p y = true) := hy
        clear hc hy
        go_wp2_with fail
        refine Calls.mono Hc.out ?_
        rintro e w1 ⟨rfl, b1⟩
        have B1 : Hid (Below w.heap.size w w1) := B.out.trans (b1.mono B.out.size)
        clear b1
        go_wp2
        go_ret
        exact ⟨_, rfl, .inr ⟨k, y, rfl, Hm, Hy, Ht⟩, B1⟩
      | false =>
        rw [hy] at hc
        have Hc : Hid (Calls Tryz.prog K (#[y.val] ++ cs) wr fun e w' => e = .returned (.bool false) ∧ Below wr.heap.size wr w') := hc
        have Hy : Hid (p y = false) := hy
        clear hc hy
        go_wp2_with fail
        refine Calls.mono Hc.out ?_
        rintro e w1 ⟨rfl, b1⟩
        have B1 : Hid (Below w.heap.size w w1) := B.out.trans (b1.mono B.out.size)
        clear b1
        go_wp2
        go_round
        case rel => exact ⟨k + 1, by omega, by go_num, by have := Hs.out; rw [Ht.out, Hy.out] at this; exact this, B1⟩
        case measure => simp [intOf]; omega

theorem FstU.has {p : UnV → Bool} {xs : List UnV} {r : Int} (h : FstU p xs r) : decide (0 ≤ r) = xs.any p := by
  rcases h with ⟨rfl, h⟩ | ⟨k, x, rfl, h1, h2, _⟩
  · rw [h]; decide
  · rw [decide_eq_true (by omega)]
    exact (List.any_eq_true.2 ⟨x, List.mem_of_getElem? h1, h2⟩).symm

set_option maxHeartbeats 1000000 in
theorem hasu_any (K : Nat) (eK : ∀ args w, (callFunc K args).run Tryz.prog w = .ok (.enter K args) w) (u : Value) (cs : Array Value) (ks : List UnV) (p : UnV → Bool) (w : World) (hu : Unl w u ks)
    (hp : ∀ W, Below w.heap.size w W → ∀ k : UnV, Calls Tryz.prog K (#[k.val] ++ cs) W fun e w' => e = .returned (.bool (p k)) ∧ Below W.heap.size W w') :
    Calls Tryz.prog 42 #[u, .func (Fn.func K) #[] cs] w fun e w' => e = .returned (.bool (ks.any p)) ∧ Below w.heap.size w w' := by
  have H' : Hid (Calls Tryz.prog 64 #[u, .func (Fn.func K) #[] cs] w fun e w' => ∃ r : Int, e = .returned (.int .i64 r) ∧ FstU p ks r ∧ Below w.heap.size w w') := idxu_any K eK u cs ks p w hu hp
  clear hp
  go_enter Tryz.func42, Tryz.ntmps42
  go_wp2_with fail
  refine Calls.mono H'.out ?_
  rintro e w1 ⟨r, rfl, hr, q⟩
  have Hr : Hid (decide (0 ≤ r) = ks.any p) := hr.has
  have Q : Hid (Below w.heap.size w w1) := q
  clear hr q
  go_wp2
  go_ret
  exact ⟨by show Ending.returned (.bool (decide (0 ≤ r))) = _; rw [Hr.out], Q⟩
end Go.Proofs.YteieikgkmfglaaaGreatDoor

namespace Go.Proofs.YteieikgkmfglaaaGreatDoor
open Go.RowKit
set_option linter.unusedVariables false

theorem wwithin_any (x lo hi : Int) (w : World) : Calls Tryz.prog 86 #[.int .i64 x, .int .i64 lo, .int .i64 hi] w fun e w' => e = .returned (.bool (decide (lo ≤ x ∧ x ≤ hi))) ∧ w' = w := by
  by_cases h1 : lo ≤ x
  · by_cases h2 : x ≤ hi
    · go_enter Tryz.func86, Tryz.ntmps86
      go_wp2
      go_ret
      refine ⟨?_, rfl⟩
      rw [decide_eq_true ⟨h1, h2⟩]
      rfl
    · go_enter Tryz.func86, Tryz.ntmps86
      go_wp2
      go_ret
      refine ⟨?_, rfl⟩
      rw [decide_eq_false (by omega)]
      rfl
  · go_enter Tryz.func86, Tryz.ntmps86
    go_wp2
    go_ret
    refine ⟨?_, rfl⟩
    rw [decide_eq_false (by omega)]
    rfl
end Go.Proofs.YteieikgkmfglaaaGreatDoor

