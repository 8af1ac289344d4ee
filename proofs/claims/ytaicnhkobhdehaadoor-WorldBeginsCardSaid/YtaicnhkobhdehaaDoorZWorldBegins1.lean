/- Numbers in bytes. Plain mathematics. · Readers of numbers in bytes. Plain mathematics. · What stays where one block turns. (Big2 has the same words for texts of its own; where both are wanted, let Big2 import this.) · What a walk is told of a slice of integers that came in. · Lists of integers: what a slice holds. · api.Unit: records in memory. · api.Job: records in memory. · Worlds in bytes. Plain mathematics. · Worlds in memory. · Lists of integers that the call itself makes, by append. · Slices of api.Unit that the call itself makes, by append. · Slices of api.Job that the call itself makes, by append. · A world's nine cells in a block that may be written; worlds that the call itself makes. · A whole list behind another one, where there is nothing in it. · Lists of integers: a whole list behind another one. · A list of integers that is written out, of any length. · Worlds: the numbers that are written, as mathematics; a world's slices. · Slices of api.Unit: a whole list behind another one. · Slices of api.Job: a whole list behind another one. · world.fresh, world.Copy. · Fields: plain mathematics. · Texts: cut at a byte and joined again; whole numbers as digits. Plain mathematics. · Kinds: what is wrong with them, their text, and back. Plain mathematics. · Kinds in memory. · Worlds: what is wrong with one. Plain mathematics. · slices.IndexFunc and ContainsFunc of units. · world.within. · slices.IndexFunc and ContainsFunc, of any function that tells yes or no and turns nothing. · Worlds: a unit by its id; whether a list has one of that number. · An error that is told. · Fields: what is wrong with a cell, with a field. -/
import Derived.Test.YtaicnhkobhdehaaDoorRows
import Derived.WalkKit
import Derived.WalkSpells
import Derived.WalkLawsBesides
import Derived.ProofKit
import Derived.Deep.QuietTactic
import Derived.BigQuiet
import Derived.OwnWalk
import Derived.Deep.AppendLies
import Derived.Laws.AppendOwnNone
import Derived.Deep.DeepCutAuto
import Derived.WideShapes
import Derived.Laws.Closers25
import Derived.IntWalk
namespace Go.Proofs.YtaicnhkobhdehaaDoor
set_option linter.unusedVariables false
namespace Wd

/-- numbers below 0 between the others. -/
def zz (n : Int) : Nat := if n < 0 then ((-(n + 1)).toNat) * 2 + 1 else n.toNat * 2
def unz (x : Nat) : Int := if x % 2 = 1 then -((x / 2 : Nat) : Int) - 1 else ((x / 2 : Nat) : Int)
theorem unz_zz (n : Int) : unz (zz n) = n := by
  unfold unz zz
  by_cases h : n < 0
  · rw [if_pos h, if_pos (by omega)]; omega
  · rw [if_neg h, if_neg (by omega)]; omega
theorem zz_unz (x : Nat) : zz (unz x) = x := by
  unfold unz zz
  by_cases h : x % 2 = 1
  · rw [if_pos h, if_pos (by omega)]; omega
  · rw [if_neg h, if_neg (by omega)]; omega
def In64 (n : Int) : Prop := -9223372036854775808 ≤ n ∧ n ≤ 9223372036854775807
theorem zz_lt {n : Int} (h : In64 n) : zz n < 18446744073709551616 := by
  unfold In64 at h
  unfold zz
  split <;> omega
theorem unz_in {x : Nat} (h : x < 18446744073709551616) : In64 (unz x) := by
  unfold In64 unz
  split <;> omega

/-- seven bits a byte. -/
def vl (x : Nat) : List UInt8 := if h : x < 128 then [UInt8.ofNat x] else UInt8.ofNat (x % 128 + 128) :: vl (x / 128)
termination_by x
theorem vl_small {x : Nat} (h : x < 128) : vl x = [UInt8.ofNat x] := by rw [vl, dif_pos h]
theorem vl_great {x : Nat} (h : 128 ≤ x) : vl x = UInt8.ofNat (x % 128 + 128) :: vl (x / 128) := by rw [vl, dif_neg (by omega)]
def num (n : Int) : List UInt8 := vl (zz n)
/-- the number that bytes go on with: i bytes are read, they come to x. -/
def rd (i x : Nat) : List UInt8 → Option (Nat × Nat)
  | [] => none
  | c :: t => if i = 9 ∧ 1 < c.toNat then none else if 128 ≤ c.toNat then rd (i + 1) (x + c.toNat % 128 * 128 ^ i) t else if c.toNat = 0 ∧ 0 < i then none else some (x + c.toNat * 128 ^ i, i + 1)

theorem pow_le9 {i : Nat} (h : i ≤ 9) : 128 ^ i ≤ 128 ^ 9 := Nat.pow_le_pow_right (by decide) h
theorem pow9 : (128 : Nat) ^ 9 = 9223372036854775808 := by decide
theorem rd_le : ∀ (l : List UInt8) (i x y n : Nat), i ≤ 9 → x < 128 ^ i → rd i x l = some (y, n) → i < n ∧ n ≤ i + l.length ∧ n ≤ 10 ∧ y < 18446744073709551616
  | [], i, x, y, n, hi, hx, h => by simp [rd] at h
  | c :: t, i, x, y, n, hi, hx, h => by
    have hc : c.toNat < 256 := c.toNat_lt
    have hs : 128 ^ (i + 1) = 128 ^ i * 128 := Nat.pow_succ ..
    unfold rd at h
    split at h
    · cases h
    · rename_i h9
      split at h
      · rename_i hm
        have : i ≠ 9 := fun e => h9 ⟨e, by omega⟩
        have hm2 : c.toNat % 128 * 128 ^ i ≤ 127 * 128 ^ i := Nat.mul_le_mul_right _ (by omega)
        obtain ⟨h1, h2, h3, h4⟩ := rd_le t (i + 1) _ y n (by omega) (by omega) h
        simp only [List.length_cons]
        exact ⟨by omega, by omega, h3, h4⟩
      · split at h
        · cases h
        · injection h with h
          injection h with h1 h2
          subst h1 h2
          refine ⟨by omega, by simp only [List.length_cons]; omega, by omega, ?_⟩
          by_cases e : i = 9
          · subst e
            have : c.toNat ≤ 1 := by
              rcases Nat.lt_or_ge 1 c.toNat with h | h
              · exact absurd ⟨rfl, h⟩ h9
              · exact h
            have : c.toNat * 128 ^ 9 ≤ 1 * 128 ^ 9 := Nat.mul_le_mul_right _ this
            rw [pow9] at this hx ⊢
            omega
          · have h8 : 128 ^ i ≤ 128 ^ 8 := Nat.pow_le_pow_right (by decide) (by omega)
            have h82 : (128 : Nat) ^ 8 = 72057594037927936 := by decide
            have : c.toNat * 128 ^ i ≤ 127 * 128 ^ i := Nat.mul_le_mul_right _ (by omega)
            omega
theorem rd_vl : ∀ (f x i a : Nat) (t : List UInt8), x ≤ f → i ≤ 9 → x * 128 ^ i < 18446744073709551616 → (i = 0 ∨ 0 < x) → rd i a (vl x ++ t) = some (a + x * 128 ^ i, i + (vl x).length)
  | f, x, i, a, t, hf, hi, hx, hz => by
    by_cases h : x < 128
    · have e : (UInt8.ofNat x).toNat = x := by rw [UInt8.toNat_ofNat']; omega
      rw [vl_small h]
      show rd i a (UInt8.ofNat x :: t) = _
      unfold rd
      rw [e, if_neg, if_neg (by omega), if_neg (by omega)]
      · rfl
      · rintro ⟨e9, h1⟩
        subst e9
        have : 2 * 128 ^ 9 ≤ x * 128 ^ 9 := Nat.mul_le_mul_right _ h1
        rw [pow9] at this hx
        omega
    · have e : (UInt8.ofNat (x % 128 + 128)).toNat = x % 128 + 128 := by rw [UInt8.toNat_ofNat']; omega
      have hs : 128 ^ (i + 1) = 128 ^ i * 128 := Nat.pow_succ ..
      have i9 : i ≠ 9 := fun e9 => by
        subst e9
        have : 128 * 128 ^ 9 ≤ x * 128 ^ 9 := Nat.mul_le_mul_right _ (by omega)
        rw [pow9] at this hx
        omega
      rw [vl_great (by omega)]
      show rd i a (UInt8.ofNat (x % 128 + 128) :: (vl (x / 128) ++ t)) = _
      unfold rd
      have hsum : x = x / 128 * 128 + x % 128 := by omega
      have hmul : x * 128 ^ i = x / 128 * 128 ^ (i + 1) + x % 128 * 128 ^ i := by
        conv => lhs; rw [hsum]
        rw [Nat.add_mul, hs, Nat.mul_comm (128 ^ i) 128, Nat.mul_assoc]
      rw [e, if_neg (fun h => i9 h.1), if_pos (by omega)]
      match f, hf with
      | 0, hf => omega
      | f + 1, hf =>
        rw [rd_vl f (x / 128) (i + 1) _ t (by omega) (by omega) (by omega) (.inr (by omega))]
        simp only [List.length_cons]
        have e3 : (x % 128 + 128) % 128 = x % 128 := by omega
        rw [e3, hmul]
        congr 2
        · omega
        · omega
termination_by f => f
theorem rd_back : ∀ (l : List UInt8) (i a y n : Nat), i ≤ 9 → rd i a l = some (y, n) → ∃ x t, y = a + x * 128 ^ i ∧ l = vl x ++ t ∧ n = i + (vl x).length ∧ (i = 0 ∨ 0 < x)
  | [], i, a, y, n, hi, h => by simp [rd] at h
  | c :: t, i, a, y, n, hi, h => by
    have hc : c.toNat < 256 := c.toNat_lt
    have hs : 128 ^ (i + 1) = 128 ^ i * 128 := Nat.pow_succ ..
    unfold rd at h
    split at h
    · cases h
    · rename_i h9
      split at h
      · rename_i hm
        have i9 : i ≠ 9 := fun e => h9 ⟨e, by omega⟩
        obtain ⟨x, t', h1, h2, h3, h4⟩ := rd_back t (i + 1) _ y n (by omega) h
        have x0 : 0 < x := by omega
        have e1 : (x * 128 + c.toNat % 128) % 128 + 128 = c.toNat := by omega
        have e2 : (x * 128 + c.toNat % 128) / 128 = x := by omega
        have ev : vl (x * 128 + c.toNat % 128) = c :: vl x := by
          rw [vl_great (by omega), e1, e2, UInt8.ofNat_toNat]
        refine ⟨x * 128 + c.toNat % 128, t', ?_, ?_, ?_, .inr (by omega)⟩
        · rw [h1, hs, Nat.add_mul, Nat.mul_comm (128 ^ i) 128, ← Nat.mul_assoc]; omega
        · rw [ev, h2]; rfl
        · rw [ev, h3]; simp only [List.length_cons]; omega
      · rename_i hm
        split at h
        · cases h
        · rename_i hz
          injection h with h
          injection h with h1 h2
          have ev : vl c.toNat = [c] := by rw [vl_small (by omega), UInt8.ofNat_toNat]
          refine ⟨c.toNat, t, h1.symm, by rw [ev]; rfl, by rw [ev, ← h2]; rfl, ?_⟩
          omega

/-- the number that stands at a place, and the place behind it. -/
def pnum (b : List UInt8) (a : Nat) : Option (Int × Nat) := match rd 0 0 (b.drop a) with
  | none => none
  | some (x, n) => some (unz x, a + n)
theorem pnum_le {b : List UInt8} {a : Nat} {v : Int} {a' : Nat} (h : pnum b a = some (v, a')) : a < a' ∧ a' ≤ b.length ∧ a' ≤ a + 10 ∧ In64 v := by
  unfold pnum at h
  split at h
  · cases h
  · rename_i x n hr
    injection h with h
    injection h with h1 h2
    obtain ⟨e1, e2, e3, e4⟩ := rd_le _ 0 0 x n (by omega) (by simp) hr
    rw [List.length_drop] at e2
    refine ⟨by omega, by omega, by omega, by rw [← h1]; exact unz_in e4⟩
theorem pnum_num {b : List UInt8} {a : Nat} {n : Int} {t : List UInt8} (h : In64 n) (hb : b.drop a = num n ++ t) : pnum b a = some (n, a + (num n).length) := by
  unfold pnum
  rw [hb]
  unfold num
  rw [rd_vl _ (zz n) 0 0 t (Nat.le_refl _) (by omega) (by simpa using zz_lt h) (.inl rfl)]
  simp [unz_zz]
theorem pnum_back {b : List UInt8} {a : Nat} {v : Int} {a' : Nat} (h : pnum b a = some (v, a')) : b.drop a = num v ++ b.drop a' ∧ a' = a + (num v).length := by
  unfold pnum at h
  split at h
  · cases h
  · rename_i x n hr
    injection h with h
    injection h with h1 h2
    obtain ⟨x', t, e1, e2, e3, -⟩ := rd_back _ 0 0 x n (by omega) hr
    have ex : x = x' := by omega
    subst ex
    have en : num v = vl x := by unfold num; rw [← h1, zz_unz]
    have el : a' = a + (num v).length := by rw [en]; omega
    refine ⟨?_, el⟩
    rw [en, el, ← List.drop_drop, e2, en, List.drop_left]

/-- readers, one behind the other. -/
abbrev Pr (α : Type) := Nat → Option (α × Nat)
def prep {α : Type} (p : Pr α) : Nat → Pr (List α)
  | 0, a => some ([], a)
  | n + 1, a => match p a with
    | none => none
    | some (v, a') => match prep p n a' with
      | none => none
      | some (l, a'') => some (v :: l, a'')
theorem prep_snoc {α : Type} (p : Pr α) : ∀ (n a : Nat), prep p (n + 1) a = match prep p n a with
    | none => none
    | some (l, a') => match p a' with
      | none => none
      | some (v, a'') => some (l ++ [v], a'')
  | 0, a => by
    simp only [prep]
    cases p a with
    | none => rfl
    | some x => rfl
  | n + 1, a => by
    rw [prep]
    rw [show prep p (n + 1) a = (match p a with | none => none | some (v, a') => match prep p n a' with | none => none | some (l, a'') => some (v :: l, a'')) from rfl]
    cases p a with
    | none => rfl
    | some x =>
      obtain ⟨v, a'⟩ := x
      simp only
      rw [prep_snoc p n a']
      cases prep p n a' with
      | none => rfl
      | some y =>
        obtain ⟨l, a''⟩ := y
        simp only
        cases p a'' with
        | none => rfl
        | some z => rfl
theorem prep_len {α : Type} {p : Pr α} : ∀ {n a : Nat} {l : List α} {a' : Nat}, prep p n a = some (l, a') → l.length = n
  | 0, a, l, a', h => by simp [prep] at h; rw [h.1]; rfl
  | n + 1, a, l, a', h => by
    rw [prep] at h
    split at h
    · cases h
    · split at h
      · cases h
      · rename_i hh
        injection h with h
        injection h with h1 h2
        rw [← h1, List.length_cons, prep_len hh]
def pmany (b : List UInt8) (a : Nat) : Option (Nat × Nat) := match pnum b a with
  | none => none
  | some (n, a') => if 0 ≤ n ∧ n ≤ 200 then some (n.toNat, a') else none
def pbind {α β : Type} (p : Pr α) (f : α → Pr β) : Pr β := fun a => match p a with
  | none => none
  | some (v, a') => f v a'
def plist {α : Type} (b : List UInt8) (p : Pr α) : Pr (List α) := pbind (pmany b) (fun n => prep p n)
def pret {α : Type} (v : α) : Pr α := fun a => some (v, a)
end Wd
end Go.Proofs.YtaicnhkobhdehaaDoor

namespace Go.Proofs.YtaicnhkobhdehaaDoor
set_option linter.unusedVariables false
namespace Wd

/-- what a reader that goes on where something is wrong has read: f: something was wrong. -/
def Rd {α : Type} (p : Pr α) (a : Nat) (f : Bool) (v : α) (a' : Nat) (f' : Bool) : Prop := (f = true → f' = true) ∧ (f = false → (p a = some (v, a') ∧ f' = false) ∨ (p a = none ∧ f' = true))
theorem Rd.ret {α : Type} (v : α) (a : Nat) (f : Bool) : Rd (pret v) a f v a f := ⟨fun h => h, fun h => .inl ⟨rfl, h⟩⟩
theorem Rd.bind {α β : Type} {p : Pr α} {q : α → Pr β} {a : Nat} {f : Bool} {v : α} {a' : Nat} {f' : Bool} {u : β} {a'' : Nat} {f'' : Bool} (h1 : Rd p a f v a' f') (h2 : Rd (q v) a' f' u a'' f'') : Rd (pbind p q) a f u a'' f'' := by
  refine ⟨fun h => h2.1 (h1.1 h), fun h => ?_⟩
  rcases h1.2 h with ⟨e1, e2⟩ | ⟨e1, e2⟩
  · unfold pbind
    rw [e1]
    exact h2.2 e2
  · refine .inr ⟨?_, h2.1 e2⟩
    unfold pbind
    rw [e1]
theorem Rd.snoc {α : Type} {p : Pr α} {n a : Nat} {f : Bool} {l : List α} {a' : Nat} {f' : Bool} {v : α} {a'' : Nat} {f'' : Bool} (h1 : Rd (prep p n) a f l a' f') (h2 : Rd p a' f' v a'' f'') : Rd (prep p (n + 1)) a f (l ++ [v]) a'' f'' := by
  refine ⟨fun h => h2.1 (h1.1 h), fun h => ?_⟩
  rw [prep_snoc]
  rcases h1.2 h with ⟨e1, e2⟩ | ⟨e1, e2⟩
  · rw [e1]
    rcases h2.2 e2 with ⟨e3, e4⟩ | ⟨e3, e4⟩
    · exact .inl ⟨by simp only [e3], e4⟩
    · exact .inr ⟨by simp only [e3], e4⟩
  · exact .inr ⟨by rw [e1], h2.1 e2⟩
theorem Rd.nil {α : Type} (p : Pr α) (a : Nat) (f : Bool) : Rd (prep p 0) a f [] a f := ⟨fun h => h, fun h => .inl ⟨rfl, h⟩⟩
theorem prep_none {α : Type} {p : Pr α} {n a : Nat} (h : prep p n a = none) : ∀ m, prep p (n + m) a = none
  | 0 => h
  | m + 1 => by
    rw [show n + (m + 1) = (n + m) + 1 from rfl, prep_snoc, prep_none h m]
theorem Rd.early {α : Type} {p : Pr α} {n a : Nat} {f : Bool} {l : List α} {a' : Nat} (h : Rd (prep p n) a f l a' true) {m : Nat} (hm : n ≤ m) (l' : List α) (a'' : Nat) : Rd (prep p m) a f l' a'' true := by
  refine ⟨fun _ => rfl, fun hf => ?_⟩
  rcases h.2 hf with ⟨-, e⟩ | ⟨e, -⟩
  · cases e
  · have := prep_none e (m - n)
    rw [Nat.add_sub_cancel' hm] at this
    exact .inr ⟨this, rfl⟩
theorem Rd.bad {α : Type} {p : Pr α} {a : Nat} {v : α} {a' : Nat} : Rd p a true v a' true := ⟨fun h => h, fun h => by cases h⟩
/-- the list behind how many there are. -/
theorem Rd.list {α : Type} {b : List UInt8} {p : Pr α} {a : Nat} {f : Bool} {n : Nat} {a' : Nat} {f' : Bool} {l : List α} {a'' : Nat} {f'' : Bool} (h1 : Rd (pmany b) a f n a' f') (h2 : Rd (prep p n) a' f' l a'' f'') : Rd (plist b p) a f l a'' f'' := Rd.bind (q := fun n => prep p n) h1 h2
theorem plist_eq {α : Type} (b : List UInt8) (p : Pr α) : plist b p = pbind (pmany b) (fun n => prep p n) := rfl

def wr (l : List Int) : List UInt8 := l.flatMap num
/-- a reader reads what was written, and nothing else. -/
structure Reads {α : Type} (b : List UInt8) (p : Pr α) (e : α → List Int) (ok : α → Prop) : Prop where
  fwd : ∀ {a : Nat} {v : α} {t : List UInt8}, ok v → b.drop a = wr (e v) ++ t → p a = some (v, a + (wr (e v)).length)
  back : ∀ {a : Nat} {v : α} {a' : Nat}, p a = some (v, a') → ok v ∧ b.drop a = wr (e v) ++ b.drop a' ∧ a' = a + (wr (e v)).length
theorem wr_append (l m : List Int) : wr (l ++ m) = wr l ++ wr m := by unfold wr; rw [List.flatMap_append]
theorem wr_one (n : Int) : wr [n] = num n := by simp [wr]
theorem reads_num (b : List UInt8) : Reads b (pnum b) (fun n => [n]) In64 where
  fwd := fun {a v t} h hb => by
    rw [wr_one] at hb ⊢
    exact pnum_num h hb
  back := fun {a v a'} h => by
    rw [wr_one]
    exact ⟨(pnum_le h).2.2.2, (pnum_back h).1, (pnum_back h).2⟩
theorem reads_ret {α : Type} (b : List UInt8) (v : α) : Reads b (pret v) (fun _ => []) (fun u => u = v) where
  fwd := fun {a u t} h hb => by subst h; rfl
  back := fun {a u a'} h => by
    unfold pret at h
    injection h with h
    injection h with h1 h2
    exact ⟨h1.symm, by rw [h2]; rfl, by rw [h2]; rfl⟩
/-- one behind the other: f finds the first part of what comes of both. -/
theorem Reads.bind {α β : Type} {b : List UInt8} {p : Pr α} {q : α → Pr β} {e : α → List Int} {e' : β → List Int} {ok : α → Prop} {ok' : α → β → Prop} (f : β → α) (h1 : Reads b p e ok) (h2 : ∀ v, Reads b (q v) e' (ok' v)) (hf : ∀ v u, ok' v u → f u = v) : Reads b (pbind p q) (fun u => e (f u) ++ e' u) (fun u => ok (f u) ∧ ok' (f u) u) where
  fwd := fun {a u t} h hb => by
    rw [wr_append, List.append_assoc] at hb
    unfold pbind
    rw [h1.fwd h.1 hb]
    simp only
    rw [wr_append, List.length_append, ← Nat.add_assoc]
    refine (h2 (f u)).fwd (t := t) h.2 ?_
    rw [← List.drop_drop, hb, List.drop_left]
  back := fun {a u a'} h => by
    unfold pbind at h
    split at h
    · cases h
    · rename_i v a1 hp
      obtain ⟨k1, k2, k3⟩ := h1.back hp
      obtain ⟨m1, m2, m3⟩ := (h2 v).back h
      have ev := hf v u m1
      rw [ev]
      refine ⟨⟨k1, m1⟩, ?_, ?_⟩
      · rw [wr_append, List.append_assoc, k2, m2]
      · rw [wr_append, List.length_append, m3, k3]; omega
theorem Reads.rep {α : Type} {b : List UInt8} {p : Pr α} {e : α → List Int} {ok : α → Prop} (h : Reads b p e ok) : ∀ n, Reads b (prep p n) (fun l => l.flatMap e) (fun l => l.length = n ∧ ∀ v ∈ l, ok v)
  | 0 => {
    fwd := fun {a l t} hl hb => by
      obtain rfl := List.length_eq_zero_iff.1 hl.1
      rfl
    back := fun {a l a'} hl => by
      simp only [prep, Option.some.injEq, Prod.mk.injEq] at hl
      obtain ⟨rfl, rfl⟩ := hl
      exact ⟨⟨rfl, by simp⟩, rfl, rfl⟩ }
  | n + 1 => {
    fwd := fun {a l t} hl hb => by
      match l, hl with
      | v :: l, hl =>
        rw [List.flatMap_cons, wr_append] at hb ⊢
        rw [List.append_assoc] at hb
        rw [prep, h.fwd (hl.2 v (by simp)) hb]
        simp only
        rw [(Reads.rep h n).fwd (v := l) (t := t) ⟨by simpa using hl.1, fun u hu => hl.2 u (by simp [hu])⟩ (by rw [← List.drop_drop, hb, List.drop_left])]
        simp only [List.length_append]
        rw [Nat.add_assoc]
    back := fun {a l a'} hl => by
      rw [prep] at hl
      split at hl
      · cases hl
      · rename_i v a1 hp
        split at hl
        · cases hl
        · rename_i l' a2 hq
          injection hl with hl
          injection hl with e1 e2
          subst e1 e2
          obtain ⟨k1, k2, k3⟩ := h.back hp
          obtain ⟨m1, m2, m3⟩ := (Reads.rep h n).back hq
          refine ⟨⟨by rw [List.length_cons, m1.1], ?_⟩, ?_, ?_⟩
          · intro u hu
            rcases List.mem_cons.1 hu with rfl | hu
            · exact k1
            · exact m1.2 u hu
          · rw [List.flatMap_cons, wr_append, List.append_assoc, k2, m2]
          · rw [List.flatMap_cons, wr_append, List.length_append, m3, k3]; omega }
theorem in_200 {n : Nat} (h : n ≤ 200) : In64 (n : Int) := by unfold In64; omega
theorem reads_many (b : List UInt8) : Reads b (pmany b) (fun n => [(n : Int)]) (fun n => n ≤ 200) where
  fwd := fun {a v t} h hb => by
    rw [wr_one] at hb ⊢
    unfold pmany
    rw [pnum_num (in_200 h) hb]
    simp only
    rw [if_pos (by omega)]
    rfl
  back := fun {a v a'} h => by
    unfold pmany at h
    split at h
    · cases h
    · rename_i n a1 hp
      split at h
      · rename_i hn
        injection h with h
        injection h with e1 e2
        subst e1 e2
        rw [wr_one]
        have : ((n.toNat : Nat) : Int) = n := by omega
        rw [this]
        exact ⟨by omega, (pnum_back hp).1, (pnum_back hp).2⟩
      · cases h
theorem Reads.list {α : Type} {b : List UInt8} {p : Pr α} {e : α → List Int} {ok : α → Prop} (h : Reads b p e ok) : Reads b (plist b p) (fun l => (l.length : Int) :: l.flatMap e) (fun l => l.length ≤ 200 ∧ ∀ v ∈ l, ok v) := by
  have := Reads.bind (q := fun n => prep p n) List.length (reads_many b) (fun n => h.rep n) (fun n l hl => hl.1)
  rw [plist_eq]
  exact { fwd := fun {a v t} hv hb => this.fwd (a := a) (v := v) (t := t) ⟨hv.1, rfl, hv.2⟩ hb, back := fun {a v a'} hh => by obtain ⟨⟨h1, h2, h3⟩, h4, h5⟩ := this.back hh; exact ⟨⟨h1, h3⟩, h4, h5⟩ }
/-- the same, told by other words. -/
theorem Reads.as {α : Type} {b : List UInt8} {p : Pr α} {e e' : α → List Int} {ok ok' : α → Prop} (h : Reads b p e ok) (he : ∀ v, e' v = e v) (ho : ∀ v, ok' v ↔ ok v) : Reads b p e' ok' := by
  obtain rfl : e' = e := funext he
  obtain rfl : ok' = ok := funext fun v => propext (ho v)
  exact h
end Wd
end Go.Proofs.YtaicnhkobhdehaaDoor

namespace Go.Proofs.YtaicnhkobhdehaaDoor
open Go.RowKit

/-- nothing below has turned but block z. -/
structure Kp (z : Nat) (w w' : World) : Prop where
  os : w'.os = w.os
  tape : w'.tape = w.tape
  output : w'.output = w.output
  size : w.heap.size ≤ w'.heap.size
  block : ∀ k, k < w.heap.size → k ≠ z → w'.heap[k]? = w.heap[k]?

theorem Kp.of {z : Nat} {w w' : World} (h : Below w.heap.size w w') : Kp z w w' := ⟨h.os, h.tape, h.output, h.size, fun k hk _ => h.block k hk⟩
theorem Kp.refl (z : Nat) (w : World) : Kp z w w := Kp.of (Below.refl _ _)
theorem Kp.trans {z : Nat} {a b c : World} (h : Kp z a b) (k : Kp z b c) : Kp z a c :=
  ⟨k.os.trans h.os, k.tape.trans h.tape, k.output.trans h.output, Nat.le_trans h.size k.size, fun i hi hz => (k.block i (Nat.lt_of_lt_of_le hi h.size) hz).trans (h.block i hi hz)⟩
theorem Kp.set {z : Nat} (w : World) (i : Nat) (u : Value) : Kp z w (w.setCell ⟨z, i, none⟩ u) :=
  ⟨rfl, rfl, rfl, by simp [World.setCell], fun k _ hz => Below.heap_setCell _ _ _ _ hz⟩
theorem Kp.below {z B : Nat} {a w w' : World} (h : Below B a w) (k : Kp z w w') (hB : B ≤ w.heap.size) (hz : B ≤ z) : Below B a w' :=
  h.trans ⟨k.os, k.tape, k.output, k.size, fun i hi => k.block i (by omega) (by omega)⟩

theorem Kp.set_new {z b : Nat} {w W : World} (h : Kp z w W) (hb : w.heap.size ≤ b) (i : Nat) (u : Value) : Kp z w (W.setCell ⟨b, i, none⟩ u) :=
  ⟨h.os, h.tape, h.output, by simpa [World.setCell] using h.size, fun k hk hz => (Below.heap_setCell _ _ _ _ (by show k ≠ b; omega)).trans (h.block k hk hz)⟩
theorem Kp.drewN {z : Nat} {w W : World} (h : Kp z w W) (n : Nat) : Kp z w (W.drewN n) := ⟨h.os, h.tape, h.output, h.size, h.block⟩

theorem lt_of_block {w : World} {b : Nat} {o : Obj} (h : w.heap[b]? = some o) : b < w.heap.size := by
  rcases Nat.lt_or_ge b w.heap.size with h1 | h1
  · exact h1
  · rw [Array.getElem?_eq_none h1] at h; cases h

end Go.Proofs.YtaicnhkobhdehaaDoor

namespace Go.Proofs.YtaicnhkobhdehaaDoor

/-- nil, or a row of cells: the numbers zs, of which the first len are the elements. -/
def IsRow (k : IntKind) (w : World) (a : Option Addr) (len cap : Nat) (zs : List Int) : Prop :=
  (a = none ∧ len = 0 ∧ cap = 0 ∧ zs = []) ∨
  ∃ x, a = some x ∧ len ≤ cap ∧ cap ≤ maxLen ∧ zs.length = cap ∧ (∀ i, i < zs.length → w.cell? (x.add i) = some (.int k (zs.getD i 0))) ∧ ∀ n ∈ zs, (Lit.int k n).wf = true
end Go.Proofs.YtaicnhkobhdehaaDoor

namespace Go.Proofs.YtaicnhkobhdehaaDoor
open Go.RowKit

/-- the cells of a list, from an address on. -/
def Cells (w : World) (a : Option Addr) (xs : List Int) : Prop := xs ≠ [] → ∃ x, a = some x ∧ x.block < w.heap.size ∧ ∀ i d, xs[i]? = some d → w.cell? (x.add i) = some (.int .i64 d)
/-- v is a slice of the integers xs. -/
def Ro (w : World) (v : Value) (xs : List Int) : Prop := ∃ (a : Option Addr) (c : Nat), v = .slice a xs.length c ∧ xs.length ≤ c ∧ c ≤ 9223372036854775807 ∧ Cells w a xs

theorem cell_lt {w : World} {x : Addr} {v : Value} (h : w.cell? x = some v) : x.block < w.heap.size := by
  rcases Nat.lt_or_ge x.block w.heap.size with h1 | h1
  · exact h1
  · simp [World.cell?, Array.getElem?_eq_none h1] at h

theorem add_block (x : Addr) (i : Nat) : (x.add i).block = x.block := by unfold Addr.add; split <;> rfl

theorem Cells.below {w w' : World} {a : Option Addr} {xs : List Int} (h : Cells w a xs) (hb : Below w.heap.size w w') : Cells w' a xs := fun hx => by
  obtain ⟨x, ha, hl, hc⟩ := h hx
  refine ⟨x, ha, Nat.lt_of_lt_of_le hl hb.size, fun i d hd => ?_⟩
  rw [hb.cell (p := x.add i) (by rw [add_block]; exact hl)]
  exact hc i d hd
theorem Ro.below {w w' : World} {v : Value} {xs : List Int} (h : Ro w v xs) (hb : Below w.heap.size w w') : Ro w' v xs := by
  obtain ⟨a, c, h1, h2, h3, h4⟩ := h
  exact ⟨a, c, h1, h2, h3, h4.below hb⟩
theorem Ro.drewN {w : World} {v : Value} {xs : List Int} (h : Ro w v xs) (n : Nat) : Ro (w.drewN n) v xs := h.below (_root_.Go.below_drewN (Below.refl _ _) n)

/-- what came in. -/
theorem IsRow.ro {w : World} {a : Option Addr} {len cap : Nat} {zs : List Int} (h : IsRow .i64 w a len cap zs) : Ro w (.slice a len cap) (zs.take len) := by
  rcases h with ⟨rfl, rfl, rfl, rfl⟩ | ⟨x, rfl, h1, h2, h3, h4, h5⟩
  · exact ⟨none, 0, rfl, Nat.le_refl _, by omega, fun h => absurd rfl h⟩
  · have hl : (zs.take len).length = len := by rw [List.length_take]; omega
    refine ⟨some x, cap, by rw [hl], by omega, by unfold maxLen at h2; omega, fun hx => ⟨x, rfl, ?_, fun i d hd => ?_⟩⟩
    · have h0 : 0 < zs.length := by
        rcases Nat.eq_zero_or_pos zs.length with h | h
        · exact absurd (by rw [List.length_eq_zero_iff.1 h]; simp) hx
        · exact h
      have := cell_lt (x := x.add 0) (h4 0 h0)
      rwa [add_block] at this
    · rw [List.getElem?_take] at hd
      split at hd
      · obtain ⟨hi, he⟩ := List.getElem?_eq_some_iff.1 hd
        rw [h4 i hi, List.getD_eq_getElem?_getD, hd]
        rfl
      · cases hd
end Go.Proofs.YtaicnhkobhdehaaDoor

namespace Go.Proofs.YtaicnhkobhdehaaDoor
open Go.RowKit
set_option linter.unusedVariables false

structure UnV where
  id : Int
  player : Int
  kind : Int
  at_ : Int
  life : Int
  load : Int
  task : Int
  goal : Int
def UnV.val (k : UnV) : Value := .agg #[.int .i64 k.id, .int .i64 k.player, .int .i64 k.kind, .int .i64 k.at_, .int .i64 k.life, .int .i64 k.load, .int .i64 k.task, .int .i64 k.goal]
/-- its cells, from an address on. -/
structure Unc (w : World) (y : Addr) (k : UnV) : Prop where
  c0 : w.cell? y = some (.int .i64 k.id)
  c1 : w.cell? ⟨y.block, y.off + 1, none⟩ = some (.int .i64 k.player)
  c2 : w.cell? ⟨y.block, y.off + 2, none⟩ = some (.int .i64 k.kind)
  c3 : w.cell? ⟨y.block, y.off + 3, none⟩ = some (.int .i64 k.at_)
  c4 : w.cell? ⟨y.block, y.off + 4, none⟩ = some (.int .i64 k.life)
  c5 : w.cell? ⟨y.block, y.off + 5, none⟩ = some (.int .i64 k.load)
  c6 : w.cell? ⟨y.block, y.off + 6, none⟩ = some (.int .i64 k.task)
  c7 : w.cell? ⟨y.block, y.off + 7, none⟩ = some (.int .i64 k.goal)
theorem Unc.lt {w : World} {y : Addr} {k : UnV} (h : Unc w y k) : y.block < w.heap.size := cell_lt h.c0
theorem Unc.below {w w' : World} {y : Addr} {k : UnV} {B : Nat} (h : Unc w y k) (hb : Below B w w') (hy : y.block < B) : Unc w' y k :=
  ⟨by rw [hb.cell (p := y) hy]; exact h.c0, by rw [hb.cell (p := ⟨y.block, y.off + 1, none⟩) hy]; exact h.c1, by rw [hb.cell (p := ⟨y.block, y.off + 2, none⟩) hy]; exact h.c2, by rw [hb.cell (p := ⟨y.block, y.off + 3, none⟩) hy]; exact h.c3, by rw [hb.cell (p := ⟨y.block, y.off + 4, none⟩) hy]; exact h.c4, by rw [hb.cell (p := ⟨y.block, y.off + 5, none⟩) hy]; exact h.c5, by rw [hb.cell (p := ⟨y.block, y.off + 6, none⟩) hy]; exact h.c6, by rw [hb.cell (p := ⟨y.block, y.off + 7, none⟩) hy]; exact h.c7⟩
/-- v is a slice of them. -/
def Unl (w : World) (v : Value) (ks : List UnV) : Prop := ∃ a c, v = .slice a ks.length c ∧ ks.length ≤ c ∧ c ≤ 9223372036854775807 ∧ (ks ≠ [] → ∃ x, a = some x ∧ x.block < w.heap.size ∧ ∀ (i : Nat) k, ks[i]? = some k → Unc w (x.add (i * 8)) k)
theorem Unl.below {w w' : World} {v : Value} {ks : List UnV} (h : Unl w v ks) (hb : Below w.heap.size w w') : Unl w' v ks := by
  obtain ⟨a, c, h1, h2, h3, h4⟩ := h
  refine ⟨a, c, h1, h2, h3, fun hn => ?_⟩
  obtain ⟨x, e, hx, hk⟩ := h4 hn
  exact ⟨x, e, Nat.lt_of_lt_of_le hx hb.size, fun i k hi => (hk i k hi).below hb (by rw [add_block]; exact hx)⟩
theorem Unc.mk' {w : World} {z : Nat} (k : UnV) (hz : w.heap.size = z) : Unc (w.alloc (.cells #[.int .i64 k.id, .int .i64 k.player, .int .i64 k.kind, .int .i64 k.at_, .int .i64 k.life, .int .i64 k.load, .int .i64 k.task, .int .i64 k.goal] 45)) ⟨z, 0, none⟩ k := by
  subst hz
  constructor <;> simp
end Go.Proofs.YtaicnhkobhdehaaDoor

namespace Go.Proofs.YtaicnhkobhdehaaDoor
open Go.RowKit
set_option linter.unusedVariables false

structure JbV where
  player : Int
  unit : Int
  kind : Int
  left : Int
def JbV.val (k : JbV) : Value := .agg #[.int .i64 k.player, .int .i64 k.unit, .int .i64 k.kind, .int .i64 k.left]
/-- its cells, from an address on. -/
structure Jbc (w : World) (y : Addr) (k : JbV) : Prop where
  c0 : w.cell? y = some (.int .i64 k.player)
  c1 : w.cell? ⟨y.block, y.off + 1, none⟩ = some (.int .i64 k.unit)
  c2 : w.cell? ⟨y.block, y.off + 2, none⟩ = some (.int .i64 k.kind)
  c3 : w.cell? ⟨y.block, y.off + 3, none⟩ = some (.int .i64 k.left)
theorem Jbc.lt {w : World} {y : Addr} {k : JbV} (h : Jbc w y k) : y.block < w.heap.size := cell_lt h.c0
theorem Jbc.below {w w' : World} {y : Addr} {k : JbV} {B : Nat} (h : Jbc w y k) (hb : Below B w w') (hy : y.block < B) : Jbc w' y k :=
  ⟨by rw [hb.cell (p := y) hy]; exact h.c0, by rw [hb.cell (p := ⟨y.block, y.off + 1, none⟩) hy]; exact h.c1, by rw [hb.cell (p := ⟨y.block, y.off + 2, none⟩) hy]; exact h.c2, by rw [hb.cell (p := ⟨y.block, y.off + 3, none⟩) hy]; exact h.c3⟩
/-- v is a slice of them. -/
def Jbl (w : World) (v : Value) (ks : List JbV) : Prop := ∃ a c, v = .slice a ks.length c ∧ ks.length ≤ c ∧ c ≤ 9223372036854775807 ∧ (ks ≠ [] → ∃ x, a = some x ∧ x.block < w.heap.size ∧ ∀ (i : Nat) k, ks[i]? = some k → Jbc w (x.add (i * 4)) k)
theorem Jbl.below {w w' : World} {v : Value} {ks : List JbV} (h : Jbl w v ks) (hb : Below w.heap.size w w') : Jbl w' v ks := by
  obtain ⟨a, c, h1, h2, h3, h4⟩ := h
  refine ⟨a, c, h1, h2, h3, fun hn => ?_⟩
  obtain ⟨x, e, hx, hk⟩ := h4 hn
  exact ⟨x, e, Nat.lt_of_lt_of_le hx hb.size, fun i k hi => (hk i k hi).below hb (by rw [add_block]; exact hx)⟩
theorem Jbc.mk' {w : World} {z : Nat} (k : JbV) (hz : w.heap.size = z) : Jbc (w.alloc (.cells #[.int .i64 k.player, .int .i64 k.unit, .int .i64 k.kind, .int .i64 k.left] 57)) ⟨z, 0, none⟩ k := by
  subst hz
  constructor <;> simp
end Go.Proofs.YtaicnhkobhdehaaDoor

namespace Go.Proofs.YtaicnhkobhdehaaDoor
set_option linter.unusedVariables false

structure WV where
  turn : Int
  next : Int
  wide : Int
  high : Int
  gs : List Int
  os : List Int
  gold : List Int
  us : List UnV
  qs : List JbV
namespace Wd

def punit (b : List UInt8) : Pr UnV := pbind (pnum b) fun v0 => pbind (pnum b) fun v1 => pbind (pnum b) fun v2 => pbind (pnum b) fun v3 => pbind (pnum b) fun v4 => pbind (pnum b) fun v5 => pbind (pnum b) fun v6 => pbind (pnum b) fun v7 => pret ⟨v0, v1, v2, v3, v4, v5, v6, v7⟩
def pjob (b : List UInt8) : Pr JbV := pbind (pnum b) fun v0 => pbind (pnum b) fun v1 => pbind (pnum b) fun v2 => pbind (pnum b) fun v3 => pret ⟨v0, v1, v2, v3⟩
def pworld (b : List UInt8) : Pr WV := pbind (pnum b) fun t => pbind (pnum b) fun x => pbind (pnum b) fun wd => pbind (pnum b) fun hg => pbind (plist b (pnum b)) fun gs => pbind (plist b (pnum b)) fun os => pbind (plist b (pnum b)) fun gold => pbind (plist b (punit b)) fun us => pbind (plist b (pjob b)) fun qs => pret ⟨t, x, wd, hg, gs, os, gold, us, qs⟩

def unums (u : UnV) : List Int := [u.id, u.player, u.kind, u.at_, u.life, u.load, u.task, u.goal]
def jnums (j : JbV) : List Int := [j.player, j.unit, j.kind, j.left]
def nums (W : WV) : List Int := [W.turn, W.next, W.wide, W.high] ++ ((W.gs.length : Int) :: W.gs) ++ ((W.os.length : Int) :: W.os) ++ ((W.gold.length : Int) :: W.gold) ++ ((W.us.length : Int) :: W.us.flatMap unums) ++ ((W.qs.length : Int) :: W.qs.flatMap jnums)
def enc (W : WV) : List UInt8 := wr (nums W)
structure Wok (W : WV) : Prop where
  in_ : ∀ n ∈ nums W, In64 n
  g : W.gs.length ≤ 200
  o : W.os.length ≤ 200
  p : W.gold.length ≤ 200
  u : W.us.length ≤ 200
  q : W.qs.length ≤ 200

theorem reads_unit (b : List UInt8) : Reads b (punit b) unums (fun u => ∀ n ∈ unums u, In64 n) := by
  have h := reads_num b
  have := Reads.bind UnV.id h (fun v0 => Reads.bind UnV.player h (fun v1 => Reads.bind UnV.kind h (fun v2 => Reads.bind UnV.at_ h (fun v3 => Reads.bind UnV.life h (fun v4 => Reads.bind UnV.load h (fun v5 => Reads.bind UnV.task h (fun v6 => Reads.bind UnV.goal h (fun v7 => reads_ret b (⟨v0, v1, v2, v3, v4, v5, v6, v7⟩ : UnV)) (by intro v u hu; subst hu; rfl)) (by intro v u hu; rw [hu.2])) (by intro v u hu; rw [hu.2.2])) (by intro v u hu; rw [hu.2.2.2])) (by intro v u hu; rw [hu.2.2.2.2])) (by intro v u hu; rw [hu.2.2.2.2.2])) (by intro v u hu; rw [hu.2.2.2.2.2.2])) (by intro v u hu; rw [hu.2.2.2.2.2.2.2])
  refine this.as (fun v => rfl) fun v => ?_
  simp [unums]
theorem reads_job (b : List UInt8) : Reads b (pjob b) jnums (fun u => ∀ n ∈ jnums u, In64 n) := by
  have h := reads_num b
  have := Reads.bind JbV.player h (fun v0 => Reads.bind JbV.unit h (fun v1 => Reads.bind JbV.kind h (fun v2 => Reads.bind JbV.left h (fun v3 => reads_ret b (⟨v0, v1, v2, v3⟩ : JbV)) (by intro v u hu; subst hu; rfl)) (by intro v u hu; rw [hu.2])) (by intro v u hu; rw [hu.2.2])) (by intro v u hu; rw [hu.2.2.2])
  refine this.as (fun v => rfl) fun v => ?_
  simp [jnums]
theorem fm_one : ∀ l : List Int, l.flatMap (fun n => [n]) = l
  | [] => rfl
  | x :: l => by rw [List.flatMap_cons, fm_one l]; rfl
theorem reads_ints (b : List UInt8) : Reads b (plist b (pnum b)) (fun l => (l.length : Int) :: l) (fun l => l.length ≤ 200 ∧ ∀ v ∈ l, In64 v) := (reads_num b).list.as (fun v => by rw [fm_one]) (fun v => Iff.rfl)
theorem reads_world (b : List UInt8) : Reads b (pworld b) nums Wok := by
  have h := reads_num b
  have hi := reads_ints b
  have := Reads.bind WV.turn h (fun v0 => Reads.bind WV.next h (fun v1 => Reads.bind WV.wide h (fun v2 => Reads.bind WV.high h (fun v3 => Reads.bind WV.gs hi (fun v4 => Reads.bind WV.os hi (fun v5 => Reads.bind WV.gold hi (fun v6 => Reads.bind WV.us (reads_unit b).list (fun v7 => Reads.bind WV.qs (reads_job b).list (fun v8 => reads_ret b (⟨v0, v1, v2, v3, v4, v5, v6, v7, v8⟩ : WV)) (by intro v u hu; subst hu; rfl)) (by intro v u hu; rw [hu.2])) (by intro v u hu; rw [hu.2.2])) (by intro v u hu; rw [hu.2.2.2])) (by intro v u hu; rw [hu.2.2.2.2])) (by intro v u hu; rw [hu.2.2.2.2.2])) (by intro v u hu; rw [hu.2.2.2.2.2.2])) (by intro v u hu; rw [hu.2.2.2.2.2.2.2])) (by intro v u hu; rw [hu.2.2.2.2.2.2.2.2])
  refine this.as (fun v => by simp [nums]) fun v => ?_
  constructor
  · intro k
    have i := k.in_
    have mem : ∀ {n : Int}, n ∈ nums v ↔ n = v.turn ∨ n = v.next ∨ n = v.wide ∨ n = v.high ∨ n = v.gs.length ∨ n ∈ v.gs ∨ n = v.os.length ∨ n ∈ v.os ∨ n = v.gold.length ∨ n ∈ v.gold ∨ n = v.us.length ∨ n ∈ v.us.flatMap unums ∨ n = v.qs.length ∨ n ∈ v.qs.flatMap jnums := by
      intro n; simp [nums]
    refine ⟨i _ (mem.2 (by simp)), i _ (mem.2 (by simp)), i _ (mem.2 (by simp)), i _ (mem.2 (by simp)), ⟨k.g, fun n hn => i _ (mem.2 (by simp [hn]))⟩, ⟨k.o, fun n hn => i _ (mem.2 (by simp [hn]))⟩, ⟨k.p, fun n hn => i _ (mem.2 (by simp [hn]))⟩, ⟨k.u, fun u hu n hn => i _ (mem.2 ?_)⟩, ⟨k.q, fun u hu n hn => i _ (mem.2 ?_)⟩, rfl⟩
    · have : n ∈ v.us.flatMap unums := List.mem_flatMap.2 ⟨u, hu, hn⟩
      simp only [this, true_or, or_true]
    · have : n ∈ v.qs.flatMap jnums := List.mem_flatMap.2 ⟨u, hu, hn⟩
      simp only [this, or_true]
  · rintro ⟨h0, h1, h2, h3, ⟨h4, h5⟩, ⟨h6, h7⟩, ⟨h8, h9⟩, ⟨h10, h11⟩, ⟨h12, h13⟩, -⟩
    refine ⟨?_, h4, h6, h8, h10, h12⟩
    intro n hn
    simp only [nums, List.mem_append, List.mem_cons, List.not_mem_nil, or_false, List.mem_flatMap] at hn
    rcases hn with (((((rfl | rfl | rfl | rfl) | (rfl | hn)) | (rfl | hn)) | (rfl | hn)) | (rfl | ⟨u, hu, hn⟩)) | (rfl | ⟨u, hu, hn⟩)
    · exact h0
    · exact h1
    · exact h2
    · exact h3
    · exact in_200 h4
    · exact h5 _ hn
    · exact in_200 h6
    · exact h7 _ hn
    · exact in_200 h8
    · exact h9 _ hn
    · exact in_200 h10
    · exact h11 u hu n hn
    · exact in_200 h12
    · exact h13 u hu n hn

theorem dec_enc {W : WV} (h : Wok W) (t : List UInt8) : pworld (enc W ++ t) 0 = some (W, (enc W).length) := by
  have := (reads_world (enc W ++ t)).fwd (a := 0) (v := W) (t := t) h rfl
  rw [Nat.zero_add] at this
  exact this
theorem dec_back {b : List UInt8} {W : WV} {n : Nat} (h : pworld b 0 = some (W, n)) : Wok W ∧ b = enc W ++ b.drop n ∧ n = (enc W).length := by
  obtain ⟨h1, h2, h3⟩ := (reads_world b).back h
  exact ⟨h1, h2, by rw [h3, Nat.zero_add]; rfl⟩
theorem num_pos (n : Int) : 0 < (num n).length := by
  unfold num
  by_cases h : zz n < 128
  · rw [vl_small h]; simp
  · rw [vl_great (by omega)]; simp
theorem dec_cut {W : WV} (h : Wok W) {m : Nat} (hm : m < (enc W).length) : pworld ((enc W).take m) 0 = none := by
  cases hp : pworld ((enc W).take m) 0 with
  | none => rfl
  | some x =>
    obtain ⟨W', n⟩ := x
    obtain ⟨k1, k2, k3⟩ := dec_back hp
    have e : enc W = enc W' ++ (((enc W).take m).drop n ++ (enc W).drop m) := by
      rw [← List.append_assoc, ← k2, List.take_append_drop]
    have d1 := dec_enc k1 (((enc W).take m).drop n ++ (enc W).drop m)
    rw [← e] at d1
    have d2 := dec_enc h []
    rw [List.append_nil, d1] at d2
    have d3 : (enc W').length = (enc W).length := by injection d2 with d2; injection d2
    have d4 := congrArg List.length k2
    rw [List.length_append, List.length_take] at d4
    omega
end Wd
end Go.Proofs.YtaicnhkobhdehaaDoor

namespace Go.Proofs.YtaicnhkobhdehaaDoor
open Go.RowKit
set_option linter.unusedVariables false

/-- v is a world. -/
def Wl (w : World) (v : Value) (W : WV) : Prop := ∃ u1 u2 u3 u4 u5, v = .agg #[.int .i64 W.turn, .int .i64 W.next, .int .i64 W.wide, .int .i64 W.high, u1, u2, u3, u4, u5] ∧ Ro w u1 W.gs ∧ Ro w u2 W.os ∧ Ro w u3 W.gold ∧ Unl w u4 W.us ∧ Jbl w u5 W.qs
theorem Wl.below {w w' : World} {v : Value} {W : WV} (h : Wl w v W) (hb : Below w.heap.size w w') : Wl w' v W := by
  obtain ⟨u1, u2, u3, u4, u5, h1, h2, h3, h4, h5, h6⟩ := h
  exact ⟨u1, u2, u3, u4, u5, h1, h2.below hb, h3.below hb, h4.below hb, h5.below hb, h6.below hb⟩
/-- a world in a box. -/
structure Bw (w : World) (z : Nat) (W : WV) (u1 u2 u3 u4 u5 : Value) : Prop where
  c0 : w.cell? ⟨z, 0, none⟩ = some (.int .i64 W.turn)
  c1 : w.cell? ⟨z, 1, none⟩ = some (.int .i64 W.next)
  c2 : w.cell? ⟨z, 2, none⟩ = some (.int .i64 W.wide)
  c3 : w.cell? ⟨z, 3, none⟩ = some (.int .i64 W.high)
  c4 : w.cell? ⟨z, 4, none⟩ = some u1
  c5 : w.cell? ⟨z, 5, none⟩ = some u2
  c6 : w.cell? ⟨z, 6, none⟩ = some u3
  c7 : w.cell? ⟨z, 7, none⟩ = some u4
  c8 : w.cell? ⟨z, 8, none⟩ = some u5
theorem Bw.lt {w : World} {z : Nat} {W : WV} {u1 u2 u3 u4 u5 : Value} (h : Bw w z W u1 u2 u3 u4 u5) : z < w.heap.size := cell_lt h.c0
theorem Bw.below {w w' : World} {z n : Nat} {W : WV} {u1 u2 u3 u4 u5 : Value} (h : Bw w z W u1 u2 u3 u4 u5) (hb : Below n w w') (hn : z < n) : Bw w' z W u1 u2 u3 u4 u5 :=
  ⟨by rw [hb.cell (p := ⟨z, 0, none⟩) hn]; exact h.c0, by rw [hb.cell (p := ⟨z, 1, none⟩) hn]; exact h.c1, by rw [hb.cell (p := ⟨z, 2, none⟩) hn]; exact h.c2, by rw [hb.cell (p := ⟨z, 3, none⟩) hn]; exact h.c3, by rw [hb.cell (p := ⟨z, 4, none⟩) hn]; exact h.c4, by rw [hb.cell (p := ⟨z, 5, none⟩) hn]; exact h.c5, by rw [hb.cell (p := ⟨z, 6, none⟩) hn]; exact h.c6, by rw [hb.cell (p := ⟨z, 7, none⟩) hn]; exact h.c7, by rw [hb.cell (p := ⟨z, 8, none⟩) hn]; exact h.c8⟩
theorem Bw.mk' {w : World} {z : Nat} (W : WV) (u1 u2 u3 u4 u5 : Value) (hz : w.heap.size = z) : Bw (w.alloc (.cells #[.int .i64 W.turn, .int .i64 W.next, .int .i64 W.wide, .int .i64 W.high, u1, u2, u3, u4, u5] 29)) z W u1 u2 u3 u4 u5 := by
  subst hz
  constructor <;> simp
/-- the world with which nothing begins. -/
def WV.zero : WV := ⟨0, 0, 0, 0, [], [], [], [], []⟩
end Go.Proofs.YtaicnhkobhdehaaDoor

namespace Go.Proofs.YtaicnhkobhdehaaDoor
open Go.RowKit
set_option linter.unusedVariables false

theorem info_int : (Tryd.prog.info? 3).map (fun i => (i.zero, i.size, i.bytes)) = some (some (.int .i64 0), 1, 8) := by kernel_rfl

/-- v is a slice of the integers xs, in a block of its own from base on. -/
def Ow (w : World) (base : Nat) (v : Value) (xs : List Int) : Prop := w.ownsRow base 3 1 v xs.length (xs.map (Value.int .i64))
theorem Ow.nil (w : World) (base : Nat) : Ow w base (.slice none 0 0) [] := World.ownsRow_nil _ _ _ _
theorem Ow.ro {w : World} {base : Nat} {v : Value} {xs : List Int} (h : Ow w base v xs) : Ro w v xs := by
  rcases h.2 with ⟨hv, h0⟩ | ⟨g, cap, cur, hv, hb, hg, h1, h2, h3, h4⟩
  · obtain rfl := List.length_eq_zero_iff.1 h0
    exact ⟨none, 0, hv, Nat.le_refl _, by omega, fun h => absurd rfl h⟩
  · refine ⟨_, cap, hv, h1, by unfold maxLen at h2; omega, fun _ => ⟨_, rfl, lt_of_block hg, fun i d hd => ?_⟩⟩
    have hi : i < xs.length := (List.getElem?_eq_some_iff.1 hd).1
    rw [Addr.add_lit, Nat.zero_add]
    have h5 : w.ownsRow base 3 1 (.slice (some ⟨g, 0, none⟩) xs.length cap) xs.length (xs.map (Value.int .i64)) := by rw [← hv]; exact h
    rw [h5.cellAt i (by omega), List.getElem?_map, hd]
    rfl
theorem Ow.kept {w w' : World} {base : Nat} {v : Value} {xs : List Int} {row : Option Nat} (h : Ow w base v xs) (hg : w.grownBy w' row) (hne : v.ownBlock = none ∨ v.ownBlock ≠ row) : Ow w' base v xs := World.ownsRow.kept h hg hne
theorem Ow.alloc {w : World} {base : Nat} {v : Value} {xs : List Int} (h : Ow w base v xs) (o : Obj) : Ow (w.alloc o) base v xs := World.ownsRow.alloc h o
theorem Ow.drewN {w : World} {base : Nat} {v : Value} {xs : List Int} (h : Ow w base v xs) (n : Nat) : Ow (w.drewN n) base v xs := h
theorem Ow.block {w : World} {base : Nat} {v : Value} {xs : List Int} (h : Ow w base v xs) : ∀ k, v.ownBlock = some k → base ≤ k ∧ k < w.heap.size := World.ownsRow.lt h
theorem Ow.below {w w' : World} {base : Nat} {v : Value} {xs : List Int} (h : Ow w base v xs) (hb : Below w.heap.size w w') : Ow w' base v xs :=
  h.kept (row := none) ⟨hb.os, hb.tape, hb.output, hb.size, fun k hk _ => hb.block k hk⟩ (by cases v.ownBlock <;> simp)
theorem Ow.mono {w : World} {base base' : Nat} {v : Value} {xs : List Int} (h : Ow w base v xs) (hb : base' ≤ base) : Ow w base' v xs := by
  refine ⟨h.1, ?_⟩
  rcases h.2 with h1 | ⟨g, cap, cur, h1, h2, h3⟩
  · exact .inl h1
  · exact .inr ⟨g, cap, cur, h1, Nat.le_trans hb h2, h3⟩
theorem Ow.len {w : World} {base : Nat} {v : Value} {xs : List Int} (h : Ow w base v xs) : ∃ a c, v = .slice a xs.length c := by
  obtain ⟨a, c, h1, -⟩ := h.ro
  exact ⟨a, c, h1⟩

/-- one more. -/
theorem app_int {ops : Array Oper} {rest : List Oper} {o : Oper} {a : Act} {Q : Exit → Act → World → Prop} (w : World) (hgd : o.guard = none) (s x : Operand)
    (ho : o.op = .call { callee := .builtin .append, args := #[s, x], argTypes := #[23, 23] }) (base : Nat) (v : Value) (xs : List Int) (hs : a.eval s = v) (hown : Ow w base v xs)
    (ad : Addr) (d : Int) (hx : a.eval x = .slice (some ad) 1 1) (hd : w.cell? ad = some (.int .i64 d)) (hl : xs.length ≤ 1000000000) (hbase : base ≤ w.heap.size)
    (h : ∀ g cap w', Ow w' base (.slice (some ⟨g, 0, none⟩) (xs.length + 1) cap) (xs ++ [d]) → w.grownBy w' v.ownBlock → (v.ownBlock = some g ∨ g = w.heap.size) → g < w'.heap.size → wpList Tryd.prog ops Q rest (a.put o.dst (.slice (some ⟨g, 0, none⟩) (xs.length + 1) cap)) w') :
    wpList Tryd.prog ops Q (o :: rest) a w := by
  obtain ⟨i0, hi, hz0, hz1, hz2⟩ := info_parts info_int
  refine wpList_append_lies w hgd s x 23 ho base 3 i0 (.int .i64 0) 1 8 Tryd.underlying23 hi hz0 hz1 hz2 rfl (by decide) v xs.length _ hs hown ad 1 1 [.int .i64 d] hx rfl ?_ ?_ (by decide) (by unfold maxLen; omega) (by omega) hbase _ rfl ?_
  · intro j u hj
    match j, hj with
    | 0, hj => simp at hj; subst hj; exact hd
  · intro u hu
    simp at hu
    subst hu
    rfl
  · intro g cap w' h1 h2 h3 h4
    refine h g cap w' ?_ h2 h3 h4
    unfold Ow
    rw [List.length_append, List.map_append]
    exact h1

/-- a list of one. -/
theorem Ow.one {w : World} {base z : Nat} (d : Int) (hb : base ≤ w.heap.size) (hz : w.heap.size = z) : Ow (w.alloc (.cells #[.int .i64 d] 3)) base (.slice (some ⟨z, 0, none⟩) 1 1) [d] := by
  subst hz
  exact ⟨rfl, .inr ⟨_, _, _, rfl, hb, heap_alloc_new w _, Nat.le_refl _, by unfold maxLen; decide, rfl, rfl⟩⟩
end Go.Proofs.YtaicnhkobhdehaaDoor

namespace Go.Proofs.YtaicnhkobhdehaaDoor
open Go.RowKit
set_option linter.unusedVariables false

theorem info_un : (Tryd.prog.info? 45).map (fun i => (i.zero, i.size, i.bytes)) = some (some (.agg #[.int .i64 0, .int .i64 0, .int .i64 0, .int .i64 0, .int .i64 0, .int .i64 0, .int .i64 0, .int .i64 0]), 8, 64) := by kernel_rfl
def UnV.cs (k : UnV) : List Value := [.int .i64 k.id, .int .i64 k.player, .int .i64 k.kind, .int .i64 k.at_, .int .i64 k.life, .int .i64 k.load, .int .i64 k.task, .int .i64 k.goal]
theorem flat_un : ∀ (ks : List UnV) (i j : Nat) (k : UnV), ks[i]? = some k → j < 8 → (ks.flatMap UnV.cs)[i * 8 + j]? = k.cs[j]?
  | [], i, j, k, h, _ => by simp at h
  | x :: ks, 0, j, k, h, hj => by
    simp at h
    subst h
    rw [List.flatMap_cons, List.getElem?_append_left (by simp [UnV.cs]; omega)]
    simp
  | x :: ks, i + 1, j, k, h, hj => by
    rw [List.flatMap_cons, List.getElem?_append_right (by simp [UnV.cs]; omega)]
    have : (i + 1) * 8 + j - (UnV.cs x).length = i * 8 + j := by simp [UnV.cs]; omega
    rw [this]
    exact flat_un ks i j k (by simpa using h) hj
/-- v is a slice of them, in a block of its own from base on. -/
def Uno (w : World) (base : Nat) (v : Value) (ks : List UnV) : Prop := w.ownsRow base 45 8 v ks.length (ks.flatMap UnV.cs)
theorem Uno.nil (w : World) (base : Nat) : Uno w base (.slice none 0 0) [] := World.ownsRow_nil _ _ _ _
theorem Uno.below {w w' : World} {base : Nat} {v : Value} {ks : List UnV} (h : Uno w base v ks) (hb : Below w.heap.size w w') : Uno w' base v ks :=
  World.ownsRow.kept h (row := none) ⟨hb.os, hb.tape, hb.output, hb.size, fun k hk _ => hb.block k hk⟩ (by cases v.ownBlock <;> simp)
theorem Uno.kept {w w' : World} {base : Nat} {v : Value} {ks : List UnV} {row : Option Nat} (h : Uno w base v ks) (hg : w.grownBy w' row) (hne : v.ownBlock = none ∨ v.ownBlock ≠ row) : Uno w' base v ks := World.ownsRow.kept h hg hne
theorem Uno.alloc {w : World} {base : Nat} {v : Value} {ks : List UnV} (h : Uno w base v ks) (o : Obj) : Uno (w.alloc o) base v ks := World.ownsRow.alloc h o
theorem Uno.block {w : World} {base : Nat} {v : Value} {ks : List UnV} (h : Uno w base v ks) : ∀ k, v.ownBlock = some k → base ≤ k ∧ k < w.heap.size := World.ownsRow.lt h
theorem Uno.mono {w : World} {base base' : Nat} {v : Value} {ks : List UnV} (h : Uno w base v ks) (hb : base' ≤ base) : Uno w base' v ks := by
  refine ⟨h.1, ?_⟩
  rcases h.2 with h1 | ⟨g, cap, cur, h1, h2, h3⟩
  · exact .inl h1
  · exact .inr ⟨g, cap, cur, h1, Nat.le_trans hb h2, h3⟩
theorem Uno.l {w : World} {base : Nat} {v : Value} {ks : List UnV} (h : Uno w base v ks) : Unl w v ks := by
  rcases h.2 with ⟨hv, h0⟩ | ⟨g, cap, cur, hv, hb, hg, h1, h2, h3, h4⟩
  · exact ⟨none, 0, by rw [hv, h0], by omega, by omega, fun hn => absurd (List.length_eq_zero_iff.1 h0) hn⟩
  · refine ⟨_, cap, hv, h1, by unfold maxLen at h2; omega, fun _ => ⟨_, rfl, lt_of_block hg, fun i k hi => ?_⟩⟩
    have hil : i < ks.length := (List.getElem?_eq_some_iff.1 hi).1
    have h5 : w.ownsRow base 45 8 (.slice (some ⟨g, 0, none⟩) ks.length cap) ks.length (ks.flatMap UnV.cs) := by rw [← hv]; exact h
    have hc : ∀ j u, j < 8 → k.cs[j]? = some u → w.cell? ⟨g, i * 8 + j, none⟩ = some u := fun j u hj hu => by
      rw [h5.cellAt (i * 8 + j) (by omega), flat_un ks i j k hi hj, hu]
    rw [Addr.add_lit, Nat.zero_add]
    exact ⟨hc 0 _ (by decide) rfl, hc 1 _ (by decide) rfl, hc 2 _ (by decide) rfl, hc 3 _ (by decide) rfl, hc 4 _ (by decide) rfl, hc 5 _ (by decide) rfl, hc 6 _ (by decide) rfl, hc 7 _ (by decide) rfl⟩
theorem Uno.len {w : World} {base : Nat} {v : Value} {ks : List UnV} (h : Uno w base v ks) : ∃ a c, v = .slice a ks.length c := by
  obtain ⟨a, c, h1, -⟩ := h.l
  exact ⟨a, c, h1⟩

/-- one more. -/
theorem app_un {ops : Array Oper} {rest : List Oper} {o : Oper} {a : Act} {Q : Exit → Act → World → Prop} (w : World) (hgd : o.guard = none) (s x : Operand)
    (ho : o.op = .call { callee := .builtin .append, args := #[s, x], argTypes := #[26, 26] }) (base : Nat) (v : Value) (ks : List UnV) (hs : a.eval s = v) (hown : Uno w base v ks)
    (b : Nat) (d : UnV) (hx : a.eval x = .slice (some ⟨b, 0, none⟩) 1 1) (hd : Unc w ⟨b, 0, none⟩ d) (hl : ks.length ≤ 1000000000) (hbase : base ≤ w.heap.size)
    (h : ∀ g cap w', Uno w' base (.slice (some ⟨g, 0, none⟩) (ks.length + 1) cap) (ks ++ [d]) → w.grownBy w' v.ownBlock → (v.ownBlock = some g ∨ g = w.heap.size) → g < w'.heap.size → wpList Tryd.prog ops Q rest (a.put o.dst (.slice (some ⟨g, 0, none⟩) (ks.length + 1) cap)) w') :
    wpList Tryd.prog ops Q (o :: rest) a w := by
  obtain ⟨i0, hi, hz0, hz1, hz2⟩ := info_parts info_un
  refine wpList_append_lies w hgd s x 26 ho base 45 i0 (.agg #[.int .i64 0, .int .i64 0, .int .i64 0, .int .i64 0, .int .i64 0, .int .i64 0, .int .i64 0, .int .i64 0]) 8 64 Tryd.underlying26 hi hz0 hz1 hz2 rfl (by decide) v ks.length _ hs hown ⟨b, 0, none⟩ 1 1 d.cs hx rfl ?_ ?_ (by decide) (by unfold maxLen; omega) (by omega) hbase _ rfl ?_
  · intro j u hj
    have hjn : j < 8 := (List.getElem?_eq_some_iff.1 hj).1
    rw [Addr.add_lit, Nat.zero_add]
    match j, hjn, hj with
    | 0, _, hj => simp [UnV.cs] at hj; subst hj; exact hd.c0
    | 1, _, hj => simp [UnV.cs] at hj; subst hj; exact hd.c1
    | 2, _, hj => simp [UnV.cs] at hj; subst hj; exact hd.c2
    | 3, _, hj => simp [UnV.cs] at hj; subst hj; exact hd.c3
    | 4, _, hj => simp [UnV.cs] at hj; subst hj; exact hd.c4
    | 5, _, hj => simp [UnV.cs] at hj; subst hj; exact hd.c5
    | 6, _, hj => simp [UnV.cs] at hj; subst hj; exact hd.c6
    | 7, _, hj => simp [UnV.cs] at hj; subst hj; exact hd.c7
  · intro u hu
    simp [UnV.cs] at hu
    rcases hu with rfl | rfl | rfl | rfl | rfl | rfl | rfl | rfl <;> rfl
  · intro g cap w' h1 h2 h3 h4
    refine h g cap w' ?_ h2 h3 h4
    unfold Uno
    rw [List.length_append, List.flatMap_append]
    simpa using h1
end Go.Proofs.YtaicnhkobhdehaaDoor

namespace Go.Proofs.YtaicnhkobhdehaaDoor
open Go.RowKit
set_option linter.unusedVariables false

theorem info_jb : (Tryd.prog.info? 57).map (fun i => (i.zero, i.size, i.bytes)) = some (some (.agg #[.int .i64 0, .int .i64 0, .int .i64 0, .int .i64 0]), 4, 32) := by kernel_rfl
def JbV.cs (k : JbV) : List Value := [.int .i64 k.player, .int .i64 k.unit, .int .i64 k.kind, .int .i64 k.left]
theorem flat_jb : ∀ (ks : List JbV) (i j : Nat) (k : JbV), ks[i]? = some k → j < 4 → (ks.flatMap JbV.cs)[i * 4 + j]? = k.cs[j]?
  | [], i, j, k, h, _ => by simp at h
  | x :: ks, 0, j, k, h, hj => by
    simp at h
    subst h
    rw [List.flatMap_cons, List.getElem?_append_left (by simp [JbV.cs]; omega)]
    simp
  | x :: ks, i + 1, j, k, h, hj => by
    rw [List.flatMap_cons, List.getElem?_append_right (by simp [JbV.cs]; omega)]
    have : (i + 1) * 4 + j - (JbV.cs x).length = i * 4 + j := by simp [JbV.cs]; omega
    rw [this]
    exact flat_jb ks i j k (by simpa using h) hj
/-- v is a slice of them, in a block of its own from base on. -/
def Jbo (w : World) (base : Nat) (v : Value) (ks : List JbV) : Prop := w.ownsRow base 57 4 v ks.length (ks.flatMap JbV.cs)
theorem Jbo.nil (w : World) (base : Nat) : Jbo w base (.slice none 0 0) [] := World.ownsRow_nil _ _ _ _
theorem Jbo.below {w w' : World} {base : Nat} {v : Value} {ks : List JbV} (h : Jbo w base v ks) (hb : Below w.heap.size w w') : Jbo w' base v ks :=
  World.ownsRow.kept h (row := none) ⟨hb.os, hb.tape, hb.output, hb.size, fun k hk _ => hb.block k hk⟩ (by cases v.ownBlock <;> simp)
theorem Jbo.kept {w w' : World} {base : Nat} {v : Value} {ks : List JbV} {row : Option Nat} (h : Jbo w base v ks) (hg : w.grownBy w' row) (hne : v.ownBlock = none ∨ v.ownBlock ≠ row) : Jbo w' base v ks := World.ownsRow.kept h hg hne
theorem Jbo.alloc {w : World} {base : Nat} {v : Value} {ks : List JbV} (h : Jbo w base v ks) (o : Obj) : Jbo (w.alloc o) base v ks := World.ownsRow.alloc h o
theorem Jbo.block {w : World} {base : Nat} {v : Value} {ks : List JbV} (h : Jbo w base v ks) : ∀ k, v.ownBlock = some k → base ≤ k ∧ k < w.heap.size := World.ownsRow.lt h
theorem Jbo.mono {w : World} {base base' : Nat} {v : Value} {ks : List JbV} (h : Jbo w base v ks) (hb : base' ≤ base) : Jbo w base' v ks := by
  refine ⟨h.1, ?_⟩
  rcases h.2 with h1 | ⟨g, cap, cur, h1, h2, h3⟩
  · exact .inl h1
  · exact .inr ⟨g, cap, cur, h1, Nat.le_trans hb h2, h3⟩
theorem Jbo.l {w : World} {base : Nat} {v : Value} {ks : List JbV} (h : Jbo w base v ks) : Jbl w v ks := by
  rcases h.2 with ⟨hv, h0⟩ | ⟨g, cap, cur, hv, hb, hg, h1, h2, h3, h4⟩
  · exact ⟨none, 0, by rw [hv, h0], by omega, by omega, fun hn => absurd (List.length_eq_zero_iff.1 h0) hn⟩
  · refine ⟨_, cap, hv, h1, by unfold maxLen at h2; omega, fun _ => ⟨_, rfl, lt_of_block hg, fun i k hi => ?_⟩⟩
    have hil : i < ks.length := (List.getElem?_eq_some_iff.1 hi).1
    have h5 : w.ownsRow base 57 4 (.slice (some ⟨g, 0, none⟩) ks.length cap) ks.length (ks.flatMap JbV.cs) := by rw [← hv]; exact h
    have hc : ∀ j u, j < 4 → k.cs[j]? = some u → w.cell? ⟨g, i * 4 + j, none⟩ = some u := fun j u hj hu => by
      rw [h5.cellAt (i * 4 + j) (by omega), flat_jb ks i j k hi hj, hu]
    rw [Addr.add_lit, Nat.zero_add]
    exact ⟨hc 0 _ (by decide) rfl, hc 1 _ (by decide) rfl, hc 2 _ (by decide) rfl, hc 3 _ (by decide) rfl⟩
theorem Jbo.len {w : World} {base : Nat} {v : Value} {ks : List JbV} (h : Jbo w base v ks) : ∃ a c, v = .slice a ks.length c := by
  obtain ⟨a, c, h1, -⟩ := h.l
  exact ⟨a, c, h1⟩

/-- one more. -/
theorem app_jb {ops : Array Oper} {rest : List Oper} {o : Oper} {a : Act} {Q : Exit → Act → World → Prop} (w : World) (hgd : o.guard = none) (s x : Operand)
    (ho : o.op = .call { callee := .builtin .append, args := #[s, x], argTypes := #[27, 27] }) (base : Nat) (v : Value) (ks : List JbV) (hs : a.eval s = v) (hown : Jbo w base v ks)
    (b : Nat) (d : JbV) (hx : a.eval x = .slice (some ⟨b, 0, none⟩) 1 1) (hd : Jbc w ⟨b, 0, none⟩ d) (hl : ks.length ≤ 1000000000) (hbase : base ≤ w.heap.size)
    (h : ∀ g cap w', Jbo w' base (.slice (some ⟨g, 0, none⟩) (ks.length + 1) cap) (ks ++ [d]) → w.grownBy w' v.ownBlock → (v.ownBlock = some g ∨ g = w.heap.size) → g < w'.heap.size → wpList Tryd.prog ops Q rest (a.put o.dst (.slice (some ⟨g, 0, none⟩) (ks.length + 1) cap)) w') :
    wpList Tryd.prog ops Q (o :: rest) a w := by
  obtain ⟨i0, hi, hz0, hz1, hz2⟩ := info_parts info_jb
  refine wpList_append_lies w hgd s x 27 ho base 57 i0 (.agg #[.int .i64 0, .int .i64 0, .int .i64 0, .int .i64 0]) 4 32 Tryd.underlying27 hi hz0 hz1 hz2 rfl (by decide) v ks.length _ hs hown ⟨b, 0, none⟩ 1 1 d.cs hx rfl ?_ ?_ (by decide) (by unfold maxLen; omega) (by omega) hbase _ rfl ?_
  · intro j u hj
    have hjn : j < 4 := (List.getElem?_eq_some_iff.1 hj).1
    rw [Addr.add_lit, Nat.zero_add]
    match j, hjn, hj with
    | 0, _, hj => simp [JbV.cs] at hj; subst hj; exact hd.c0
    | 1, _, hj => simp [JbV.cs] at hj; subst hj; exact hd.c1
    | 2, _, hj => simp [JbV.cs] at hj; subst hj; exact hd.c2
    | 3, _, hj => simp [JbV.cs] at hj; subst hj; exact hd.c3
  · intro u hu
    simp [JbV.cs] at hu
    rcases hu with rfl | rfl | rfl | rfl <;> rfl
  · intro g cap w' h1 h2 h3 h4
    refine h g cap w' ?_ h2 h3 h4
    unfold Jbo
    rw [List.length_append, List.flatMap_append]
    simpa using h1
end Go.Proofs.YtaicnhkobhdehaaDoor

namespace Go.Proofs.YtaicnhkobhdehaaDoor
open Go.RowKit
set_option linter.unusedVariables false

/-- v is a world whose lists are owned from base on. -/
def Wo (w : World) (base : Nat) (v : Value) (W : WV) : Prop := ∃ u1 u2 u3 u4 u5, v = .agg #[.int .i64 W.turn, .int .i64 W.next, .int .i64 W.wide, .int .i64 W.high, u1, u2, u3, u4, u5] ∧ Ow w base u1 W.gs ∧ Ow w base u2 W.os ∧ Ow w base u3 W.gold ∧ Uno w base u4 W.us ∧ Jbo w base u5 W.qs
theorem Wo.l {w : World} {base : Nat} {v : Value} {W : WV} (h : Wo w base v W) : Wl w v W := by
  obtain ⟨u1, u2, u3, u4, u5, h1, h2, h3, h4, h5, h6⟩ := h
  exact ⟨u1, u2, u3, u4, u5, h1, h2.ro, h3.ro, h4.ro, h5.l, h6.l⟩
theorem Wo.below {w w' : World} {base : Nat} {v : Value} {W : WV} (h : Wo w base v W) (hb : Below w.heap.size w w') : Wo w' base v W := by
  obtain ⟨u1, u2, u3, u4, u5, h1, h2, h3, h4, h5, h6⟩ := h
  exact ⟨u1, u2, u3, u4, u5, h1, h2.below hb, h3.below hb, h4.below hb, h5.below hb, h6.below hb⟩
theorem Wo.mono {w : World} {base base' : Nat} {v : Value} {W : WV} (h : Wo w base v W) (hb : base' ≤ base) : Wo w base' v W := by
  obtain ⟨u1, u2, u3, u4, u5, h1, h2, h3, h4, h5, h6⟩ := h
  exact ⟨u1, u2, u3, u4, u5, h1, h2.mono hb, h3.mono hb, h4.mono hb, h5.mono hb, h6.mono hb⟩
theorem owns_kp {z : Nat} {w w' : World} {base : Nat} {T : TypeId} {size : Nat} {u : Value} {n : Nat} {cs : List Value} (h : w.ownsRow base T size u n cs) (k : Kp z w w') (hz : z < base) : w'.ownsRow base T size u n cs := by
  refine ⟨h.1, ?_⟩
  rcases h.2 with h1 | ⟨g, cap, cur, h1, h2, h3, h4⟩
  · exact .inl h1
  · exact .inr ⟨g, cap, cur, h1, h2, (k.block g (lt_of_block h3) (by omega)).trans h3, h4⟩
theorem Ow.kp {z : Nat} {w w' : World} {base : Nat} {u : Value} {xs : List Int} (h : Ow w base u xs) (k : Kp z w w') (hz : z < base) : Ow w' base u xs := owns_kp h k hz
theorem Uno.kp {z : Nat} {w w' : World} {base : Nat} {u : Value} {xs : List UnV} (h : Uno w base u xs) (k : Kp z w w') (hz : z < base) : Uno w' base u xs := owns_kp h k hz
theorem Jbo.kp {z : Nat} {w w' : World} {base : Nat} {u : Value} {xs : List JbV} (h : Jbo w base u xs) (k : Kp z w w') (hz : z < base) : Jbo w' base u xs := owns_kp h k hz
theorem Wo.kp {z : Nat} {w w' : World} {base : Nat} {v : Value} {W : WV} (h : Wo w base v W) (k : Kp z w w') (hz : z < base) : Wo w' base v W := by
  obtain ⟨u1, u2, u3, u4, u5, h1, h2, h3, h4, h5, h6⟩ := h
  exact ⟨u1, u2, u3, u4, u5, h1, h2.kp k hz, h3.kp k hz, h4.kp k hz, h5.kp k hz, h6.kp k hz⟩
/-- they lie in blocks of their own. -/
def Dif (u v : Value) : Prop := ∀ k, u.ownBlock = some k → v.ownBlock ≠ some k
theorem Dif.symm {u v : Value} (h : Dif u v) : Dif v u := fun k h1 h2 => h k h2 h1
theorem Dif.ne {u v : Value} (h : Dif u v) : u.ownBlock = none ∨ u.ownBlock ≠ v.ownBlock := by
  cases e : u.ownBlock with
  | none => exact .inl rfl
  | some k => exact .inr (fun h2 => h k e h2.symm)
theorem Dif.of {u v : Value} {n : Nat} (hu : ∀ k, u.ownBlock = some k → k < n) (hv : ∀ k, v.ownBlock = some k → n ≤ k) : Dif u v := fun k h1 h2 => by have := hu k h1; have := hv k h2; omega
/-- v is a world whose lists are owned from base on, each in a block of its own. -/
def Wi (w : World) (base : Nat) (v : Value) (W : WV) : Prop := ∃ u1 u2 u3 u4 u5, v = .agg #[.int .i64 W.turn, .int .i64 W.next, .int .i64 W.wide, .int .i64 W.high, u1, u2, u3, u4, u5] ∧ (Ow w base u1 W.gs ∧ Ow w base u2 W.os ∧ Ow w base u3 W.gold ∧ Uno w base u4 W.us ∧ Jbo w base u5 W.qs) ∧ Dif u1 u2 ∧ Dif u1 u3 ∧ Dif u1 u4 ∧ Dif u1 u5 ∧ Dif u2 u3 ∧ Dif u2 u4 ∧ Dif u2 u5 ∧ Dif u3 u4 ∧ Dif u3 u5 ∧ Dif u4 u5
theorem Wi.wo {w : World} {base : Nat} {v : Value} {W : WV} (h : Wi w base v W) : Wo w base v W := by
  obtain ⟨u1, u2, u3, u4, u5, h1, ⟨h2, h3, h4, h5, h6⟩, -⟩ := h
  exact ⟨u1, u2, u3, u4, u5, h1, h2, h3, h4, h5, h6⟩
theorem Wi.mono {w : World} {base base' : Nat} {v : Value} {W : WV} (h : Wi w base v W) (hb : base' ≤ base) : Wi w base' v W := by
  obtain ⟨u1, u2, u3, u4, u5, h1, ⟨h2, h3, h4, h5, h6⟩, hd⟩ := h
  exact ⟨u1, u2, u3, u4, u5, h1, ⟨h2.mono hb, h3.mono hb, h4.mono hb, h5.mono hb, h6.mono hb⟩, hd⟩
theorem Wl.kp {z : Nat} {w a w' : World} {v : Value} {W : WV} (h : Wl a v W) (hb : Below a.heap.size a w) (k : Kp z w w') (hz : a.heap.size ≤ z) : Wl w' v W := h.below (k.below hb hb.size hz)

/-- a world's nine cells, in a block of their own. -/
def Wx (w : World) (z : Nat) (c0 c1 c2 c3 c4 c5 c6 c7 c8 : Value) : Prop := w.heap[z]? = some (.cells #[c0, c1, c2, c3, c4, c5, c6, c7, c8] 29 (0, 0))
theorem Wx.lt {w : World} {z : Nat} {c0 c1 c2 c3 c4 c5 c6 c7 c8 : Value} (h : Wx w z c0 c1 c2 c3 c4 c5 c6 c7 c8) : z < w.heap.size := lt_of_block h
theorem Wx.cells {w : World} {z : Nat} {c0 c1 c2 c3 c4 c5 c6 c7 c8 : Value} (h : Wx w z c0 c1 c2 c3 c4 c5 c6 c7 c8) : w.cell? ⟨z, 0, none⟩ = some c0 ∧ w.cell? ⟨z, 1, none⟩ = some c1 ∧ w.cell? ⟨z, 2, none⟩ = some c2 ∧ w.cell? ⟨z, 3, none⟩ = some c3 ∧ w.cell? ⟨z, 4, none⟩ = some c4 ∧ w.cell? ⟨z, 5, none⟩ = some c5 ∧ w.cell? ⟨z, 6, none⟩ = some c6 ∧ w.cell? ⟨z, 7, none⟩ = some c7 ∧ w.cell? ⟨z, 8, none⟩ = some c8 := by
  unfold Wx at h
  refine ⟨?_, ?_, ?_, ?_, ?_, ?_, ?_, ?_, ?_⟩ <;> simp [World.cell?, h]
theorem Wx.thaw {w : World} {z : Nat} {c0 c1 c2 c3 c4 c5 c6 c7 c8 : Value} (h : Wx w z c0 c1 c2 c3 c4 c5 c6 c7 c8) (i : Nat) : w.frozen? ⟨z, i, none⟩ = false := by
  unfold Wx at h
  simp [World.frozen?, h]
theorem Wx.thaws {w : World} {z : Nat} {c0 c1 c2 c3 c4 c5 c6 c7 c8 : Value} (h : Wx w z c0 c1 c2 c3 c4 c5 c6 c7 c8) : w.frozen? ⟨z, 0, none⟩ = false ∧ w.frozen? ⟨z, 1, none⟩ = false ∧ w.frozen? ⟨z, 2, none⟩ = false ∧ w.frozen? ⟨z, 3, none⟩ = false ∧ w.frozen? ⟨z, 4, none⟩ = false ∧ w.frozen? ⟨z, 5, none⟩ = false ∧ w.frozen? ⟨z, 6, none⟩ = false ∧ w.frozen? ⟨z, 7, none⟩ = false ∧ w.frozen? ⟨z, 8, none⟩ = false := ⟨h.thaw 0, h.thaw 1, h.thaw 2, h.thaw 3, h.thaw 4, h.thaw 5, h.thaw 6, h.thaw 7, h.thaw 8⟩
theorem Wx.new {w : World} {z : Nat} (c0 c1 c2 c3 c4 c5 c6 c7 c8 : Value) (hz : w.heap.size = z) : Wx (w.alloc (.cells #[c0, c1, c2, c3, c4, c5, c6, c7, c8] 29)) z c0 c1 c2 c3 c4 c5 c6 c7 c8 := by
  subst hz
  exact heap_alloc_new _ _
theorem Wx.below {w w' : World} {z n : Nat} {c0 c1 c2 c3 c4 c5 c6 c7 c8 : Value} (h : Wx w z c0 c1 c2 c3 c4 c5 c6 c7 c8) (hb : Below n w w') (hn : z < n) : Wx w' z c0 c1 c2 c3 c4 c5 c6 c7 c8 := (hb.block z hn).trans h
theorem Wx.kp {w w' : World} {z y : Nat} {c0 c1 c2 c3 c4 c5 c6 c7 c8 : Value} (h : Wx w z c0 c1 c2 c3 c4 c5 c6 c7 c8) (k : Kp y w w') (hn : z ≠ y) : Wx w' z c0 c1 c2 c3 c4 c5 c6 c7 c8 := (k.block z h.lt hn).trans h
theorem Wx.drew {w : World} {z : Nat} {c0 c1 c2 c3 c4 c5 c6 c7 c8 : Value} (h : Wx w z c0 c1 c2 c3 c4 c5 c6 c7 c8) : Wx w.drew z c0 c1 c2 c3 c4 c5 c6 c7 c8 := h
theorem Wx.set0 {w : World} {z : Nat} {c0 c1 c2 c3 c4 c5 c6 c7 c8 : Value} (h : Wx w z c0 c1 c2 c3 c4 c5 c6 c7 c8) (u : Value) : Wx (w.setCell ⟨z, 0, none⟩ u) z u c1 c2 c3 c4 c5 c6 c7 c8 := by
  exact heap_setCell_same w z 0 _ _ u h
theorem Wx.set1 {w : World} {z : Nat} {c0 c1 c2 c3 c4 c5 c6 c7 c8 : Value} (h : Wx w z c0 c1 c2 c3 c4 c5 c6 c7 c8) (u : Value) : Wx (w.setCell ⟨z, 1, none⟩ u) z c0 u c2 c3 c4 c5 c6 c7 c8 := by
  exact heap_setCell_same w z 1 _ _ u h
theorem Wx.set2 {w : World} {z : Nat} {c0 c1 c2 c3 c4 c5 c6 c7 c8 : Value} (h : Wx w z c0 c1 c2 c3 c4 c5 c6 c7 c8) (u : Value) : Wx (w.setCell ⟨z, 2, none⟩ u) z c0 c1 u c3 c4 c5 c6 c7 c8 := by
  exact heap_setCell_same w z 2 _ _ u h
theorem Wx.set3 {w : World} {z : Nat} {c0 c1 c2 c3 c4 c5 c6 c7 c8 : Value} (h : Wx w z c0 c1 c2 c3 c4 c5 c6 c7 c8) (u : Value) : Wx (w.setCell ⟨z, 3, none⟩ u) z c0 c1 c2 u c4 c5 c6 c7 c8 := by
  exact heap_setCell_same w z 3 _ _ u h
theorem Wx.set4 {w : World} {z : Nat} {c0 c1 c2 c3 c4 c5 c6 c7 c8 : Value} (h : Wx w z c0 c1 c2 c3 c4 c5 c6 c7 c8) (u : Value) : Wx (w.setCell ⟨z, 4, none⟩ u) z c0 c1 c2 c3 u c5 c6 c7 c8 := by
  exact heap_setCell_same w z 4 _ _ u h
theorem Wx.set5 {w : World} {z : Nat} {c0 c1 c2 c3 c4 c5 c6 c7 c8 : Value} (h : Wx w z c0 c1 c2 c3 c4 c5 c6 c7 c8) (u : Value) : Wx (w.setCell ⟨z, 5, none⟩ u) z c0 c1 c2 c3 c4 u c6 c7 c8 := by
  exact heap_setCell_same w z 5 _ _ u h
theorem Wx.set6 {w : World} {z : Nat} {c0 c1 c2 c3 c4 c5 c6 c7 c8 : Value} (h : Wx w z c0 c1 c2 c3 c4 c5 c6 c7 c8) (u : Value) : Wx (w.setCell ⟨z, 6, none⟩ u) z c0 c1 c2 c3 c4 c5 u c7 c8 := by
  exact heap_setCell_same w z 6 _ _ u h
theorem Wx.set7 {w : World} {z : Nat} {c0 c1 c2 c3 c4 c5 c6 c7 c8 : Value} (h : Wx w z c0 c1 c2 c3 c4 c5 c6 c7 c8) (u : Value) : Wx (w.setCell ⟨z, 7, none⟩ u) z c0 c1 c2 c3 c4 c5 c6 u c8 := by
  exact heap_setCell_same w z 7 _ _ u h
theorem Wx.set8 {w : World} {z : Nat} {c0 c1 c2 c3 c4 c5 c6 c7 c8 : Value} (h : Wx w z c0 c1 c2 c3 c4 c5 c6 c7 c8) (u : Value) : Wx (w.setCell ⟨z, 8, none⟩ u) z c0 c1 c2 c3 c4 c5 c6 c7 u := by
  exact heap_setCell_same w z 8 _ _ u h
theorem Wx.put {w : World} {z : Nat} {c0 c1 c2 c3 c4 c5 c6 c7 c8 : Value} (h : Wx w z c0 c1 c2 c3 c4 c5 c6 c7 c8) (e0 e1 e2 e3 e4 e5 e6 e7 e8 : Value) : Wx (((((((((w.setCell ⟨z, 0, none⟩ e0).setCell ⟨z, 1, none⟩ e1).setCell ⟨z, 2, none⟩ e2).setCell ⟨z, 3, none⟩ e3).setCell ⟨z, 4, none⟩ e4).setCell ⟨z, 5, none⟩ e5).setCell ⟨z, 6, none⟩ e6).setCell ⟨z, 7, none⟩ e7).setCell ⟨z, 8, none⟩ e8) z e0 e1 e2 e3 e4 e5 e6 e7 e8 := (((((((((h.set0 e0).set1 e1).set2 e2).set3 e3).set4 e4).set5 e5).set6 e6).set7 e7).set8 e8)
theorem put_kp (w : World) (z : Nat) (e0 e1 e2 e3 e4 e5 e6 e7 e8 : Value) : Kp z w (((((((((w.setCell ⟨z, 0, none⟩ e0).setCell ⟨z, 1, none⟩ e1).setCell ⟨z, 2, none⟩ e2).setCell ⟨z, 3, none⟩ e3).setCell ⟨z, 4, none⟩ e4).setCell ⟨z, 5, none⟩ e5).setCell ⟨z, 6, none⟩ e6).setCell ⟨z, 7, none⟩ e7).setCell ⟨z, 8, none⟩ e8) :=
  ((((((((Kp.set w 0 e0).trans (Kp.set _ 1 e1)).trans (Kp.set _ 2 e2)).trans (Kp.set _ 3 e3)).trans (Kp.set _ 4 e4)).trans (Kp.set _ 5 e5)).trans (Kp.set _ 6 e6)).trans (Kp.set _ 7 e7)).trans (Kp.set _ 8 e8)
/-- lists that may be copied. -/
structure WLen (W : WV) : Prop where
  g : W.gs.length ≤ 100000000
  o : W.os.length ≤ 100000000
  p : W.gold.length ≤ 100000000
  u : W.us.length ≤ 100000000
  q : W.qs.length ≤ 100000000
end Go.Proofs.YtaicnhkobhdehaaDoor

namespace Go.Proofs.YtaicnhkobhdehaaDoor
open Go.RowKit
set_option linter.unusedVariables false

theorem run_append_no {P : Program} {w : World} (base : Nat) (t ty e : TypeId) (i : TypeInfo) (size : Nat) (ht : P.underlying t = some (.slice e)) (hi : P.info? e = some i)
    (v : Value) (n : Nat) (xs : List Value) (hown : w.ownsRow base e size v n xs) (a : Option Addr) (c : Nat) :
    (Builtin.append_ #[t, t] ty #[v, .slice a 0 c]).run P w = .ok v w := by
  rcases hown.2 with ⟨rfl, rfl⟩ | ⟨g, cap, cur, rfl, _, _, hnc, _⟩
  · cases a <;> simp [Builtin.append_, run_underlying ht, sizeOf, typeInfo, hi, Builtin.lenOf, Builtin.firstCells, loadCells, loadCellsFrom]
  · cases a <;> simp [Builtin.append_, run_underlying ht, sizeOf, typeInfo, hi, Builtin.lenOf, Builtin.firstCells, hnc, storeCells, loadCells, loadCellsFrom]
end Go.Proofs.YtaicnhkobhdehaaDoor

namespace Go.Proofs.YtaicnhkobhdehaaDoor
open Go.RowKit
set_option linter.unusedVariables false

theorem app_row {ops : Array Oper} {rest : List Oper} {o : Oper} {a : Act} {Q : Exit → Act → World → Prop} (w : World) (hgd : o.guard = none) (s x : Operand)
    (ho : o.op = .call { callee := .builtin .append, args := #[s, x], argTypes := #[23, 23] }) (base : Nat) (v : Value) (xs : List Int) (hs : a.eval s = v) (hown : Ow w base v xs)
    (u : Value) (ys : List Int) (hx : a.eval x = u) (hu : Ro w u ys) (hl : xs.length + ys.length ≤ 1000000000) (hbase : base ≤ w.heap.size)
    (h : ∀ v' w', Ow w' base v' (xs ++ ys) → w.grownBy w' v.ownBlock → (v'.ownBlock = v.ownBlock ∨ v'.ownBlock = some w.heap.size) → wpList Tryd.prog ops Q rest (a.put o.dst v') w') :
    wpList Tryd.prog ops Q (o :: rest) a w := by
  obtain ⟨i0, hi, hz0, hz1, hz2⟩ := info_parts info_int
  obtain ⟨ad, c, rfl, h1, h2, h3⟩ := hu
  by_cases hn : ys = []
  · subst hn
    refine wpList_plain hgd fun K hK => ?_
    have hrun := run_append_no (P := Tryd.prog) (w := w) base 23 o.type 3 i0 1 Tryd.underlying23 hi v xs.length _ hown ad c
    have hx' : a.eval x = .slice ad 0 c := hx
    unfold Oper.wp
    simp [execOp, ho, resolve, invoke, builtin, hs, hx', hrun, Result.andThen]
    exact hK _ _ (h v w (by simpa using hown) (World.grownBy.refl _ _) (.inl rfl))
  · obtain ⟨y, rfl, hy, hc⟩ := h3 hn
    refine wpList_append_lies w hgd s x 23 ho base 3 i0 (.int .i64 0) 1 8 Tryd.underlying23 hi hz0 hz1 hz2 rfl (by decide) v xs.length _ hs hown y ys.length c (ys.map (Value.int .i64)) hx (by simp) ?_ ?_ (List.length_pos_iff.2 hn) (by unfold maxLen; omega) (by omega) hbase _ rfl ?_
    · intro j u hj
      rw [List.getElem?_map] at hj
      cases hd : ys[j]? with
      | none => rw [hd] at hj; cases hj
      | some d => rw [hd] at hj; cases hj; exact hc j d hd
    · exact ints_oneCell _ _
    · intro g cap w' k1 k2 k3 _
      refine h _ w' ?_ k2 ?_
      · unfold Ow
        rw [List.length_append, List.map_append]
        exact k1
      · rcases k3 with k3 | k3
        · exact .inl k3.symm
        · exact .inr (by rw [k3]; rfl)
end Go.Proofs.YtaicnhkobhdehaaDoor

namespace Go.Proofs.YtaicnhkobhdehaaDoor
open Go.RowKit
set_option linter.unusedVariables false

/-- any. -/
theorem Ro.lit {w : World} {z : Nat} (xs : List Int) (cs : Array Value) (hc : cs.toList = xs.map (Value.int .i64)) (hl : xs.length ≤ 1000) (hz : w.heap.size = z) : Ro (w.alloc (.cells cs 3)) (.slice (some ⟨z, 0, none⟩) xs.length xs.length) xs := by
  subst hz
  refine ⟨_, xs.length, rfl, Nat.le_refl _, by omega, fun _ => ⟨_, rfl, by simp, fun i d hd => ?_⟩⟩
  rw [Addr.add_lit, Nat.zero_add]
  have hh := heap_alloc_new w (.cells cs 3)
  simp only [World.cell?, hh]
  rw [← Array.getElem?_toList, hc, List.getElem?_map, hd]
  rfl
end Go.Proofs.YtaicnhkobhdehaaDoor

namespace Go.Proofs.YtaicnhkobhdehaaDoor
open Go.RowKit
set_option linter.unusedVariables false

/-- up to which list they are there. -/
def nums1 (W : WV) : Nat → List Int
  | 0 => [W.turn, W.next, W.wide, W.high]
  | 1 => [W.turn, W.next, W.wide, W.high] ++ ((W.gs.length : Int) :: W.gs)
  | 2 => [W.turn, W.next, W.wide, W.high] ++ ((W.gs.length : Int) :: W.gs) ++ ((W.os.length : Int) :: W.os)
  | _ => [W.turn, W.next, W.wide, W.high] ++ ((W.gs.length : Int) :: W.gs) ++ ((W.os.length : Int) :: W.os) ++ ((W.gold.length : Int) :: W.gold)
def nums2 (W : WV) (k : Nat) : List Int := nums1 W 3 ++ ((W.us.length : Int) :: (W.us.take k).flatMap Wd.unums)
def nums3 (W : WV) (k : Nat) : List Int := nums2 W W.us.length ++ ((W.qs.length : Int) :: (W.qs.take k).flatMap Wd.jnums)
theorem nums3_all (W : WV) : nums3 W W.qs.length = Wd.nums W := by
  simp [nums3, nums2, nums1, Wd.nums]
structure WSmall (W : WV) : Prop where
  g : W.gs.length ≤ 1048576
  o : W.os.length ≤ 1048576
  p : W.gold.length ≤ 1048576
  u : W.us.length ≤ 1048576
  q : W.qs.length ≤ 1048576
theorem nums1_len {W : WV} (h : WSmall W) (k : Nat) : (nums1 W k).length ≤ 4000000 := by
  obtain ⟨h1, h2, h3, h4, h5⟩ := h
  match k with
  | 0 => simp [nums1]
  | 1 => simp [nums1]; omega
  | 2 => simp [nums1]; omega
  | _ + 3 => simp [nums1]; omega
theorem flat_len {α : Type} {f : α → List Int} {n : Nat} (hf : ∀ x, (f x).length = n) : ∀ l : List α, (l.flatMap f).length = n * l.length
  | [] => by simp
  | x :: l => by rw [List.flatMap_cons, List.length_append, flat_len hf l, hf, List.length_cons, Nat.mul_add]; omega
theorem nums2_len {W : WV} (h : WSmall W) (k : Nat) : (nums2 W k).length ≤ 13000000 := by
  have h1 := nums1_len h 3
  have h2 := h.u
  unfold nums2
  rw [List.length_append, List.length_cons, flat_len (n := 8) (fun x => rfl), List.length_take]
  omega
theorem nums3_len {W : WV} (h : WSmall W) (k : Nat) : (nums3 W k).length ≤ 18000000 := by
  have h1 := nums2_len h W.us.length
  have h2 := h.q
  unfold nums3
  rw [List.length_append, List.length_cons, flat_len (n := 4) (fun x => rfl), List.length_take]
  omega
theorem nums2_next {W : WV} {k : Nat} {u : UnV} (h : W.us[k]? = some u) : nums2 W (k + 1) = nums2 W k ++ Wd.unums u := by
  obtain ⟨hi, e⟩ := List.getElem?_eq_some_iff.1 h
  unfold nums2
  rw [List.take_succ_eq_append_getElem hi, List.flatMap_append, e]
  simp
theorem nums3_next {W : WV} {k : Nat} {u : JbV} (h : W.qs[k]? = some u) : nums3 W (k + 1) = nums3 W k ++ Wd.jnums u := by
  obtain ⟨hi, e⟩ := List.getElem?_eq_some_iff.1 h
  unfold nums3
  rw [List.take_succ_eq_append_getElem hi, List.flatMap_append, e]
  simp
theorem Bw.grown {w w' : World} {z : Nat} {W : WV} {u1 u2 u3 u4 u5 : Value} {row : Option Nat} (h : Bw w z W u1 u2 u3 u4 u5) (hg : w.grownBy w' row) (hr : ∀ k, row = some k → z < k) : Bw w' z W u1 u2 u3 u4 u5 :=
  h.below (n := z + 1) ((Below.refl _ _).grown hg h.lt (fun k hk => hr k hk)) (Nat.lt_succ_self _)
theorem cell_of_new {w : World} {z i : Nat} {cs : Array Value} {T : TypeId} {v : Value} (hz : w.heap.size = z) (hv : cs[i]? = some v) : (w.alloc (.cells cs T)).cell? ⟨z, i, none⟩ = some v := by
  subst hz
  simp only [World.cell?, heap_alloc_new]
  simpa using hv
/-- what is there as long as lists are written. -/
structure Nm1 (w : World) (W : WV) (u1 u2 u3 u4 u5 : Value) (zl : Nat) (lv : Value) (l : List Int) (W' : World) : Prop where
  o : Ow W' (w.heap.size + 2) lv l
  ne : lv.ownBlock ≠ some zl
  b : Bw W' w.heap.size W u1 u2 u3 u4 u5
  c0 : W'.cell? ⟨zl, 0, none⟩ = some u1
  c1 : W'.cell? ⟨zl, 1, none⟩ = some u2
  c2 : W'.cell? ⟨zl, 2, none⟩ = some u3
  bl : Below w.heap.size w W'
theorem Nm1.step {w : World} {W : WV} {u1 u2 u3 u4 u5 : Value} {zl : Nat} {lv lv' : Value} {l l' : List Int} {W' W'' X : World} (h : Nm1 w W u1 u2 u3 u4 u5 zl lv l W') (hX1 : Below W'.heap.size W' X) (hg : X.grownBy W'' lv.ownBlock) (ho : Ow W'' (w.heap.size + 2) lv' l') (hb : lv'.ownBlock = lv.ownBlock ∨ lv'.ownBlock = some X.heap.size) : Nm1 w W u1 u2 u3 u4 u5 zl lv' l' W'' := by
  have hzl : zl < W'.heap.size := cell_lt h.c0
  have hXs := hX1.size
  have hob : ∀ k, lv.ownBlock = some k → w.heap.size + 2 ≤ k := fun k hk => (h.o.block k hk).1
  have far : ∀ p : Addr, p.block < W'.heap.size → some p.block ≠ lv.ownBlock → W''.cell? p = W'.cell? p := fun p hp hne => by
    rw [hg.cell_far p (by omega) hne, hX1.cell hp]
  have lz := h.b.lt
  have bw : Below w.heap.size w W'' := (h.bl.trans (hX1.mono (by omega))).grown hg (by omega) (fun k hk => by have := hob k hk; omega)
  refine ⟨ho, ?_, (h.b.below hX1 h.b.lt).grown hg (fun k hk => by have := hob k hk; omega), ?_, ?_, ?_, bw⟩
  · rcases hb with hb | hb
    · rw [hb]; exact h.ne
    · rw [hb]; intro e; injection e with e; omega
  · rw [far ⟨zl, 0, none⟩ hzl (fun e => h.ne e.symm)]; exact h.c0
  · rw [far ⟨zl, 1, none⟩ hzl (fun e => h.ne e.symm)]; exact h.c1
  · rw [far ⟨zl, 2, none⟩ hzl (fun e => h.ne e.symm)]; exact h.c2
theorem own_is {v : Value} {g n cap z : Nat} (h : v.ownBlock = some g ∨ g = z) : (Value.slice (some ⟨g, 0, none⟩) n cap).ownBlock = v.ownBlock ∨ (Value.slice (some ⟨g, 0, none⟩) n cap).ownBlock = some z := by
  rcases h with h | h
  · exact .inl (by rw [h]; rfl)
  · exact .inr (by rw [h]; rfl)
theorem Wl.slices {w : World} {W : WV} {u1 u2 u3 u4 u5 : Value} (h : Wl w (.agg #[.int .i64 W.turn, .int .i64 W.next, .int .i64 W.wide, .int .i64 W.high, u1, u2, u3, u4, u5]) W) : Ro w u1 W.gs ∧ Ro w u2 W.os ∧ Ro w u3 W.gold ∧ Unl w u4 W.us ∧ Jbl w u5 W.qs := by
  obtain ⟨v1, v2, v3, v4, v5, ev, r⟩ := h
  simp only [Value.agg.injEq, Array.mk.injEq, List.cons.injEq, and_true, true_and] at ev
  obtain ⟨rfl, rfl, rfl, rfl, rfl⟩ := ev
  exact r
end Go.Proofs.YtaicnhkobhdehaaDoor

namespace Go.Proofs.YtaicnhkobhdehaaDoor
open Go.RowKit
set_option linter.unusedVariables false

theorem len_un (ks : List UnV) : (ks.flatMap UnV.cs).length = ks.length * 8 := by
  induction ks with
  | nil => rfl
  | cons x l ih => rw [List.flatMap_cons, List.length_append, ih, List.length_cons, Nat.succ_mul, Nat.add_comm]; rfl
theorem cell_un {w : World} {y : Addr} {ks : List UnV} (hc : ∀ (i : Nat) k, ks[i]? = some k → Unc w (y.add (i * 8)) k) (j : Nat) (u : Value) (hj : (ks.flatMap UnV.cs)[j]? = some u) : w.cell? (y.add j) = some u := by
  have hjl : j < ks.length * 8 := by rw [← len_un]; exact (List.getElem?_eq_some_iff.1 hj).1
  obtain ⟨i, r, hr, rfl⟩ : ∃ i r, r < 8 ∧ j = i * 8 + r := ⟨j / 8, j % 8, Nat.mod_lt _ (by decide), by omega⟩
  have hi : i < ks.length := by omega
  obtain ⟨k, hk⟩ : ∃ k, ks[i]? = some k := ⟨_, List.getElem?_eq_getElem hi⟩
  rw [flat_un ks i r k hk hr] at hj
  have h := hc i k hk
  rcases Nat.eq_zero_or_pos r with rfl | hr0
  · simp [UnV.cs] at hj
    subst hj
    exact h.c0
  · have ea : y.add (i * 8 + r) = ⟨(y.add (i * 8)).block, (y.add (i * 8)).off + r, none⟩ := by
      unfold Addr.add
      rw [if_neg (by omega)]
      split <;> simp <;> omega
    rw [ea]
    match r, hr, hr0, hj with
    | 1, _, _, hj => simp [UnV.cs] at hj; subst hj; exact h.c1
    | 2, _, _, hj => simp [UnV.cs] at hj; subst hj; exact h.c2
    | 3, _, _, hj => simp [UnV.cs] at hj; subst hj; exact h.c3
    | 4, _, _, hj => simp [UnV.cs] at hj; subst hj; exact h.c4
    | 5, _, _, hj => simp [UnV.cs] at hj; subst hj; exact h.c5
    | 6, _, _, hj => simp [UnV.cs] at hj; subst hj; exact h.c6
    | 7, _, _, hj => simp [UnV.cs] at hj; subst hj; exact h.c7

theorem app_uns {ops : Array Oper} {rest : List Oper} {o : Oper} {a : Act} {Q : Exit → Act → World → Prop} (w : World) (hgd : o.guard = none) (s x : Operand)
    (ho : o.op = .call { callee := .builtin .append, args := #[s, x], argTypes := #[26, 26] }) (base : Nat) (v : Value) (ks : List UnV) (hs : a.eval s = v) (hown : Uno w base v ks)
    (u : Value) (ys : List UnV) (hx : a.eval x = u) (hu : Unl w u ys) (hl : ks.length + ys.length ≤ 100000000) (hbase : base ≤ w.heap.size)
    (h : ∀ v' w', Uno w' base v' (ks ++ ys) → w.grownBy w' v.ownBlock → (v'.ownBlock = v.ownBlock ∨ v'.ownBlock = some w.heap.size) → wpList Tryd.prog ops Q rest (a.put o.dst v') w') :
    wpList Tryd.prog ops Q (o :: rest) a w := by
  obtain ⟨i0, hi, hz0, hz1, hz2⟩ := info_parts info_un
  obtain ⟨ad, c, rfl, h1, h2, h3⟩ := hu
  by_cases hn : ys = []
  · subst hn
    refine wpList_plain hgd fun K hK => ?_
    have hrun := run_append_no (P := Tryd.prog) (w := w) base 26 o.type 45 i0 8 Tryd.underlying26 hi v ks.length _ hown ad c
    have hx' : a.eval x = .slice ad 0 c := hx
    unfold Oper.wp
    simp [execOp, ho, resolve, invoke, builtin, hs, hx', hrun, Result.andThen]
    exact hK _ _ (h v w (by simpa using hown) (World.grownBy.refl _ _) (.inl rfl))
  · obtain ⟨y, rfl, hy, hc⟩ := h3 hn
    refine wpList_append_lies w hgd s x 26 ho base 45 i0 _ 8 64 Tryd.underlying26 hi hz0 hz1 hz2 rfl (by decide) v ks.length _ hs hown y ys.length c (ys.flatMap UnV.cs) hx (len_un ys) (cell_un hc) ?_ (List.length_pos_iff.2 hn) (by unfold maxLen; omega) (by omega) hbase _ rfl ?_
    · intro u hu
      obtain ⟨k, -, hk⟩ := List.mem_flatMap.1 hu
      simp [UnV.cs] at hk
      rcases hk with rfl | rfl | rfl | rfl | rfl | rfl | rfl | rfl <;> rfl
    · intro g cap w' k1 k2 k3 _
      refine h _ w' ?_ k2 ?_
      · unfold Uno
        rw [List.length_append, List.flatMap_append]
        exact k1
      · rcases k3 with k3 | k3
        · exact .inl k3.symm
        · exact .inr (by rw [k3]; rfl)
end Go.Proofs.YtaicnhkobhdehaaDoor

namespace Go.Proofs.YtaicnhkobhdehaaDoor
open Go.RowKit
set_option linter.unusedVariables false

theorem len_jb (ks : List JbV) : (ks.flatMap JbV.cs).length = ks.length * 4 := by
  induction ks with
  | nil => rfl
  | cons x l ih => rw [List.flatMap_cons, List.length_append, ih, List.length_cons, Nat.succ_mul, Nat.add_comm]; rfl
theorem cell_jb {w : World} {y : Addr} {ks : List JbV} (hc : ∀ (i : Nat) k, ks[i]? = some k → Jbc w (y.add (i * 4)) k) (j : Nat) (u : Value) (hj : (ks.flatMap JbV.cs)[j]? = some u) : w.cell? (y.add j) = some u := by
  have hjl : j < ks.length * 4 := by rw [← len_jb]; exact (List.getElem?_eq_some_iff.1 hj).1
  obtain ⟨i, r, hr, rfl⟩ : ∃ i r, r < 4 ∧ j = i * 4 + r := ⟨j / 4, j % 4, Nat.mod_lt _ (by decide), by omega⟩
  have hi : i < ks.length := by omega
  obtain ⟨k, hk⟩ : ∃ k, ks[i]? = some k := ⟨_, List.getElem?_eq_getElem hi⟩
  rw [flat_jb ks i r k hk hr] at hj
  have h := hc i k hk
  rcases Nat.eq_zero_or_pos r with rfl | hr0
  · simp [JbV.cs] at hj
    subst hj
    exact h.c0
  · have ea : y.add (i * 4 + r) = ⟨(y.add (i * 4)).block, (y.add (i * 4)).off + r, none⟩ := by
      unfold Addr.add
      rw [if_neg (by omega)]
      split <;> simp <;> omega
    rw [ea]
    match r, hr, hr0, hj with
    | 1, _, _, hj => simp [JbV.cs] at hj; subst hj; exact h.c1
    | 2, _, _, hj => simp [JbV.cs] at hj; subst hj; exact h.c2
    | 3, _, _, hj => simp [JbV.cs] at hj; subst hj; exact h.c3

theorem app_jbs {ops : Array Oper} {rest : List Oper} {o : Oper} {a : Act} {Q : Exit → Act → World → Prop} (w : World) (hgd : o.guard = none) (s x : Operand)
    (ho : o.op = .call { callee := .builtin .append, args := #[s, x], argTypes := #[27, 27] }) (base : Nat) (v : Value) (ks : List JbV) (hs : a.eval s = v) (hown : Jbo w base v ks)
    (u : Value) (ys : List JbV) (hx : a.eval x = u) (hu : Jbl w u ys) (hl : ks.length + ys.length ≤ 100000000) (hbase : base ≤ w.heap.size)
    (h : ∀ v' w', Jbo w' base v' (ks ++ ys) → w.grownBy w' v.ownBlock → (v'.ownBlock = v.ownBlock ∨ v'.ownBlock = some w.heap.size) → wpList Tryd.prog ops Q rest (a.put o.dst v') w') :
    wpList Tryd.prog ops Q (o :: rest) a w := by
  obtain ⟨i0, hi, hz0, hz1, hz2⟩ := info_parts info_jb
  obtain ⟨ad, c, rfl, h1, h2, h3⟩ := hu
  by_cases hn : ys = []
  · subst hn
    refine wpList_plain hgd fun K hK => ?_
    have hrun := run_append_no (P := Tryd.prog) (w := w) base 27 o.type 57 i0 4 Tryd.underlying27 hi v ks.length _ hown ad c
    have hx' : a.eval x = .slice ad 0 c := hx
    unfold Oper.wp
    simp [execOp, ho, resolve, invoke, builtin, hs, hx', hrun, Result.andThen]
    exact hK _ _ (h v w (by simpa using hown) (World.grownBy.refl _ _) (.inl rfl))
  · obtain ⟨y, rfl, hy, hc⟩ := h3 hn
    refine wpList_append_lies w hgd s x 27 ho base 57 i0 _ 4 32 Tryd.underlying27 hi hz0 hz1 hz2 rfl (by decide) v ks.length _ hs hown y ys.length c (ys.flatMap JbV.cs) hx (len_jb ys) (cell_jb hc) ?_ (List.length_pos_iff.2 hn) (by unfold maxLen; omega) (by omega) hbase _ rfl ?_
    · intro u hu
      obtain ⟨k, -, hk⟩ := List.mem_flatMap.1 hu
      simp [JbV.cs] at hk
      rcases hk with rfl | rfl | rfl | rfl <;> rfl
    · intro g cap w' k1 k2 k3 _
      refine h _ w' ?_ k2 ?_
      · unfold Jbo
        rw [List.length_append, List.flatMap_append]
        exact k1
      · rcases k3 with k3 | k3
        · exact .inl k3.symm
        · exact .inr (by rw [k3]; rfl)
end Go.Proofs.YtaicnhkobhdehaaDoor

namespace Go.Proofs.YtaicnhkobhdehaaDoor
open Go.RowKit
set_option linter.unusedVariables false

set_option maxHeartbeats 1000000 in
theorem fresh_ints (v : Value) (xs : List Int) (w : World) (h : Ro w v xs) (hl : xs.length ≤ 100000000) :
    Calls Tryd.prog 30 #[v] w fun e w' => ∃ u, e = .returned u ∧ Ow w' w.heap.size u xs ∧ Below w.heap.size w w' := by
  have H : Hid (Ro w v xs) := h
  clear h
  go_enter Tryd.func30, Tryd.ntmps30
  go_wp2_with (at_builtin; refine app_row _ rfl _ _ rfl w.heap.size _ [] rfl (Ow.nil _ _) _ xs rfl H.out (by simpa using Nat.le_trans hl (by decide)) (Nat.le_refl _) ?_)
  intro u w1 o1 g1 _
  have F : Hid (Ow w1 w.heap.size u xs ∧ Below w.heap.size w w1) := ⟨o1, (Below.refl _ _).grown g1 (Nat.le_refl _) (fun k hk => by cases hk)⟩
  clear o1 g1
  go_wp2
  go_ret
  exact ⟨_, rfl, F.out.1, F.out.2⟩
set_option maxHeartbeats 1000000 in
theorem fresh_uns (v : Value) (xs : List UnV) (w : World) (h : Unl w v xs) (hl : xs.length ≤ 100000000) :
    Calls Tryd.prog 31 #[v] w fun e w' => ∃ u, e = .returned u ∧ Uno w' w.heap.size u xs ∧ Below w.heap.size w w' := by
  have H : Hid (Unl w v xs) := h
  clear h
  go_enter Tryd.func31, Tryd.ntmps31
  go_wp2_with (at_builtin; refine app_uns _ rfl _ _ rfl w.heap.size _ [] rfl (Uno.nil _ _) _ xs rfl H.out (by simpa using Nat.le_trans hl (by decide)) (Nat.le_refl _) ?_)
  intro u w1 o1 g1 _
  have F : Hid (Uno w1 w.heap.size u xs ∧ Below w.heap.size w w1) := ⟨o1, (Below.refl _ _).grown g1 (Nat.le_refl _) (fun k hk => by cases hk)⟩
  clear o1 g1
  go_wp2
  go_ret
  exact ⟨_, rfl, F.out.1, F.out.2⟩
set_option maxHeartbeats 1000000 in
theorem fresh_jbs (v : Value) (xs : List JbV) (w : World) (h : Jbl w v xs) (hl : xs.length ≤ 100000000) :
    Calls Tryd.prog 32 #[v] w fun e w' => ∃ u, e = .returned u ∧ Jbo w' w.heap.size u xs ∧ Below w.heap.size w w' := by
  have H : Hid (Jbl w v xs) := h
  clear h
  go_enter Tryd.func32, Tryd.ntmps32
  go_wp2_with (at_builtin; refine app_jbs _ rfl _ _ rfl w.heap.size _ [] rfl (Jbo.nil _ _) _ xs rfl H.out (by simpa using Nat.le_trans hl (by decide)) (Nat.le_refl _) ?_)
  intro u w1 o1 g1 _
  have F : Hid (Jbo w1 w.heap.size u xs ∧ Below w.heap.size w w1) := ⟨o1, (Below.refl _ _).grown g1 (Nat.le_refl _) (fun k hk => by cases hk)⟩
  clear o1 g1
  go_wp2
  go_ret
  exact ⟨_, rfl, F.out.1, F.out.2⟩
set_option maxRecDepth 100000 in
set_option maxHeartbeats 4000000 in
theorem copy_any (v : Value) (W : WV) (w : World) (h : Wl w v W) (hl : WLen W) :
    Calls Tryd.prog 18 #[v] w fun e w' => ∃ u, e = .returned u ∧ Wi w' w.heap.size u W ∧ Below w.heap.size w w' := by
  have H : Hid (Wl w v W) := h
  have L : Hid (WLen W) := hl
  obtain ⟨u1, u2, u3, u4, u5, rfl, -, -, -, -, -⟩ := h
  clear hl
  go_enter Tryd.func18, Tryd.ntmps18
  go_upto_region 1 with fail
  have B0 : Hid (Below w.heap.size w ((w.alloc (.cells #[.int .i64 W.turn, .int .i64 W.next, .int .i64 W.wide, .int .i64 W.high, u1, u2, u3, u4, u5] 29)).alloc (.cells #[.int .i64 0, .int .i64 0, .int .i64 0, .int .i64 0, .slice none 0 0, .slice none 0 0, .slice none 0 0, .slice none 0 0, .slice none 0 0] 29))) := ((Below.refl _ _).alloc (Nat.le_refl _) _).alloc (by simp) _
  have X0 : Hid (Wx ((w.alloc (.cells #[.int .i64 W.turn, .int .i64 W.next, .int .i64 W.wide, .int .i64 W.high, u1, u2, u3, u4, u5] 29)).alloc (.cells #[.int .i64 0, .int .i64 0, .int .i64 0, .int .i64 0, .slice none 0 0, .slice none 0 0, .slice none 0 0, .slice none 0 0, .slice none 0 0] 29)) w.heap.size (.int .i64 W.turn) (.int .i64 W.next) (.int .i64 W.wide) (.int .i64 W.high) u1 u2 u3 u4 u5) := (Wx.new (w := w) _ _ _ _ _ _ _ _ _ rfl).below ((Below.refl _ _).alloc (Nat.le_refl _) _) (by simp)
  have Z0 : Hid (Wx ((w.alloc (.cells #[.int .i64 W.turn, .int .i64 W.next, .int .i64 W.wide, .int .i64 W.high, u1, u2, u3, u4, u5] 29)).alloc (.cells #[.int .i64 0, .int .i64 0, .int .i64 0, .int .i64 0, .slice none 0 0, .slice none 0 0, .slice none 0 0, .slice none 0 0, .slice none 0 0] 29)) (w.heap.size + 1) (.int .i64 0) (.int .i64 0) (.int .i64 0) (.int .i64 0) (.slice none 0 0) (.slice none 0 0) (.slice none 0 0) (.slice none 0 0) (.slice none 0 0)) := Wx.new _ _ _ _ _ _ _ _ _ (by simp)
  have S0 : Hid (w.heap.size + 2 ≤ ((w.alloc (.cells #[.int .i64 W.turn, .int .i64 W.next, .int .i64 W.wide, .int .i64 W.high, u1, u2, u3, u4, u5] 29)).alloc (.cells #[.int .i64 0, .int .i64 0, .int .i64 0, .int .i64 0, .slice none 0 0, .slice none 0 0, .slice none 0 0, .slice none 0 0, .slice none 0 0] 29)).heap.size) := by unfold Hid; simp
  generalize ((w.alloc (.cells #[.int .i64 W.turn, .int .i64 W.next, .int .i64 W.wide, .int .i64 W.high, u1, u2, u3, u4, u5] 29)).alloc (.cells #[.int .i64 0, .int .i64 0, .int .i64 0, .int .i64 0, .slice none 0 0, .slice none 0 0, .slice none 0 0, .slice none 0 0, .slice none 0 0] 29)) = w0 at *
  obtain ⟨x0, x1, x2, x3, x4, x5, x6, x7, x8⟩ := X0.out.cells
  go_wp2_with fail
  refine (fresh_ints _ W.gs w0 ((H.out.below B0.out).slices.1) L.out.g).mono ?_
  rintro e a1 ⟨v1, rfl, ho, hb⟩
  clear x0 x1 x2 x3 x4 x5 x6 x7 x8
  have BA : Hid (Below w.heap.size w a1) := B0.out.trans (hb.mono B0.out.size)
  have SA : Hid (w.heap.size + 2 ≤ a1.heap.size) := Nat.le_trans S0.out hb.size
  have XA : Hid (Wx a1 w.heap.size (.int .i64 W.turn) (.int .i64 W.next) (.int .i64 W.wide) (.int .i64 W.high) u1 u2 u3 u4 u5) := X0.out.below hb X0.out.lt
  have ZA : Hid (Wx a1 (w.heap.size + 1) (.int .i64 0) (.int .i64 0) (.int .i64 0) (.int .i64 0) (.slice none 0 0) (.slice none 0 0) (.slice none 0 0) (.slice none 0 0) (.slice none 0 0)) := Z0.out.below hb Z0.out.lt
  have OA : Hid (Ow a1 (w.heap.size + 2) v1 W.gs) := ho.mono S0.out
  obtain ⟨p1, q1, rfl⟩ := ho.len
  have t := XA.out.thaw 4
  obtain ⟨-, -, -, -, x, -, -, -, -⟩ := XA.out.cells
  clear hb ho 
  go_upto_region 2 with fail
  have KW : Hid (Kp w.heap.size a1 (a1.setCell ⟨w.heap.size, 4, none⟩ (.slice p1 W.gs.length q1))) := Kp.set _ _ _
  have X1 : Hid (Wx (a1.setCell ⟨w.heap.size, 4, none⟩ (.slice p1 W.gs.length q1)) w.heap.size (.int .i64 W.turn) (.int .i64 W.next) (.int .i64 W.wide) (.int .i64 W.high) (.slice p1 W.gs.length q1) u2 u3 u4 u5) := XA.out.set4 _
  clear t x XA X0 Z0
  generalize (a1.setCell ⟨w.heap.size, 4, none⟩ (.slice p1 W.gs.length q1)) = w1 at *
  have B1 : Hid (Below w.heap.size w w1) := KW.out.below BA.out BA.out.size (Nat.le_refl _)
  have S1 : Hid (w.heap.size + 2 ≤ w1.heap.size) := Nat.le_trans SA.out KW.out.size
  have Z1 : Hid (Wx w1 (w.heap.size + 1) (.int .i64 0) (.int .i64 0) (.int .i64 0) (.int .i64 0) (.slice none 0 0) (.slice none 0 0) (.slice none 0 0) (.slice none 0 0) (.slice none 0 0)) := ZA.out.kp KW.out (by omega)
  have P1_1 : Hid (Ow w1 (w.heap.size + 2) (.slice p1 W.gs.length q1) W.gs) := OA.out.kp KW.out (by omega)
  clear BA SA ZA OA KW 
  obtain ⟨x0, x1, x2, x3, x4, x5, x6, x7, x8⟩ := X1.out.cells
  go_wp2_with fail
  refine (fresh_ints _ W.os w1 ((H.out.below B1.out).slices.2.1) L.out.o).mono ?_
  rintro e a2 ⟨v2, rfl, ho, hb⟩
  clear x0 x1 x2 x3 x4 x5 x6 x7 x8
  have BA : Hid (Below w.heap.size w a2) := B1.out.trans (hb.mono B1.out.size)
  have SA : Hid (w.heap.size + 2 ≤ a2.heap.size) := Nat.le_trans S1.out hb.size
  have XA : Hid (Wx a2 w.heap.size (.int .i64 W.turn) (.int .i64 W.next) (.int .i64 W.wide) (.int .i64 W.high) (.slice p1 W.gs.length q1) u2 u3 u4 u5) := X1.out.below hb X1.out.lt
  have ZA : Hid (Wx a2 (w.heap.size + 1) (.int .i64 0) (.int .i64 0) (.int .i64 0) (.int .i64 0) (.slice none 0 0) (.slice none 0 0) (.slice none 0 0) (.slice none 0 0) (.slice none 0 0)) := Z1.out.below hb Z1.out.lt
  have OA : Hid (Ow a2 (w.heap.size + 2) v2 W.os) := ho.mono S1.out
  have PA1 : Hid (Ow a2 (w.heap.size + 2) (.slice p1 W.gs.length q1) W.gs) := P1_1.out.below hb
  have D1_2 : Hid (Dif (.slice p1 W.gs.length q1) v2) := Dif.of (fun k hk => (P1_1.out.block k hk).2) (fun k hk => (ho.block k hk).1)
  obtain ⟨p2, q2, rfl⟩ := ho.len
  have t := XA.out.thaw 5
  obtain ⟨-, -, -, -, -, x, -, -, -⟩ := XA.out.cells
  clear hb ho P1_1
  go_upto_region 3 with fail
  have KW : Hid (Kp w.heap.size a2 (a2.setCell ⟨w.heap.size, 5, none⟩ (.slice p2 W.os.length q2))) := Kp.set _ _ _
  have X2 : Hid (Wx (a2.setCell ⟨w.heap.size, 5, none⟩ (.slice p2 W.os.length q2)) w.heap.size (.int .i64 W.turn) (.int .i64 W.next) (.int .i64 W.wide) (.int .i64 W.high) (.slice p1 W.gs.length q1) (.slice p2 W.os.length q2) u3 u4 u5) := XA.out.set5 _
  clear t x XA X1 Z1
  generalize (a2.setCell ⟨w.heap.size, 5, none⟩ (.slice p2 W.os.length q2)) = w2 at *
  have B2 : Hid (Below w.heap.size w w2) := KW.out.below BA.out BA.out.size (Nat.le_refl _)
  have S2 : Hid (w.heap.size + 2 ≤ w2.heap.size) := Nat.le_trans SA.out KW.out.size
  have Z2 : Hid (Wx w2 (w.heap.size + 1) (.int .i64 0) (.int .i64 0) (.int .i64 0) (.int .i64 0) (.slice none 0 0) (.slice none 0 0) (.slice none 0 0) (.slice none 0 0) (.slice none 0 0)) := ZA.out.kp KW.out (by omega)
  have P2_2 : Hid (Ow w2 (w.heap.size + 2) (.slice p2 W.os.length q2) W.os) := OA.out.kp KW.out (by omega)
  have P1_2 : Hid (Ow w2 (w.heap.size + 2) (.slice p1 W.gs.length q1) W.gs) := PA1.out.kp KW.out (by omega)
  clear BA SA ZA OA KW PA1
  obtain ⟨x0, x1, x2, x3, x4, x5, x6, x7, x8⟩ := X2.out.cells
  go_wp2_with fail
  refine (fresh_ints _ W.gold w2 ((H.out.below B2.out).slices.2.2.1) L.out.p).mono ?_
  rintro e a3 ⟨v3, rfl, ho, hb⟩
  clear x0 x1 x2 x3 x4 x5 x6 x7 x8
  have BA : Hid (Below w.heap.size w a3) := B2.out.trans (hb.mono B2.out.size)
  have SA : Hid (w.heap.size + 2 ≤ a3.heap.size) := Nat.le_trans S2.out hb.size
  have XA : Hid (Wx a3 w.heap.size (.int .i64 W.turn) (.int .i64 W.next) (.int .i64 W.wide) (.int .i64 W.high) (.slice p1 W.gs.length q1) (.slice p2 W.os.length q2) u3 u4 u5) := X2.out.below hb X2.out.lt
  have ZA : Hid (Wx a3 (w.heap.size + 1) (.int .i64 0) (.int .i64 0) (.int .i64 0) (.int .i64 0) (.slice none 0 0) (.slice none 0 0) (.slice none 0 0) (.slice none 0 0) (.slice none 0 0)) := Z2.out.below hb Z2.out.lt
  have OA : Hid (Ow a3 (w.heap.size + 2) v3 W.gold) := ho.mono S2.out
  have PA1 : Hid (Ow a3 (w.heap.size + 2) (.slice p1 W.gs.length q1) W.gs) := P1_2.out.below hb
  have PA2 : Hid (Ow a3 (w.heap.size + 2) (.slice p2 W.os.length q2) W.os) := P2_2.out.below hb
  have D1_3 : Hid (Dif (.slice p1 W.gs.length q1) v3) := Dif.of (fun k hk => (P1_2.out.block k hk).2) (fun k hk => (ho.block k hk).1)
  have D2_3 : Hid (Dif (.slice p2 W.os.length q2) v3) := Dif.of (fun k hk => (P2_2.out.block k hk).2) (fun k hk => (ho.block k hk).1)
  obtain ⟨p3, q3, rfl⟩ := ho.len
  have t := XA.out.thaw 6
  obtain ⟨-, -, -, -, -, -, x, -, -⟩ := XA.out.cells
  clear hb ho P1_2 P2_2
  go_upto_region 4 with fail
  have KW : Hid (Kp w.heap.size a3 (a3.setCell ⟨w.heap.size, 6, none⟩ (.slice p3 W.gold.length q3))) := Kp.set _ _ _
  have X3 : Hid (Wx (a3.setCell ⟨w.heap.size, 6, none⟩ (.slice p3 W.gold.length q3)) w.heap.size (.int .i64 W.turn) (.int .i64 W.next) (.int .i64 W.wide) (.int .i64 W.high) (.slice p1 W.gs.length q1) (.slice p2 W.os.length q2) (.slice p3 W.gold.length q3) u4 u5) := XA.out.set6 _
  clear t x XA X2 Z2
  generalize (a3.setCell ⟨w.heap.size, 6, none⟩ (.slice p3 W.gold.length q3)) = w3 at *
  have B3 : Hid (Below w.heap.size w w3) := KW.out.below BA.out BA.out.size (Nat.le_refl _)
  have S3 : Hid (w.heap.size + 2 ≤ w3.heap.size) := Nat.le_trans SA.out KW.out.size
  have Z3 : Hid (Wx w3 (w.heap.size + 1) (.int .i64 0) (.int .i64 0) (.int .i64 0) (.int .i64 0) (.slice none 0 0) (.slice none 0 0) (.slice none 0 0) (.slice none 0 0) (.slice none 0 0)) := ZA.out.kp KW.out (by omega)
  have P3_3 : Hid (Ow w3 (w.heap.size + 2) (.slice p3 W.gold.length q3) W.gold) := OA.out.kp KW.out (by omega)
  have P1_3 : Hid (Ow w3 (w.heap.size + 2) (.slice p1 W.gs.length q1) W.gs) := PA1.out.kp KW.out (by omega)
  have P2_3 : Hid (Ow w3 (w.heap.size + 2) (.slice p2 W.os.length q2) W.os) := PA2.out.kp KW.out (by omega)
  clear BA SA ZA OA KW PA1 PA2
  obtain ⟨x0, x1, x2, x3, x4, x5, x6, x7, x8⟩ := X3.out.cells
  go_wp2_with fail
  refine (fresh_uns _ W.us w3 ((H.out.below B3.out).slices.2.2.2.1) L.out.u).mono ?_
  rintro e a4 ⟨v4, rfl, ho, hb⟩
  clear x0 x1 x2 x3 x4 x5 x6 x7 x8
  have BA : Hid (Below w.heap.size w a4) := B3.out.trans (hb.mono B3.out.size)
  have SA : Hid (w.heap.size + 2 ≤ a4.heap.size) := Nat.le_trans S3.out hb.size
  have XA : Hid (Wx a4 w.heap.size (.int .i64 W.turn) (.int .i64 W.next) (.int .i64 W.wide) (.int .i64 W.high) (.slice p1 W.gs.length q1) (.slice p2 W.os.length q2) (.slice p3 W.gold.length q3) u4 u5) := X3.out.below hb X3.out.lt
  have ZA : Hid (Wx a4 (w.heap.size + 1) (.int .i64 0) (.int .i64 0) (.int .i64 0) (.int .i64 0) (.slice none 0 0) (.slice none 0 0) (.slice none 0 0) (.slice none 0 0) (.slice none 0 0)) := Z3.out.below hb Z3.out.lt
  have OA : Hid (Uno a4 (w.heap.size + 2) v4 W.us) := ho.mono S3.out
  have PA1 : Hid (Ow a4 (w.heap.size + 2) (.slice p1 W.gs.length q1) W.gs) := P1_3.out.below hb
  have PA2 : Hid (Ow a4 (w.heap.size + 2) (.slice p2 W.os.length q2) W.os) := P2_3.out.below hb
  have PA3 : Hid (Ow a4 (w.heap.size + 2) (.slice p3 W.gold.length q3) W.gold) := P3_3.out.below hb
  have D1_4 : Hid (Dif (.slice p1 W.gs.length q1) v4) := Dif.of (fun k hk => (P1_3.out.block k hk).2) (fun k hk => (ho.block k hk).1)
  have D2_4 : Hid (Dif (.slice p2 W.os.length q2) v4) := Dif.of (fun k hk => (P2_3.out.block k hk).2) (fun k hk => (ho.block k hk).1)
  have D3_4 : Hid (Dif (.slice p3 W.gold.length q3) v4) := Dif.of (fun k hk => (P3_3.out.block k hk).2) (fun k hk => (ho.block k hk).1)
  obtain ⟨p4, q4, rfl⟩ := ho.len
  have t := XA.out.thaw 7
  obtain ⟨-, -, -, -, -, -, -, x, -⟩ := XA.out.cells
  clear hb ho P1_3 P2_3 P3_3
  go_upto_region 5 with fail
  have KW : Hid (Kp w.heap.size a4 (a4.setCell ⟨w.heap.size, 7, none⟩ (.slice p4 W.us.length q4))) := Kp.set _ _ _
  have X4 : Hid (Wx (a4.setCell ⟨w.heap.size, 7, none⟩ (.slice p4 W.us.length q4)) w.heap.size (.int .i64 W.turn) (.int .i64 W.next) (.int .i64 W.wide) (.int .i64 W.high) (.slice p1 W.gs.length q1) (.slice p2 W.os.length q2) (.slice p3 W.gold.length q3) (.slice p4 W.us.length q4) u5) := XA.out.set7 _
  clear t x XA X3 Z3
  generalize (a4.setCell ⟨w.heap.size, 7, none⟩ (.slice p4 W.us.length q4)) = w4 at *
  have B4 : Hid (Below w.heap.size w w4) := KW.out.below BA.out BA.out.size (Nat.le_refl _)
  have S4 : Hid (w.heap.size + 2 ≤ w4.heap.size) := Nat.le_trans SA.out KW.out.size
  have Z4 : Hid (Wx w4 (w.heap.size + 1) (.int .i64 0) (.int .i64 0) (.int .i64 0) (.int .i64 0) (.slice none 0 0) (.slice none 0 0) (.slice none 0 0) (.slice none 0 0) (.slice none 0 0)) := ZA.out.kp KW.out (by omega)
  have P4_4 : Hid (Uno w4 (w.heap.size + 2) (.slice p4 W.us.length q4) W.us) := OA.out.kp KW.out (by omega)
  have P1_4 : Hid (Ow w4 (w.heap.size + 2) (.slice p1 W.gs.length q1) W.gs) := PA1.out.kp KW.out (by omega)
  have P2_4 : Hid (Ow w4 (w.heap.size + 2) (.slice p2 W.os.length q2) W.os) := PA2.out.kp KW.out (by omega)
  have P3_4 : Hid (Ow w4 (w.heap.size + 2) (.slice p3 W.gold.length q3) W.gold) := PA3.out.kp KW.out (by omega)
  clear BA SA ZA OA KW PA1 PA2 PA3
  obtain ⟨x0, x1, x2, x3, x4, x5, x6, x7, x8⟩ := X4.out.cells
  go_wp2_with fail
  refine (fresh_jbs _ W.qs w4 ((H.out.below B4.out).slices.2.2.2.2) L.out.q).mono ?_
  rintro e a5 ⟨v5, rfl, ho, hb⟩
  clear x0 x1 x2 x3 x4 x5 x6 x7 x8
  have BA : Hid (Below w.heap.size w a5) := B4.out.trans (hb.mono B4.out.size)
  have SA : Hid (w.heap.size + 2 ≤ a5.heap.size) := Nat.le_trans S4.out hb.size
  have XA : Hid (Wx a5 w.heap.size (.int .i64 W.turn) (.int .i64 W.next) (.int .i64 W.wide) (.int .i64 W.high) (.slice p1 W.gs.length q1) (.slice p2 W.os.length q2) (.slice p3 W.gold.length q3) (.slice p4 W.us.length q4) u5) := X4.out.below hb X4.out.lt
  have ZA : Hid (Wx a5 (w.heap.size + 1) (.int .i64 0) (.int .i64 0) (.int .i64 0) (.int .i64 0) (.slice none 0 0) (.slice none 0 0) (.slice none 0 0) (.slice none 0 0) (.slice none 0 0)) := Z4.out.below hb Z4.out.lt
  have OA : Hid (Jbo a5 (w.heap.size + 2) v5 W.qs) := ho.mono S4.out
  have PA1 : Hid (Ow a5 (w.heap.size + 2) (.slice p1 W.gs.length q1) W.gs) := P1_4.out.below hb
  have PA2 : Hid (Ow a5 (w.heap.size + 2) (.slice p2 W.os.length q2) W.os) := P2_4.out.below hb
  have PA3 : Hid (Ow a5 (w.heap.size + 2) (.slice p3 W.gold.length q3) W.gold) := P3_4.out.below hb
  have PA4 : Hid (Uno a5 (w.heap.size + 2) (.slice p4 W.us.length q4) W.us) := P4_4.out.below hb
  have D1_5 : Hid (Dif (.slice p1 W.gs.length q1) v5) := Dif.of (fun k hk => (P1_4.out.block k hk).2) (fun k hk => (ho.block k hk).1)
  have D2_5 : Hid (Dif (.slice p2 W.os.length q2) v5) := Dif.of (fun k hk => (P2_4.out.block k hk).2) (fun k hk => (ho.block k hk).1)
  have D3_5 : Hid (Dif (.slice p3 W.gold.length q3) v5) := Dif.of (fun k hk => (P3_4.out.block k hk).2) (fun k hk => (ho.block k hk).1)
  have D4_5 : Hid (Dif (.slice p4 W.us.length q4) v5) := Dif.of (fun k hk => (P4_4.out.block k hk).2) (fun k hk => (ho.block k hk).1)
  obtain ⟨p5, q5, rfl⟩ := ho.len
  have t := XA.out.thaw 8
  obtain ⟨-, -, -, -, -, -, -, -, x⟩ := XA.out.cells
  clear hb ho P1_4 P2_4 P3_4 P4_4
  go_upto_region 6 with fail
  have KW : Hid (Kp w.heap.size a5 (a5.setCell ⟨w.heap.size, 8, none⟩ (.slice p5 W.qs.length q5))) := Kp.set _ _ _
  have X5 : Hid (Wx (a5.setCell ⟨w.heap.size, 8, none⟩ (.slice p5 W.qs.length q5)) w.heap.size (.int .i64 W.turn) (.int .i64 W.next) (.int .i64 W.wide) (.int .i64 W.high) (.slice p1 W.gs.length q1) (.slice p2 W.os.length q2) (.slice p3 W.gold.length q3) (.slice p4 W.us.length q4) (.slice p5 W.qs.length q5)) := XA.out.set8 _
  clear t x XA X4 Z4
  generalize (a5.setCell ⟨w.heap.size, 8, none⟩ (.slice p5 W.qs.length q5)) = w5 at *
  have B5 : Hid (Below w.heap.size w w5) := KW.out.below BA.out BA.out.size (Nat.le_refl _)
  have S5 : Hid (w.heap.size + 2 ≤ w5.heap.size) := Nat.le_trans SA.out KW.out.size
  have Z5 : Hid (Wx w5 (w.heap.size + 1) (.int .i64 0) (.int .i64 0) (.int .i64 0) (.int .i64 0) (.slice none 0 0) (.slice none 0 0) (.slice none 0 0) (.slice none 0 0) (.slice none 0 0)) := ZA.out.kp KW.out (by omega)
  have P5_5 : Hid (Jbo w5 (w.heap.size + 2) (.slice p5 W.qs.length q5) W.qs) := OA.out.kp KW.out (by omega)
  have P1_5 : Hid (Ow w5 (w.heap.size + 2) (.slice p1 W.gs.length q1) W.gs) := PA1.out.kp KW.out (by omega)
  have P2_5 : Hid (Ow w5 (w.heap.size + 2) (.slice p2 W.os.length q2) W.os) := PA2.out.kp KW.out (by omega)
  have P3_5 : Hid (Ow w5 (w.heap.size + 2) (.slice p3 W.gold.length q3) W.gold) := PA3.out.kp KW.out (by omega)
  have P4_5 : Hid (Uno w5 (w.heap.size + 2) (.slice p4 W.us.length q4) W.us) := PA4.out.kp KW.out (by omega)
  clear BA SA ZA OA KW PA1 PA2 PA3 PA4
  obtain ⟨x0, x1, x2, x3, x4, x5, x6, x7, x8⟩ := X5.out.cells
  obtain ⟨z0, z1, z2, z3, z4, z5, z6, z7, z8⟩ := Z5.out.cells
  obtain ⟨t0, t1, t2, t3, t4, t5, t6, t7, t8⟩ := Z5.out.thaws
  have KZ : Hid (Kp (w.heap.size + 1) w5 (((((((((w5.setCell ⟨w.heap.size + 1, 0, none⟩ (.int .i64 W.turn)).setCell ⟨w.heap.size + 1, 1, none⟩ (.int .i64 W.next)).setCell ⟨w.heap.size + 1, 2, none⟩ (.int .i64 W.wide)).setCell ⟨w.heap.size + 1, 3, none⟩ (.int .i64 W.high)).setCell ⟨w.heap.size + 1, 4, none⟩ (.slice p1 W.gs.length q1)).setCell ⟨w.heap.size + 1, 5, none⟩ (.slice p2 W.os.length q2)).setCell ⟨w.heap.size + 1, 6, none⟩ (.slice p3 W.gold.length q3)).setCell ⟨w.heap.size + 1, 7, none⟩ (.slice p4 W.us.length q4)).setCell ⟨w.heap.size + 1, 8, none⟩ (.slice p5 W.qs.length q5))) := put_kp _ _ _ _ _ _ _ _ _ _ _
  obtain ⟨y0, y1, y2, y3, y4, y5, y6, y7, y8⟩ := (Z5.out.put (.int .i64 W.turn) (.int .i64 W.next) (.int .i64 W.wide) (.int .i64 W.high) (.slice p1 W.gs.length q1) (.slice p2 W.os.length q2) (.slice p3 W.gold.length q3) (.slice p4 W.us.length q4) (.slice p5 W.qs.length q5)).cells
  go_wp2
  clear x0 x1 x2 x3 x4 x5 x6 x7 x8 z0 z1 z2 z3 z4 z5 z6 z7 z8 t0 t1 t2 t3 t4 t5 t6 t7 t8
  have s0 := S5.out
  generalize (((((((((w5.setCell ⟨w.heap.size + 1, 0, none⟩ (.int .i64 W.turn)).setCell ⟨w.heap.size + 1, 1, none⟩ (.int .i64 W.next)).setCell ⟨w.heap.size + 1, 2, none⟩ (.int .i64 W.wide)).setCell ⟨w.heap.size + 1, 3, none⟩ (.int .i64 W.high)).setCell ⟨w.heap.size + 1, 4, none⟩ (.slice p1 W.gs.length q1)).setCell ⟨w.heap.size + 1, 5, none⟩ (.slice p2 W.os.length q2)).setCell ⟨w.heap.size + 1, 6, none⟩ (.slice p3 W.gold.length q3)).setCell ⟨w.heap.size + 1, 7, none⟩ (.slice p4 W.us.length q4)).setCell ⟨w.heap.size + 1, 8, none⟩ (.slice p5 W.qs.length q5)) = w9 at *
  refine bodyPost_ret (v := .agg #[.int .i64 W.turn, .int .i64 W.next, .int .i64 W.wide, .int .i64 W.high, .slice p1 W.gs.length q1, .slice p2 W.os.length q2, .slice p3 W.gold.length q3, .slice p4 W.us.length q4, .slice p5 W.qs.length q5]) (by simp [results, Tryd.results18, go_sem, y0, y1, y2, y3, y4, y5, y6, y7, y8]) rfl ⟨_, rfl, ⟨_, _, _, _, _, rfl, ⟨(P1_5.out.kp KZ.out (by omega)).mono (by omega), (P2_5.out.kp KZ.out (by omega)).mono (by omega), (P3_5.out.kp KZ.out (by omega)).mono (by omega), (P4_5.out.kp KZ.out (by omega)).mono (by omega), (P5_5.out.kp KZ.out (by omega)).mono (by omega)⟩, D1_2.out, D1_3.out, D1_4.out, D1_5.out, D2_3.out, D2_4.out, D2_5.out, D3_4.out, D3_5.out, D4_5.out⟩, KZ.out.below B5.out B5.out.size (by omega)⟩
end Go.Proofs.YtaicnhkobhdehaaDoor

namespace Go.Proofs.YtaicnhkobhdehaaDoor.Fd

/-- what is wrong with a cell. -/
def cellFault (g o : Int) : Int := if g < 0 ∨ 3 < g ∨ o < 0 ∨ 1000000 < o then 1 else if 0 < o ∧ g ≠ 0 then 7 else 0
def cellsFault : List Int → List Int → Int
  | g :: gs, o :: os => if cellFault g o = 0 then cellsFault gs os else cellFault g o
  | _, _ => 0
/-- what is wrong with a field. -/
def fault (W H : Int) (gs os : List Int) : Int :=
  if W < 1 ∨ 12 < W ∨ H < 1 ∨ 12 < H then 1 else if (gs.length : Int) ≠ W * H ∨ (os.length : Int) ≠ W * H then 3 else cellsFault gs os

/-- a field with which nothing is wrong. -/
structure Good (W H : Nat) (gs os : List Int) : Prop where
  w1 : 1 ≤ W
  w2 : W ≤ 12
  h1 : 1 ≤ H
  h2 : H ≤ 12
  gl : gs.length = W * H
  ol : os.length = W * H
  cell : ∀ (i : Nat) g o, gs[i]? = some g → os[i]? = some o → 0 ≤ g ∧ g ≤ 3 ∧ 0 ≤ o ∧ o ≤ 1000000 ∧ (0 < o → g = 0)

theorem cellFault_zero {g o : Int} (h : cellFault g o = 0) : 0 ≤ g ∧ g ≤ 3 ∧ 0 ≤ o ∧ o ≤ 1000000 ∧ (0 < o → g = 0) := by
  unfold cellFault at h
  split at h
  · omega
  · split at h
    · omega
    · omega
theorem cellsFault_zero : ∀ (gs os : List Int), cellsFault gs os = 0 → ∀ (i : Nat) g o, gs[i]? = some g → os[i]? = some o → cellFault g o = 0
  | [], _, _, i, g, o, h1, _ => by simp at h1
  | _ :: _, [], _, i, g, o, _, h2 => by simp at h2
  | g0 :: gs, o0 :: os, h, i, g, o, h1, h2 => by
    unfold cellsFault at h
    split at h
    · rename_i hc
      cases i with
      | zero => simp at h1 h2; subst h1; subst h2; exact hc
      | succ i => exact cellsFault_zero gs os h i g o (by simpa using h1) (by simpa using h2)
    · rename_i hc
      exact absurd h hc
theorem cellsFault_range (gs os : List Int) : cellsFault gs os = 0 ∨ cellsFault gs os = 1 ∨ cellsFault gs os = 7 := by
  induction gs generalizing os with
  | nil => left; unfold cellsFault; rfl
  | cons g gs ih =>
    cases os with
    | nil => left; unfold cellsFault; rfl
    | cons o os =>
      unfold cellsFault
      split
      · exact ih os
      · unfold cellFault
        split
        · right; left; rfl
        · split
          · right; right; rfl
          · left; rfl
theorem fault_range (W H : Int) (gs os : List Int) : fault W H gs os = 0 ∨ fault W H gs os = 1 ∨ fault W H gs os = 3 ∨ fault W H gs os = 7 := by
  unfold fault
  split
  · omega
  · split
    · omega
    · have := cellsFault_range gs os; omega
theorem fault_zero {W H : Int} {gs os : List Int} (h : fault W H gs os = 0) : ∃ W' H' : Nat, W = W' ∧ H = H' ∧ Good W' H' gs os := by
  unfold fault at h
  split at h
  · omega
  · split at h
    · omega
    · rename_i h1 h2
      refine ⟨W.toNat, H.toNat, by omega, by omega, by omega, by omega, by omega, by omega, ?_, ?_, fun i g o hg ho => cellFault_zero (cellsFault_zero gs os h i g o hg ho)⟩
      · have e : ((W.toNat * H.toNat : Nat) : Int) = W * H := by rw [Int.natCast_mul, Int.toNat_of_nonneg (by omega), Int.toNat_of_nonneg (by omega)]
        omega
      · have e : ((W.toNat * H.toNat : Nat) : Int) = W * H := by rw [Int.natCast_mul, Int.toNat_of_nonneg (by omega), Int.toNat_of_nonneg (by omega)]
        omega
theorem cellFault_of {g o : Int} (h : 0 ≤ g ∧ g ≤ 3 ∧ 0 ≤ o ∧ o ≤ 1000000 ∧ (0 < o → g = 0)) : cellFault g o = 0 := by
  unfold cellFault
  rw [if_neg (by omega), if_neg (by omega)]
theorem cellsFault_of : ∀ (gs os : List Int), (∀ (i : Nat) g o, gs[i]? = some g → os[i]? = some o → cellFault g o = 0) → cellsFault gs os = 0
  | [], _, _ => by unfold cellsFault; rfl
  | _ :: _, [], _ => by unfold cellsFault; rfl
  | g :: gs, o :: os, h => by
    unfold cellsFault
    rw [if_pos (h 0 g o rfl rfl)]
    exact cellsFault_of gs os fun i g' o' h1 h2 => h (i + 1) g' o' (by simpa using h1) (by simpa using h2)
theorem fault_good {W H : Nat} {gs os : List Int} (h : Good W H gs os) : fault W H gs os = 0 := by
  have e : ((W * H : Nat) : Int) = (W : Int) * H := Int.natCast_mul _ _
  have := h.gl; have := h.ol; have := h.w1; have := h.w2; have := h.h1; have := h.h2
  unfold fault
  rw [if_neg (by omega), if_neg (by omega)]
  exact cellsFault_of gs os fun i g o h1 h2 => cellFault_of (h.cell i g o h1 h2)
theorem Good.pos {W H : Nat} {gs os : List Int} (h : Good W H gs os) : 1 ≤ W * H ∧ W * H ≤ 144 := by
  have h1 := Nat.mul_le_mul h.w1 h.h1
  have h2 := Nat.mul_le_mul h.w2 h.h2
  omega
theorem cellsFault_drop (gs os : List Int) (k : Nat) (g o : Int) (hg : gs[k]? = some g) (ho : os[k]? = some o) :
    cellsFault (gs.drop k) (os.drop k) = if cellFault g o = 0 then cellsFault (gs.drop (k + 1)) (os.drop (k + 1)) else cellFault g o := by
  obtain ⟨h1, e1⟩ := List.getElem?_eq_some_iff.1 hg
  obtain ⟨h2, e2⟩ := List.getElem?_eq_some_iff.1 ho
  rw [List.drop_eq_getElem_cons h1, List.drop_eq_getElem_cons h2, e1, e2]
  rfl

/-- the fault of a cell's number. -/
def askFault (F : Int) (n : Nat) (xs : List Int) : Int := if F ≠ 0 then F else if xs.all (fun x => decide (0 ≤ x ∧ x < n)) then 0 else 6

/-- the cells beside one. -/
def near (W H a : Nat) : List Int :=
  (if 0 < a / W then [(a : Int) - W] else []) ++ ((if 0 < a % W then [(a : Int) - 1] else []) ++ ((if a % W + 1 < W then [(a : Int) + 1] else []) ++ (if a / W + 1 < H then [(a : Int) + W] else [])))

/-- how far it is onto a ground. -/
def onto (g : Int) (flies : Bool) : Int := if g = 1 then 0 else if g = 2 then (if flies then 1 else 0) else if g = 3 then (if flies then 1 else 2) else 1
end Go.Proofs.YtaicnhkobhdehaaDoor.Fd

namespace Go.Proofs.YtaicnhkobhdehaaDoor.Tx

/-- a text at each byte c. -/
def cut (c : UInt8) : List UInt8 → List (List UInt8)
  | [] => [[]]
  | b :: r => if b = c then [] :: cut c r else match cut c r with
    | [] => [[b]]
    | w :: ws => (b :: w) :: ws
/-- and back. -/
def join (c : UInt8) : List (List UInt8) → List UInt8
  | [] => []
  | [w] => w
  | w :: v :: ws => w ++ c :: join c (v :: ws)

theorem cut_ne (c : UInt8) (l : List UInt8) : cut c l ≠ [] := by
  cases l with
  | nil => simp [cut]
  | cons b r =>
    unfold cut
    split
    · simp
    · split <;> simp
theorem join_cons {c : UInt8} {w : List UInt8} {ws : List (List UInt8)} (h : ws ≠ []) : join c (w :: ws) = w ++ c :: join c ws := by
  cases ws with
  | nil => exact absurd rfl h
  | cons v ws => rfl
theorem join_cut (c : UInt8) (l : List UInt8) : join c (cut c l) = l := by
  induction l with
  | nil => rfl
  | cons b r ih =>
    unfold cut
    split
    · rename_i h
      rw [join_cons (cut_ne c r), ih, h]
      rfl
    · cases hw : cut c r with
      | nil => exact absurd hw (cut_ne c r)
      | cons w ws =>
        rw [hw] at ih
        cases ws with
        | nil => rw [← ih]; rfl
        | cons v ws => rw [← ih]; rfl
/-- no word has the byte. -/
theorem cut_free (c : UInt8) (l : List UInt8) : ∀ w ∈ cut c l, c ∉ w := by
  induction l with
  | nil => intro w hw; simp [cut] at hw; subst hw; simp
  | cons b r ih =>
    intro w hw
    unfold cut at hw
    split at hw
    · rcases List.mem_cons.1 hw with rfl | hw
      · simp
      · exact ih w hw
    · rename_i hb
      cases hc : cut c r with
      | nil => exact absurd hc (cut_ne c r)
      | cons v vs =>
        rw [hc] at hw ih
        rcases List.mem_cons.1 hw with rfl | hw
        · intro h
          rcases List.mem_cons.1 h with h | h
          · exact hb h.symm
          · exact ih v (List.mem_cons_self ..) h
        · exact ih w (List.mem_cons_of_mem _ hw)
theorem cut_cons {c b : UInt8} {r w : List UInt8} {ws : List (List UInt8)} (h : b ≠ c) (hr : cut c r = w :: ws) : cut c (b :: r) = (b :: w) :: ws := by
  rw [cut, if_neg h, hr]
theorem cut_word {c : UInt8} {w : List UInt8} (h : c ∉ w) : cut c w = [w] := by
  induction w with
  | nil => rfl
  | cons b w ih =>
    rw [List.mem_cons, not_or] at h
    unfold cut
    rw [if_neg (fun e => h.1 e.symm), ih h.2]
theorem cut_app {c : UInt8} {w : List UInt8} (h : c ∉ w) (r : List UInt8) : cut c (w ++ c :: r) = w :: cut c r := by
  induction w with
  | nil => simp [cut]
  | cons b w ih =>
    rw [List.mem_cons, not_or] at h
    rw [List.cons_append, cut_cons (fun e => h.1 e.symm) (ih h.2)]
theorem cut_join {c : UInt8} : ∀ {ws : List (List UInt8)}, ws ≠ [] → (∀ w ∈ ws, c ∉ w) → cut c (join c ws) = ws
  | [], h, _ => absurd rfl h
  | [w], _, h => cut_word (h w (List.mem_cons_self ..))
  | w :: v :: ws, _, h => by
    rw [join_cons (by simp), cut_app (h w (List.mem_cons_self ..)), cut_join (by simp) (fun x hx => h x (List.mem_cons_of_mem _ hx))]

/-- a digit. -/
def isDig (b : UInt8) : Bool := decide (48 ≤ b.toNat) && decide (b.toNat ≤ 57)
/-- the digits of a number. -/
def dig (n : Nat) : List UInt8 := if n < 10 then [(48 + n).toUInt8] else dig (n / 10) ++ [(48 + n % 10).toUInt8]
termination_by n
/-- the number of some digits. -/
def val (l : List UInt8) : Nat := l.foldl (fun n b => n * 10 + (b.toNat - 48)) 0
/-- a whole number of at most so many digits, without a needless 0. -/
def whole (most : Nat) (l : List UInt8) : Option Nat := if l = [] ∨ most < l.length ∨ (l.head? = some 48 ∧ 1 < l.length) then none else if l.all isDig then some (val l) else none

theorem dig_small {n : Nat} (h : n < 10) : dig n = [(48 + n).toUInt8] := by rw [dig, if_pos h]
theorem dig_big {n : Nat} (h : ¬ n < 10) : dig n = dig (n / 10) ++ [(48 + n % 10).toUInt8] := by rw [dig, if_neg h]
theorem sign_nat {d : Nat} (h : d < 10) : ((48 + d).toUInt8).toNat = 48 + d := by
  show (48 + d) % 256 = 48 + d
  omega
theorem val_snoc (l : List UInt8) (b : UInt8) : val (l ++ [b]) = val l * 10 + (b.toNat - 48) := by
  unfold val
  rw [List.foldl_append]
  rfl
theorem dig_ne (n : Nat) : dig n ≠ [] := by
  rw [dig]
  split <;> simp
theorem dig_all (n : Nat) : (dig n).all isDig = true := by
  induction n using Nat.strongRecOn with
  | ind n ih =>
    by_cases h : n < 10
    · rw [dig_small h]
      simp [isDig]
      omega
    · rw [dig_big h, List.all_append, ih (n / 10) (by omega)]
      simp [isDig]
      omega
theorem val_dig (n : Nat) : val (dig n) = n := by
  induction n using Nat.strongRecOn with
  | ind n ih =>
    by_cases h : n < 10
    · rw [dig_small h]
      show 0 * 10 + (((48 + n).toUInt8).toNat - 48) = n
      rw [sign_nat h]
      omega
    · rw [dig_big h, val_snoc, ih (n / 10) (by omega), sign_nat (show n % 10 < 10 by omega)]
      omega
theorem dig_head (n : Nat) : (dig n).head? = some 48 → n = 0 := by
  induction n using Nat.strongRecOn with
  | ind n ih =>
    intro h
    by_cases hn : n < 10
    · rw [dig_small hn] at h
      simp only [List.head?_cons, Option.some.injEq] at h
      have h2 : ((48 + n).toUInt8).toNat = 48 := by rw [h]; rfl
      rw [sign_nat hn] at h2
      omega
    · rw [dig_big hn] at h
      cases hd : dig (n / 10) with
      | nil => exact absurd hd (dig_ne _)
      | cons b r =>
        rw [hd] at h
        have := ih (n / 10) (by omega) (by rw [hd]; simpa using h)
        omega
theorem dig_len {n : Nat} : ∀ {k : Nat}, 0 < k → n < 10 ^ k → (dig n).length ≤ k := by
  induction n using Nat.strongRecOn with
  | ind n ih =>
    intro k hk h
    by_cases hn : n < 10
    · rw [dig_small hn]
      simp
      omega
    · rw [dig_big hn, List.length_append]
      cases k with
      | zero => omega
      | succ k =>
        have hk0 : 0 < k := by
          rcases Nat.eq_zero_or_pos k with rfl | hp
          · simp at h; omega
          · exact hp
        have h2 : n / 10 < 10 ^ k := by
          rw [Nat.pow_succ] at h
          omega
        have := ih (n / 10) (by omega) hk0 h2
        simp
        omega
theorem whole_dig {n most : Nat} (h0 : 0 < most) (h : n < 10 ^ most) : whole most (dig n) = some n := by
  unfold whole
  rw [if_neg, if_pos (dig_all n), val_dig]
  rintro (h1 | h1 | ⟨h1, h2⟩)
  · exact dig_ne n h1
  · have := dig_len h0 h
    omega
  · have := dig_head n h1
    subst this
    rw [dig_small (by decide)] at h2
    simp at h2
theorem dig_val : ∀ (k : Nat) (l : List UInt8), l.length = k → l ≠ [] → ¬ (l.head? = some 48 ∧ 1 < l.length) → l.all isDig = true → dig (val l) = l := by
  intro k
  induction k with
  | zero => intro l h1 h2; exact absurd (List.length_eq_zero_iff.1 h1) h2
  | succ k ih =>
    intro l hl hne hz hd
    obtain ⟨r, b, rfl⟩ : ∃ r b, l = r ++ [b] := ⟨l.dropLast, l.getLast hne, (List.dropLast_concat_getLast hne).symm⟩
    have hb : isDig b = true := by
      rw [List.all_append] at hd
      simp at hd
      exact hd.2
    have hbn : 48 ≤ b.toNat ∧ b.toNat ≤ 57 := by
      unfold isDig at hb
      simpa using hb
    have back : ((48 + (b.toNat - 48)).toUInt8) = b := by
      rw [show 48 + (b.toNat - 48) = b.toNat by omega]
      simp
    rw [val_snoc]
    by_cases hr : r = []
    · subst hr
      rw [show val [] = 0 from rfl, Nat.zero_mul, Nat.zero_add, dig_small (by omega), back]
      rfl
    · have hrd : r.all isDig = true := by
        rw [List.all_append] at hd
        simp at hd
        rw [List.all_eq_true]
        exact hd.1
      have hrl : r.length = k := by simpa using hl
      have hhead : (r ++ [b]).head? = r.head? := by
        cases r with
        | nil => exact absurd rfl hr
        | cons a r => rfl
      have hr0 : 0 < r.length := List.length_pos_iff.2 hr
      have hz' : ¬ r.head? = some 48 := fun h => hz ⟨by rw [hhead]; exact h, by simp; omega⟩
      have hi := ih r hrl hr (fun h => hz' h.1) hrd
      have hv : val r ≠ 0 := by
        intro h
        rw [h, dig_small (by decide)] at hi
        rw [← hi] at hz'
        exact hz' rfl
      have e : (val r * 10 + (b.toNat - 48)) / 10 = val r := by omega
      have e2 : (val r * 10 + (b.toNat - 48)) % 10 = b.toNat - 48 := by omega
      rw [dig_big (by omega), e, e2, hi, back]
theorem dig_whole {most n : Nat} {l : List UInt8} (h : whole most l = some n) : dig n = l := by
  unfold whole at h
  split at h
  · cases h
  · rename_i hc
    rw [not_or, not_or] at hc
    split at h
    · rename_i hd
      injection h with h
      rw [← h]
      exact dig_val l.length l rfl hc.1 hc.2.2 hd
    · cases h
theorem whole_lt {most n : Nat} {l : List UInt8} (h : whole most l = some n) : l.length ≤ most := by
  unfold whole at h
  split at h
  · cases h
  · rename_i hc
    rw [not_or, not_or] at hc
    omega
theorem whole_ne {most n : Nat} {l : List UInt8} (h : whole most l = some n) : l ≠ [] := by
  rintro rfl
  simp [whole] at h
/-- digits are no blank and no end of a line. -/
theorem dig_free (n : Nat) (c : UInt8) (h : c.toNat < 48) : c ∉ dig n := by
  intro hm
  have := List.all_eq_true.1 (dig_all n) c hm
  unfold isDig at this
  simp at this
  omega
end Go.Proofs.YtaicnhkobhdehaaDoor.Tx

namespace Go.Proofs.YtaicnhkobhdehaaDoor.Kd
open Tx

/-- a kind: Life, Hit, Range, Sight, Speed, Price, Turns, Carry are its numbers. -/
structure K where
  name : List UInt8
  nums : List Int
  flies : Bool
  trains : Bool

def isLetter (b : UInt8) : Bool := decide (97 ≤ b.toNat) && decide (b.toNat ≤ 122)
def nameOk (l : List UInt8) : Bool := !l.isEmpty && (decide (l.length ≤ 8) && l.all isLetter)
def numsFault (ns : List Int) : Int := if ns.any (fun x => decide (x < 0 ∨ 1000 < x)) then 1 else if ns.getD 0 0 < 1 ∨ 4 < ns.getD 4 0 ∨ 12 < ns.getD 2 0 ∨ 12 < ns.getD 3 0 then 1 else 0
/-- what is wrong with one, those ahead being right. -/
def kindFault (ahead : List K) (k : K) : Int := if nameOk k.name then (if ahead.any (fun a => a.name == k.name) then 8 else numsFault k.nums) else 2
def kindsGo (ahead : List K) : List K → Int
  | [] => 0
  | k :: r => if kindFault ahead k = 0 then kindsGo (ahead ++ [k]) r else kindFault ahead k
/-- what is wrong with some. -/
def kindsFault (l : List K) : Int := if 8 < l.length then 4 else kindsGo [] l

def flag (b : Bool) (c : UInt8) : List UInt8 := if b then [c] else [45]
def words (k : K) : List (List UInt8) := k.name :: ((k.nums.map fun n => dig n.toNat) ++ [flag k.flies 102, flag k.trains 116])
def kline (k : K) : List UInt8 := join 32 (words k)
def prt (l : List K) : List UInt8 := l.flatMap fun k => kline k ++ [10]

def unflag (c : UInt8) (w : List UInt8) : Option Bool := if w = [c] then some true else if w = [45] then some false else none
def wholes : List (List UInt8) → Option (List Int)
  | [] => some []
  | w :: r => match whole 4 w, wholes r with
    | some n, some ns => some ((n : Int) :: ns)
    | _, _ => none
/-- the kind of a line's words. -/
def kwords (ws : List (List UInt8)) : Option K := if ws.length = 11 then
    match wholes ((ws.drop 1).take 8), unflag 102 (ws.getD 9 []), unflag 116 (ws.getD 10 []) with
    | some ns, some f, some t => some ⟨ws.getD 0 [], ns, f, t⟩
    | _, _, _ => none
  else none
/-- the kinds of some lines; else the line, and the fault. -/
def kparse (acc : List K) : List (List UInt8) → (Nat × Int) ⊕ List K
  | [] => .inr acc
  | [w] => if w = [] then .inr acc else .inl (acc.length, 2)
  | w :: v :: r => match kwords (cut 32 w) with
    | none => .inl (acc.length, 2)
    | some k => if acc.length = 8 then .inl (acc.length, 4) else if kindFault acc k = 0 then kparse (acc ++ [k]) (v :: r) else .inl (acc.length, kindFault acc k)
def parse (s : List UInt8) : (Nat × Int) ⊕ List K := kparse [] (cut 10 s)

/-- the form of a kind whose numbers can be told. -/
structure Fit (k : K) : Prop where
  len : k.nums.length = 8
  low : ∀ n ∈ k.nums, 0 ≤ n ∧ n < 10000

theorem fault_fit {ahead : List K} {k : K} (h : kindFault ahead k = 0) (hl : k.nums.length = 8) : Fit k ∧ nameOk k.name = true := by
  unfold kindFault at h
  split at h
  · rename_i hn
    split at h
    · omega
    · refine ⟨⟨hl, fun n hm => ?_⟩, hn⟩
      unfold numsFault at h
      split at h
      · omega
      · rename_i hx
        rw [Bool.not_eq_true, List.any_eq_false] at hx
        have := hx n hm
        simp at this
        omega
  · omega
theorem name_free {l : List UInt8} (h : nameOk l = true) (c : UInt8) (hc : c.toNat < 97) : c ∉ l := by
  intro hm
  unfold nameOk at h
  simp only [Bool.and_eq_true, List.all_eq_true] at h
  have := h.2.2 c hm
  unfold isLetter at this
  simp at this
  omega
theorem flag_free (b : Bool) (c d : UInt8) (h1 : d ≠ c) (h2 : d ≠ 45) : d ∉ flag b c := by
  unfold flag
  split
  · simpa using h1
  · simpa using h2
theorem words_free {k : K} (hn : nameOk k.name = true) (c : UInt8) (hc : c.toNat < 45) : ∀ w ∈ words k, c ∉ w := by
  intro w hw
  have h102 : c ≠ 102 := by rintro rfl; revert hc; decide
  have h116 : c ≠ 116 := by rintro rfl; revert hc; decide
  have h45 : c ≠ 45 := by rintro rfl; revert hc; decide
  unfold words at hw
  simp only [List.mem_cons, List.mem_append, List.mem_map, List.not_mem_nil, or_false] at hw
  rcases hw with rfl | ⟨n, _, rfl⟩ | rfl | rfl
  · exact name_free hn c (by omega)
  · exact dig_free _ c (by omega)
  · exact flag_free _ _ _ h102 h45
  · exact flag_free _ _ _ h116 h45
theorem mem_join {c d : UInt8} : ∀ {ws : List (List UInt8)}, d ∈ join c ws → d = c ∨ ∃ w ∈ ws, d ∈ w
  | [], h => by simp [join] at h
  | [w], h => .inr ⟨w, List.mem_cons_self .., h⟩
  | w :: v :: ws, h => by
    rw [join_cons (by simp), List.mem_append, List.mem_cons] at h
    rcases h with h | h | h
    · exact .inr ⟨w, List.mem_cons_self .., h⟩
    · exact .inl h
    · rcases mem_join h with h | ⟨x, hx, hd⟩
      · exact .inl h
      · exact .inr ⟨x, List.mem_cons_of_mem _ hx, hd⟩
theorem kline_free {k : K} (hn : nameOk k.name = true) : (10 : UInt8) ∉ kline k := by
  intro h
  rcases mem_join h with h | ⟨w, hw, hd⟩
  · revert h; decide
  · exact words_free hn 10 (by decide) w hw hd

theorem wholes_dig : ∀ {ns : List Int}, (∀ n ∈ ns, 0 ≤ n ∧ n < 10000) → wholes (ns.map fun n => dig n.toNat) = some ns
  | [], _ => rfl
  | n :: ns, h => by
    have h1 := h n (List.mem_cons_self ..)
    have e : whole 4 (dig n.toNat) = some n.toNat := whole_dig (by decide) (by show n.toNat < 10000; omega)
    have e2 := wholes_dig (ns := ns) (fun x hx => h x (List.mem_cons_of_mem _ hx))
    rw [List.map_cons, wholes, e, e2]
    simp
    omega
theorem wholes_back : ∀ {ws : List (List UInt8)} {ns : List Int}, wholes ws = some ns → (ns.map fun n => dig n.toNat) = ws ∧ ∀ n ∈ ns, 0 ≤ n
  | [], ns, h => by
    simp [wholes] at h
    subst h
    simp
  | w :: r, ns, h => by
    unfold wholes at h
    split at h
    · rename_i n ns' h1 h2
      injection h with h
      subst h
      obtain ⟨a1, a2⟩ := wholes_back h2
      refine ⟨?_, ?_⟩
      · rw [List.map_cons, a1, Int.toNat_natCast, dig_whole h1]
      · intro x hx
        rcases List.mem_cons.1 hx with rfl | hx
        · omega
        · exact a2 x hx
    · cases h
theorem unflag_flag (b : Bool) (c : UInt8) (h : c ≠ 45) : unflag c (flag b c) = some b := by
  unfold unflag flag
  cases b
  · have : ¬ ([45] : List UInt8) = [c] := by simp; exact fun e => h e.symm
    simp [this]
  · simp
theorem unflag_back {c : UInt8} {w : List UInt8} {b : Bool} (h : unflag c w = some b) : flag b c = w := by
  unfold unflag at h
  split at h
  · rename_i hw
    injection h with h
    subst h
    rw [hw]
    rfl
  · split at h
    · rename_i hw
      injection h with h
      subst h
      rw [hw]
      rfl
    · cases h
theorem kwords_words {k : K} (hf : Fit k) : kwords (words k) = some k := by
  obtain ⟨name, nums, f, t⟩ := k
  have hl : nums.length = 8 := hf.len
  have e1 : ((words ⟨name, nums, f, t⟩).drop 1).take 8 = nums.map fun n => dig n.toNat := by
    show ((nums.map fun n => dig n.toNat) ++ [flag f 102, flag t 116]).take 8 = _
    rw [List.take_left' (by rw [List.length_map]; exact hl)]
  have e2 : (words ⟨name, nums, f, t⟩).getD 9 [] = flag f 102 := by
    show (name :: ((nums.map fun n => dig n.toNat) ++ [flag f 102, flag t 116])).getD 9 [] = _
    rw [List.getD_cons_succ, List.getD_eq_getElem?_getD, List.getElem?_append_right (by rw [List.length_map]; omega), List.length_map, hl]
    rfl
  have e3 : (words ⟨name, nums, f, t⟩).getD 10 [] = flag t 116 := by
    show (name :: ((nums.map fun n => dig n.toNat) ++ [flag f 102, flag t 116])).getD 10 [] = _
    rw [List.getD_cons_succ, List.getD_eq_getElem?_getD, List.getElem?_append_right (by rw [List.length_map]; omega), List.length_map, hl]
    rfl
  unfold kwords
  rw [if_pos (by simp [words, hl]), e1, e2, e3, wholes_dig hf.low, unflag_flag f 102 (by decide), unflag_flag t 116 (by decide)]
  rfl
theorem list11 {ws : List (List UInt8)} (h : ws.length = 11) : ws = ws.getD 0 [] :: ((ws.drop 1).take 8 ++ [ws.getD 9 [], ws.getD 10 []]) := by
  match ws, h with
  | [w0, w1, w2, w3, w4, w5, w6, w7, w8, w9, w10], _ => rfl
theorem words_kwords {ws : List (List UInt8)} {k : K} (h : kwords ws = some k) : words k = ws ∧ k.nums.length = 8 := by
  unfold kwords at h
  split at h
  · rename_i hl
    split at h
    · rename_i ns f t h1 h2 h3
      injection h with h
      subst h
      have a := wholes_back h1
      refine ⟨?_, ?_⟩
      · unfold words
        rw [a.1, unflag_back h2, unflag_back h3]
        exact (list11 hl).symm
      · show ns.length = 8
        have := congrArg List.length a.1
        rw [List.length_map, List.length_take, List.length_drop] at this
        omega
    · cases h
  · cases h

theorem cut_prt : ∀ {l : List K}, (∀ k ∈ l, nameOk k.name = true) → cut 10 (prt l) = l.map kline ++ [[]]
  | [], _ => rfl
  | k :: l, h => by
    show cut 10 ((kline k ++ [10]) ++ prt l) = _
    rw [List.append_assoc]
    show cut 10 (kline k ++ 10 :: prt l) = _
    rw [cut_app (kline_free (h k (List.mem_cons_self ..))), cut_prt (fun x hx => h x (List.mem_cons_of_mem _ hx))]
    rfl
theorem kindsGo_all : ∀ {l acc : List K}, kindsGo acc l = 0 → (∀ k ∈ l, k.nums.length = 8) → ∀ k ∈ l, Fit k ∧ nameOk k.name = true
  | [], _, _, _, k, hk => by simp at hk
  | x :: l, acc, h, hl, k, hk => by
    unfold kindsGo at h
    split at h
    · rename_i h0
      rcases List.mem_cons.1 hk with rfl | hk
      · exact fault_fit h0 (hl k (List.mem_cons_self ..))
      · exact kindsGo_all h (fun y hy => hl y (List.mem_cons_of_mem _ hy)) k hk
    · rename_i h0
      exact absurd h h0
theorem kparse_lines : ∀ {l acc : List K}, kindsGo acc l = 0 → (∀ k ∈ l, k.nums.length = 8) → acc.length + l.length ≤ 8 → kparse acc (l.map kline ++ [[]]) = .inr (acc ++ l)
  | [], acc, _, _, _ => by simp [kparse]
  | k :: l, acc, h, hl, hn => by
    unfold kindsGo at h
    split at h
    · rename_i h0
      have hk := fault_fit h0 (hl k (List.mem_cons_self ..))
      have e : cut 32 (kline k) = words k := cut_join (by simp [words]) (words_free hk.2 32 (by decide))
      have ih := kparse_lines (l := l) (acc := acc ++ [k]) h (fun y hy => hl y (List.mem_cons_of_mem _ hy)) (by simp at hn ⊢; omega)
      simp only [List.length_cons] at hn
      cases l with
      | nil =>
        show kparse acc [kline k, []] = _
        rw [kparse, e, kwords_words hk.1]
        simp only
        rw [if_neg (by simp at hn; omega), if_pos h0]
        simpa using ih
      | cons k2 l =>
        show kparse acc (kline k :: kline k2 :: (l.map kline ++ [[]])) = _
        rw [kparse, e, kwords_words hk.1]
        simp only
        rw [if_neg (by simp at hn; omega), if_pos h0]
        simpa using ih
    · rename_i h0
      exact absurd h h0
/-- what is printed is read as it was. -/
theorem parse_prt {l : List K} (h : kindsFault l = 0) (hl : ∀ k ∈ l, k.nums.length = 8) : parse (prt l) = .inr l := by
  unfold kindsFault at h
  split at h
  · omega
  · have a := kindsGo_all h hl
    unfold parse
    rw [cut_prt (fun k hk => (a k hk).2), kparse_lines h hl (by simp; omega)]
    rfl
theorem prt_lines : ∀ {ls : List (List UInt8)} {acc l : List K}, ls ≠ [] → kparse acc ls = .inr l → acc.length ≤ 8 → ∃ l', l = acc ++ l' ∧ prt l' = join 10 ls ∧ kindsGo acc l' = 0 ∧ l.length ≤ 8 ∧ ∀ k ∈ l', k.nums.length = 8
  | [], _, _, h, _, _ => absurd rfl h
  | [w], acc, l, _, h, ha => by
    unfold kparse at h
    split at h
    · rename_i hw
      injection h with h
      subst h
      subst hw
      exact ⟨[], by simp, rfl, rfl, ha, by simp⟩
    · cases h
  | w :: v :: r, acc, l, _, h, ha => by
    unfold kparse at h
    split at h
    · cases h
    · rename_i k hk
      split at h
      · cases h
      · rename_i h8
        split at h
        · rename_i h0
          obtain ⟨l', e1, e2, e3, e4, e5⟩ := prt_lines (by simp) h (by simp; omega)
          have a := words_kwords hk
          refine ⟨k :: l', by rw [e1]; simp, ?_, ?_, e4, ?_⟩
          · show (kline k ++ [10]) ++ prt l' = _
            rw [join_cons (by simp), e2, show kline k = w by unfold kline; rw [a.1, join_cut]]
            simp
          · unfold kindsGo
            rw [if_pos h0]
            exact e3
          · intro x hx
            rcases List.mem_cons.1 hx with rfl | hx
            · exact a.2
            · exact e5 x hx
        · cases h
/-- what any text is read as is printed as that text. -/
theorem prt_parse {s : List UInt8} {l : List K} (h : parse s = .inr l) : prt l = s ∧ kindsFault l = 0 ∧ ∀ k ∈ l, k.nums.length = 8 := by
  unfold parse at h
  obtain ⟨l', e1, e2, e3, e4, e5⟩ := prt_lines (cut_ne 10 s) h (by simp)
  rw [List.nil_append] at e1
  subst e1
  refine ⟨by rw [e2, join_cut], ?_, e5⟩
  unfold kindsFault
  rw [if_neg (by omega)]
  exact e3
end Go.Proofs.YtaicnhkobhdehaaDoor.Kd

namespace Go.Proofs.YtaicnhkobhdehaaDoor
open Go.RowKit
set_option linter.unusedVariables false

/-- a kind as memory has it. -/
structure KV where
  b : ByteArray
  n0 : Int
  n1 : Int
  n2 : Int
  n3 : Int
  n4 : Int
  n5 : Int
  n6 : Int
  n7 : Int
  f : Bool
  t : Bool
def KV.k (k : KV) : Kd.K := ⟨k.b.data.toList, [k.n0, k.n1, k.n2, k.n3, k.n4, k.n5, k.n6, k.n7], k.f, k.t⟩
def KV.val (k : KV) : Value := .agg #[.string k.b, .int .i64 k.n0, .int .i64 k.n1, .int .i64 k.n2, .int .i64 k.n3, .int .i64 k.n4, .int .i64 k.n5, .int .i64 k.n6, .int .i64 k.n7, .bool k.f, .bool k.t]
/-- its cells, from an address on. -/
structure Kc (w : World) (y : Addr) (k : KV) : Prop where
  c0 : w.cell? y = some (.string k.b)
  c1 : w.cell? ⟨y.block, y.off + 1, none⟩ = some (.int .i64 k.n0)
  c2 : w.cell? ⟨y.block, y.off + 2, none⟩ = some (.int .i64 k.n1)
  c3 : w.cell? ⟨y.block, y.off + 3, none⟩ = some (.int .i64 k.n2)
  c4 : w.cell? ⟨y.block, y.off + 4, none⟩ = some (.int .i64 k.n3)
  c5 : w.cell? ⟨y.block, y.off + 5, none⟩ = some (.int .i64 k.n4)
  c6 : w.cell? ⟨y.block, y.off + 6, none⟩ = some (.int .i64 k.n5)
  c7 : w.cell? ⟨y.block, y.off + 7, none⟩ = some (.int .i64 k.n6)
  c8 : w.cell? ⟨y.block, y.off + 8, none⟩ = some (.int .i64 k.n7)
  c9 : w.cell? ⟨y.block, y.off + 9, none⟩ = some (.bool k.f)
  c10 : w.cell? ⟨y.block, y.off + 10, none⟩ = some (.bool k.t)
theorem Kc.lt {w : World} {y : Addr} {k : KV} (h : Kc w y k) : y.block < w.heap.size := cell_lt h.c0
theorem Kc.below {w w' : World} {y : Addr} {k : KV} {B : Nat} (h : Kc w y k) (hb : Below B w w') (hy : y.block < B) : Kc w' y k :=
  ⟨by rw [hb.cell (p := y) hy]; exact h.c0, by rw [hb.cell (p := ⟨y.block, y.off + 1, none⟩) hy]; exact h.c1, by rw [hb.cell (p := ⟨y.block, y.off + 2, none⟩) hy]; exact h.c2, by rw [hb.cell (p := ⟨y.block, y.off + 3, none⟩) hy]; exact h.c3, by rw [hb.cell (p := ⟨y.block, y.off + 4, none⟩) hy]; exact h.c4, by rw [hb.cell (p := ⟨y.block, y.off + 5, none⟩) hy]; exact h.c5, by rw [hb.cell (p := ⟨y.block, y.off + 6, none⟩) hy]; exact h.c6, by rw [hb.cell (p := ⟨y.block, y.off + 7, none⟩) hy]; exact h.c7, by rw [hb.cell (p := ⟨y.block, y.off + 8, none⟩) hy]; exact h.c8, by rw [hb.cell (p := ⟨y.block, y.off + 9, none⟩) hy]; exact h.c9, by rw [hb.cell (p := ⟨y.block, y.off + 10, none⟩) hy]; exact h.c10⟩
/-- v is a slice of the kinds ks. -/
def Kl (w : World) (v : Value) (ks : List KV) : Prop := ∃ a c, v = .slice a ks.length c ∧ ks.length ≤ c ∧ c ≤ 9223372036854775807 ∧ (ks ≠ [] → ∃ x, a = some x ∧ x.block < w.heap.size ∧ ∀ (i : Nat) k, ks[i]? = some k → Kc w (x.add (i * 11)) k)
theorem Kl.below {w w' : World} {v : Value} {ks : List KV} (h : Kl w v ks) (hb : Below w.heap.size w w') : Kl w' v ks := by
  obtain ⟨a, c, h1, h2, h3, h4⟩ := h
  refine ⟨a, c, h1, h2, h3, fun hn => ?_⟩
  obtain ⟨x, e, hx, hk⟩ := h4 hn
  exact ⟨x, e, Nat.lt_of_lt_of_le hx hb.size, fun i k hi => (hk i k hi).below hb (by rw [add_block]; exact hx)⟩

theorem Kc.mk' {w : World} {z : Nat} (k : KV) (hz : w.heap.size = z) : Kc (w.alloc (.cells #[.string k.b, .int .i64 k.n0, .int .i64 k.n1, .int .i64 k.n2, .int .i64 k.n3, .int .i64 k.n4, .int .i64 k.n5, .int .i64 k.n6, .int .i64 k.n7, .bool k.f, .bool k.t] 41)) ⟨z, 0, none⟩ k := by
  subst hz
  constructor <;> simp
end Go.Proofs.YtaicnhkobhdehaaDoor

namespace Go.Proofs.YtaicnhkobhdehaaDoor
set_option linter.unusedVariables false
namespace Wd

/-- not from least to 1000000. -/
def off (least n : Int) : Bool := !decide (least ≤ n ∧ n ≤ 1000000)
def numsBad (W : WV) : Bool := off 0 W.turn || (off 1 W.next || (!decide (1 ≤ (W.gold.length : Int) ∧ (W.gold.length : Int) ≤ 4) || W.gold.any (off 0)))
def has (n : Nat) (i : Int) : Bool := decide (0 ≤ i ∧ i < (n : Int))
/-- one who goes, or flies, may stand there. -/
def open_ (gs : List Int) (ahead : List UnV) (at_ : Int) (fl : Bool) : Bool := decide (0 < Fd.onto (gs.getD at_.toNat 0) fl) && !ahead.any (fun u => u.at_ == at_)
/-- what is wrong with the i-th unit, as far as its kind does not matter; as far as it does. -/
def kindPart (W : WV) (ahead : List UnV) (u : UnV) (k : KV) : Int :=
  if !decide (1 ≤ u.life ∧ u.life ≤ k.n0) || (!decide (0 ≤ u.load ∧ u.load ≤ k.n7) || !decide (0 ≤ u.task ∧ u.task ≤ 2)) then 1
  else if !has W.gs.length u.at_ || !has W.gs.length u.goal then 6
  else if !open_ W.gs ahead u.at_ k.f || (u.goal != 0 && u.task == 0) then 7 else 0
def notAbove (us : List UnV) (i : Nat) (u : UnV) : Bool := match i with
  | 0 => false
  | j + 1 => match us[j]? with
    | none => false
    | some x => decide (u.id ≤ x.id)
def unitFault (ks : List KV) (W : WV) (i : Nat) (u : UnV) : Int :=
  if !decide (1 ≤ u.id ∧ u.id ≤ W.next - 1) then 1
  else if notAbove W.us i u then 5
  else if !has W.gold.length u.player || !has ks.length u.kind then 1
  else match ks[u.kind.toNat]? with
    | none => 1
    | some k => kindPart W (W.us.take i) u k
def unitsGo (ks : List KV) (W : WV) (i : Nat) : List UnV → Int
  | [] => 0
  | u :: r => if unitFault ks W i u = 0 then unitsGo ks W (i + 1) r else unitFault ks W i u
def jobFault (ks : List KV) (W : WV) (j : JbV) : Int := match W.us.find? (fun u => u.id == j.unit) with
  | none => 6
  | some u => match ks[u.kind.toNat]? with
    | none => 7
    | some k => if u.player != j.player || !k.t then 7 else if !has ks.length j.kind || !decide (1 ≤ j.left ∧ j.left ≤ 1000) then 1 else 0
def jobsGo (ks : List KV) (W : WV) : List JbV → Int
  | [] => 0
  | j :: r => if jobFault ks W j = 0 then jobsGo ks W r else jobFault ks W j
def ground (ks : List KV) (W : WV) : Int := if Kd.kindsFault (ks.map KV.k) = 0 then Fd.fault W.wide W.high W.gs W.os else Kd.kindsFault (ks.map KV.k)
/-- what is wrong with a world. -/
def wfault (ks : List KV) (W : WV) : Int :=
  if ground ks W ≠ 0 then ground ks W
  else if numsBad W then 1
  else if 40 < W.us.length then 4
  else if unitsGo ks W 0 W.us ≠ 0 then unitsGo ks W 0 W.us
  else if 12 < W.qs.length then 4
  else jobsGo ks W W.qs
theorem unitsGo_at {ks : List KV} {W : WV} {i : Nat} {u : UnV} (h : W.us[i]? = some u) : unitsGo ks W i (W.us.drop i) = if unitFault ks W i u = 0 then unitsGo ks W (i + 1) (W.us.drop (i + 1)) else unitFault ks W i u := by
  obtain ⟨hi, e⟩ := List.getElem?_eq_some_iff.1 h
  rw [List.drop_eq_getElem_cons hi, e]
  rfl
theorem jobsGo_at {ks : List KV} {W : WV} {i : Nat} {j : JbV} (h : W.qs[i]? = some j) : jobsGo ks W (W.qs.drop i) = if jobFault ks W j = 0 then jobsGo ks W (W.qs.drop (i + 1)) else jobFault ks W j := by
  obtain ⟨hi, e⟩ := List.getElem?_eq_some_iff.1 h
  rw [List.drop_eq_getElem_cons hi, e]
  rfl
end Wd
end Go.Proofs.YtaicnhkobhdehaaDoor

namespace Go.Proofs.YtaicnhkobhdehaaDoor
open Go.RowKit
set_option linter.unusedVariables false

/-- r is where the first is; -1: there is none. -/
def FstU (p : UnV → Bool) (ks : List UnV) (r : Int) : Prop := (r = -1 ∧ ks.any p = false) ∨ ∃ (k : Nat) (x : UnV), r = k ∧ ks[k]? = some x ∧ p x = true ∧ (ks.take k).any p = false
theorem anyu_next {p : UnV → Bool} {ks : List UnV} {k : Nat} {x : UnV} (h : ks[k]? = some x) : (ks.take (k + 1)).any p = ((ks.take k).any p || p x) := by
  obtain ⟨hi, e⟩ := List.getElem?_eq_some_iff.1 h
  rw [List.take_succ_eq_append_getElem hi, List.any_append, e]
  simp

set_option maxHeartbeats 2000000 in
theorem idxu_any (K : Nat) (eK : ∀ args w, (callFunc K args).run Tryd.prog w = .ok (.enter K args) w) (u : Value) (cs : Array Value) (ks : List UnV) (p : UnV → Bool) (w : World) (hu : Unl w u ks)
    (hp : ∀ W, Below w.heap.size w W → ∀ k : UnV, Calls Tryd.prog K (#[k.val] ++ cs) W fun e w' => e = .returned (.bool (p k)) ∧ Below W.heap.size W w') :
    Calls Tryd.prog 62 #[u, .func (Fn.func K) #[] cs] w fun e w' => ∃ r : Int, e = .returned (.int .i64 r) ∧ FstU p ks r ∧ Below w.heap.size w w' := by
  obtain ⟨a, c, rfl, c1, c2, ca⟩ := hu
  have Ca : Hid (ks ≠ [] → ∃ x, a = some x ∧ x.block < w.heap.size ∧ ∀ (i : Nat) k, ks[i]? = some k → Unc w (x.add (i * 8)) k) := ca
  have Hp : Hid (∀ W, Below w.heap.size w W → ∀ k : UnV, Calls Tryd.prog K (#[k.val] ++ cs) W fun e w' => e = .returned (.bool (p k)) ∧ Below W.heap.size W w') := hp
  clear ca hp
  go_enter Tryd.func62, Tryd.ntmps62
  go_wp2
  go_loopw [8] (fun i W' => ∃ k : Nat, k ≤ ks.length ∧ i = .int .i64 (k : Nat) ∧ (ks.take k).any p = false ∧ Below w.heap.size w W') (fun i _ => ks.length - (intOf i).toNat)
  case atStart => exact ⟨0, Nat.zero_le _, rfl, by simp, Below.refl _ _⟩
  case round =>
    obtain ⟨k, hk, rfl, ht, hb⟩ := hrel
    have Ht : Hid ((ks.take k).any p = false) := ht
    have B : Hid (Below w.heap.size w wr) := hb
    clear ht hb
    by_cases h0 : k = ks.length
    · subst h0
      go_wp2
      go_ret
      refine ⟨_, rfl, .inl ⟨rfl, ?_⟩, B⟩
      have := Ht.out
      rw [List.take_of_length_le (Nat.le_refl _)] at this
      exact this
    · have hkx : k < ks.length := by omega
      obtain ⟨x, rfl, hx1, hx⟩ := Ca.out (by intro h; rw [h] at hkx; simp at hkx)
      obtain ⟨y, hy⟩ : ∃ y, ks[k]? = some y := ⟨_, List.getElem?_eq_getElem hkx⟩
      have Yc := (hx k y hy).below B.out (by rw [add_block]; exact hx1)
      obtain ⟨q0, q1, q2, q3, q4, q5, q6, q7⟩ := Yc
      have hc := Hp.out wr B.out y
      have Hs : Hid _ := anyu_next (p := p) hy
      have Hm : Hid (ks[k]? = some y) := hy
      clear hx hx1 hy
      cases hy : p y with
      | true =>
        rw [hy] at hc
        have Hc : Hid (Calls Tryd.prog K (#[y.val] ++ cs) wr fun e w' => e = .returned (.bool true) ∧ Below wr.heap.size wr w') := hc
        have Hy : Hid (p y = true) := hy
        clear hc hy
        go_wp2_with fail
        refine Calls.mono Hc.out ?_
        rintro e w1 ⟨rfl, b1⟩
        have B1 : Hid (Below w.heap.size w w1) := B.out.trans (b1.mono B.out.size)
        clear b1
        go_wp2
        go_ret
        exact ⟨_, rfl, .inr ⟨k, y, rfl, Hm, Hy, Ht⟩, B1⟩
      | false =>
        rw [hy] at hc
        have Hc : Hid (Calls Tryd.prog K (#[y.val] ++ cs) wr fun e w' => e = .returned (.bool false) ∧ Below wr.heap.size wr w') := hc
        have Hy : Hid (p y = false) := hy
        clear hc hy
        go_wp2_with fail
        refine Calls.mono Hc.out ?_
        rintro e w1 ⟨rfl, b1⟩
        have B1 : Hid (Below w.heap.size w w1) := B.out.trans (b1.mono B.out.size)
        clear b1
        go_wp2
        go_round
        case rel => exact ⟨k + 1, by omega, by go_num, by have := Hs.out; rw [Ht.out, Hy.out] at this; exact this, B1⟩
        case measure => simp [intOf]; omega

theorem FstU.has {p : UnV → Bool} {xs : List UnV} {r : Int} (h : FstU p xs r) : decide (0 ≤ r) = xs.any p := by
  rcases h with ⟨rfl, h⟩ | ⟨k, x, rfl, h1, h2, _⟩
  · rw [h]; decide
  · rw [decide_eq_true (by omega)]
    exact (List.any_eq_true.2 ⟨x, List.mem_of_getElem? h1, h2⟩).symm

set_option maxHeartbeats 1000000 in
theorem hasu_any (K : Nat) (eK : ∀ args w, (callFunc K args).run Tryd.prog w = .ok (.enter K args) w) (u : Value) (cs : Array Value) (ks : List UnV) (p : UnV → Bool) (w : World) (hu : Unl w u ks)
    (hp : ∀ W, Below w.heap.size w W → ∀ k : UnV, Calls Tryd.prog K (#[k.val] ++ cs) W fun e w' => e = .returned (.bool (p k)) ∧ Below W.heap.size W w') :
    Calls Tryd.prog 54 #[u, .func (Fn.func K) #[] cs] w fun e w' => e = .returned (.bool (ks.any p)) ∧ Below w.heap.size w w' := by
  have H' : Hid (Calls Tryd.prog 62 #[u, .func (Fn.func K) #[] cs] w fun e w' => ∃ r : Int, e = .returned (.int .i64 r) ∧ FstU p ks r ∧ Below w.heap.size w w') := idxu_any K eK u cs ks p w hu hp
  clear hp
  go_enter Tryd.func54, Tryd.ntmps54
  go_wp2_with fail
  refine Calls.mono H'.out ?_
  rintro e w1 ⟨r, rfl, hr, q⟩
  have Hr : Hid (decide (0 ≤ r) = ks.any p) := hr.has
  have Q : Hid (Below w.heap.size w w1) := q
  clear hr q
  go_wp2
  go_ret
  exact ⟨by show Ending.returned (.bool (decide (0 ≤ r))) = _; rw [Hr.out], Q⟩
end Go.Proofs.YtaicnhkobhdehaaDoor

namespace Go.Proofs.YtaicnhkobhdehaaDoor
open Go.RowKit
set_option linter.unusedVariables false

theorem wwithin_any (x lo hi : Int) (w : World) : Calls Tryd.prog 16 #[.int .i64 x, .int .i64 lo, .int .i64 hi] w fun e w' => e = .returned (.bool (decide (lo ≤ x ∧ x ≤ hi))) ∧ w' = w := by
  by_cases h1 : lo ≤ x
  · by_cases h2 : x ≤ hi
    · go_enter Tryd.func16, Tryd.ntmps16
      go_wp2
      go_ret
      refine ⟨?_, rfl⟩
      rw [decide_eq_true ⟨h1, h2⟩]
      rfl
    · go_enter Tryd.func16, Tryd.ntmps16
      go_wp2
      go_ret
      refine ⟨?_, rfl⟩
      rw [decide_eq_false (by omega)]
      rfl
  · go_enter Tryd.func16, Tryd.ntmps16
    go_wp2
    go_ret
    refine ⟨?_, rfl⟩
    rw [decide_eq_false (by omega)]
    rfl
end Go.Proofs.YtaicnhkobhdehaaDoor

namespace Go.Proofs.YtaicnhkobhdehaaDoor
open Go.RowKit
set_option linter.unusedVariables false

theorem any_next {p : Int → Bool} {xs : List Int} {k : Nat} (h : k < xs.length) : (xs.take (k + 1)).any p = ((xs.take k).any p || p xs[k]) := by
  rw [List.take_succ_eq_append_getElem h, List.any_append]
  simp

/-- r is where the first is; -1: there is none. -/
def Fst (p : Int → Bool) (xs : List Int) (r : Int) : Prop := (r = -1 ∧ xs.any p = false) ∨ ∃ (k : Nat) (x : Int), r = k ∧ xs[k]? = some x ∧ p x = true ∧ (xs.take k).any p = false

set_option maxHeartbeats 1000000 in
theorem idxf_any (K : Nat) (eK : ∀ args w, (callFunc K args).run Tryd.prog w = .ok (.enter K args) w) (u : Value) (cs : Array Value) (xs : List Int) (p : Int → Bool) (w : World) (hu : Ro w u xs)
    (hp : ∀ m, ∀ x ∈ xs, Calls Tryd.prog K (#[.int .i64 x] ++ cs) (w.drewN m) fun e w' => e = .returned (.bool (p x)) ∧ ∃ q, w' = w.drewN q) :
    Calls Tryd.prog 61 #[u, .func (Fn.func K) #[] cs] w fun e w' => ∃ r : Int, e = .returned (.int .i64 r) ∧ Fst p xs r ∧ ∃ q, w' = w.drewN q := by
  obtain ⟨a, c, rfl, c1, c2, ca⟩ := hu
  have Ca : Hid (Cells w a xs) := ca
  have Hp : Hid (∀ m, ∀ x ∈ xs, Calls Tryd.prog K (#[.int .i64 x] ++ cs) (w.drewN m) fun e w' => e = .returned (.bool (p x)) ∧ ∃ q, w' = w.drewN q) := hp
  clear ca hp
  go_enter Tryd.func61, Tryd.ntmps61
  go_wp2
  go_loopw [8] (fun i W' => ∃ k q : Nat, k ≤ xs.length ∧ i = .int .i64 (k : Nat) ∧ (xs.take k).any p = false ∧ W' = w.drewN q) (fun i _ => xs.length - (intOf i).toNat)
  case atStart => exact ⟨0, 0, Nat.zero_le _, rfl, by simp, rfl⟩
  case round =>
    obtain ⟨k, q, hk, rfl, ht, rfl⟩ := hrel
    have Ht : Hid ((xs.take k).any p = false) := ht
    clear ht
    by_cases h0 : k = xs.length
    · subst h0
      go_wp2
      go_ret
      refine ⟨_, rfl, .inl ⟨rfl, ?_⟩, _, rfl⟩
      have := Ht.out
      rw [List.take_of_length_le (Nat.le_refl _)] at this
      exact this
    · have hkx : k < xs.length := by omega
      obtain ⟨x, rfl, -, hx⟩ := Ca.out (by intro h; rw [h] at hkx; simp at hkx)
      have cx : (w.drewN q).cell? (x.add k) = some (.int .i64 xs[k]) := hx k xs[k] (List.getElem?_eq_getElem hkx)
      have hc := Hp.out q xs[k] (List.getElem_mem hkx)
      have Hs : Hid _ := any_next (p := p) hkx
      have Hm : Hid (xs[k]? = some xs[k]) := List.getElem?_eq_getElem hkx
      generalize xs[k] = y at *
      generalize w.drewN q = w1 at *
      clear hx
      cases hy : p y with
      | true =>
        rw [hy] at hc
        have Hc : Hid (Calls Tryd.prog K (#[.int .i64 y] ++ cs) w1 fun e w' => e = .returned (.bool true) ∧ ∃ q, w' = w.drewN q) := hc
        have Hy : Hid (p y = true) := hy
        clear hc hy
        go_wp2_with fail
        refine Calls.mono Hc.out ?_
        rintro e w1 ⟨rfl, q1, rfl⟩
        go_wp2
        go_ret
        exact ⟨_, rfl, .inr ⟨k, y, rfl, Hm, Hy, Ht⟩, q1, rfl⟩
      | false =>
        rw [hy] at hc
        have Hc : Hid (Calls Tryd.prog K (#[.int .i64 y] ++ cs) w1 fun e w' => e = .returned (.bool false) ∧ ∃ q, w' = w.drewN q) := hc
        have Hy : Hid (p y = false) := hy
        clear hc hy
        go_wp2_with fail
        refine Calls.mono Hc.out ?_
        rintro e w1 ⟨rfl, q1, rfl⟩
        go_wp2
        go_round
        case rel => exact ⟨k + 1, q1, by omega, by go_num, by have := Hs.out; rw [Ht.out, Hy.out] at this; exact this, rfl⟩
        case measure => simp [intOf]; omega

theorem Fst.has {p : Int → Bool} {xs : List Int} {r : Int} (h : Fst p xs r) : decide (0 ≤ r) = xs.any p := by
  rcases h with ⟨rfl, h⟩ | ⟨k, x, rfl, h1, h2, _⟩
  · rw [h]; decide
  · rw [decide_eq_true (by omega)]
    exact (List.any_eq_true.2 ⟨x, List.mem_of_getElem? h1, h2⟩).symm

set_option maxHeartbeats 1000000 in
theorem hasf_any (K : Nat) (eK : ∀ args w, (callFunc K args).run Tryd.prog w = .ok (.enter K args) w) (u : Value) (cs : Array Value) (xs : List Int) (p : Int → Bool) (w : World) (hu : Ro w u xs)
    (hp : ∀ m, ∀ x ∈ xs, Calls Tryd.prog K (#[.int .i64 x] ++ cs) (w.drewN m) fun e w' => e = .returned (.bool (p x)) ∧ ∃ q, w' = w.drewN q) :
    Calls Tryd.prog 50 #[u, .func (Fn.func K) #[] cs] w fun e w' => e = .returned (.bool (xs.any p)) ∧ ∃ q, w' = w.drewN q := by
  have H := idxf_any K eK u cs xs p w hu hp
  have H' : Hid (Calls Tryd.prog 61 #[u, .func (Fn.func K) #[] cs] w fun e w' => ∃ r : Int, e = .returned (.int .i64 r) ∧ Fst p xs r ∧ ∃ q, w' = w.drewN q) := H
  clear H hp
  go_enter Tryd.func50, Tryd.ntmps50
  go_wp2_with fail
  refine Calls.mono H'.out ?_
  rintro e w1 ⟨r, rfl, hr, q, rfl⟩
  have Hr : Hid (decide (0 ≤ r) = xs.any p) := hr.has
  clear hr
  go_wp2
  go_ret
  exact ⟨by show Ending.returned (.bool (decide (0 ≤ r))) = _; rw [Hr.out], q, rfl⟩
end Go.Proofs.YtaicnhkobhdehaaDoor

namespace Go.Proofs.YtaicnhkobhdehaaDoor
open Go.RowKit
set_option linter.unusedVariables false

theorem FstU.one {p : UnV → Bool} {us : List UnV} {r r' : Int} (h : FstU p us r) (h' : FstU p us r') : r = r' := by
  rcases h with ⟨rfl, h1⟩ | ⟨k, x, rfl, h1, h2, h3⟩
  · rcases h' with ⟨rfl, _⟩ | ⟨k, x, rfl, g1, g2, g3⟩
    · rfl
    · have : us.any p = true := List.any_eq_true.2 ⟨x, List.mem_of_getElem? g1, g2⟩
      rw [h1] at this; cases this
  · rcases h' with ⟨rfl, g⟩ | ⟨k', x', rfl, g1, g2, g3⟩
    · have : us.any p = true := List.any_eq_true.2 ⟨x, List.mem_of_getElem? h1, h2⟩
      rw [g] at this; cases this
    · rcases Nat.lt_trichotomy k k' with hl | hl | hl
      · have : (us.take k').any p = true := List.any_eq_true.2 ⟨x, List.mem_of_getElem? (by rw [List.getElem?_take, if_pos hl]; exact h1), h2⟩
        rw [g3] at this; cases this
      · rw [hl]
      · have : (us.take k).any p = true := List.any_eq_true.2 ⟨x', List.mem_of_getElem? (by rw [List.getElem?_take, if_pos hl]; exact g1), g2⟩
        rw [h3] at this; cases this
set_option maxHeartbeats 1000000 in
theorem fid_any (u : UnV) (id : Int) (b : Nat) (w : World) (hc : w.cell? ⟨b, 0, none⟩ = some (.int .i64 id)) :
    Calls Tryd.prog 63 #[u.val, .pointer (some ⟨b, 0, none⟩)] w fun e w' => e = .returned (.bool (u.id == id)) ∧ Below w.heap.size w w' := by
  have hb : b < w.heap.size := cell_lt hc
  have hne : b ≠ w.heap.size := by omega
  unfold UnV.val
  go_enter Tryd.func63, Tryd.ntmps63
  go_wp2
  go_ret
  exact ⟨rfl, (Below.refl _ _).alloc (Nat.le_refl _) _⟩
set_option maxHeartbeats 1000000 in
theorem wfind_any (v : Value) (W : WV) (id : Int) (w : World) (h : Wl w v W) :
    Calls Tryd.prog 51 #[v, .int .i64 id] w fun e w' => ∃ r : Int, e = .returned (.int .i64 r) ∧ FstU (fun u => u.id == id) W.us r ∧ Below w.heap.size w w' := by
  have H : Hid (Wl w v W) := h
  obtain ⟨u1, u2, u3, u4, u5, rfl, -, -, -, h4, -⟩ := h
  have U : Hid (Unl w u4 W.us) := h4
  clear h4
  go_enter Tryd.func51, Tryd.ntmps51
  go_wp2_with fail
  have B0 : Hid (Below w.heap.size w ((w.alloc (Obj.cells #[.int .i64 W.turn, .int .i64 W.next, .int .i64 W.wide, .int .i64 W.high, u1, u2, u3, u4, u5] 29)).alloc (Obj.cells #[.int .i64 id] 3))) := ((Below.refl _ _).alloc (Nat.le_refl _) _).alloc (by simp) _
  have C0 : Hid (((w.alloc (Obj.cells #[.int .i64 W.turn, .int .i64 W.next, .int .i64 W.wide, .int .i64 W.high, u1, u2, u3, u4, u5] 29)).alloc (Obj.cells #[.int .i64 id] 3)).cell? ⟨w.heap.size + 1, 0, none⟩ = some (.int .i64 id)) := cell_of_new (by simp) rfl
  generalize ((w.alloc (Obj.cells #[.int .i64 W.turn, .int .i64 W.next, .int .i64 W.wide, .int .i64 W.high, u1, u2, u3, u4, u5] 29)).alloc (Obj.cells #[.int .i64 id] 3)) = w0 at *
  refine (idxu_any 63 (by intro args w; go_simp) u4 #[.pointer (some ⟨w.heap.size + 1, 0, none⟩)] W.us (fun u => u.id == id) w0 (U.out.below B0.out) (fun V hV k => fid_any k id (w.heap.size + 1) V (by rw [hV.cell (p := ⟨w.heap.size + 1, 0, none⟩) (cell_lt C0.out)]; exact C0.out))).mono ?_
  rintro e w1 ⟨r, rfl, hf, hb⟩
  have F : Hid (FstU (fun u => u.id == id) W.us r ∧ Below w.heap.size w w1) := ⟨hf, B0.out.trans (hb.mono B0.out.size)⟩
  clear hf hb
  go_wp2
  go_ret
  exact ⟨r, rfl, F.out.1, F.out.2⟩
set_option maxHeartbeats 1000000 in
theorem isone_ints (a : Option Addr) (n c : Nat) (i : Int) (w : World) (hn : n ≤ 9223372036854775807) :
    Calls Tryd.prog 37 #[.slice a n c, .int .i64 i] w fun e w' => e = .returned (.bool (decide (0 ≤ i ∧ i < (n : Int)))) ∧ w' = w := by
  have hw : IntKind.i64.wrap ((n : Int) - 1) = (n : Int) - 1 := by rw [IntKind.wrap_i64]; omega
  go_enter Tryd.func37, Tryd.ntmps37
  go_wp2_with fail
  refine (wwithin_any i 0 ((n : Int) - 1) w).mono ?_
  rintro e w1 ⟨rfl, rfl⟩
  have E : decide (0 ≤ i ∧ i ≤ (n : Int) - 1) = decide (0 ≤ i ∧ i < (n : Int)) := decide_eq_decide.2 ⟨fun h => by omega, fun h => by omega⟩
  rw [E]
  obtain ⟨b, hb⟩ : ∃ b, decide (0 ≤ i ∧ i < (n : Int)) = b := ⟨_, rfl⟩
  rw [hb]
  have HB : Hid (decide (0 ≤ i ∧ i < (n : Int)) = b) := hb
  clear hb E
  go_wp2
  go_ret
  exact ⟨by rw [HB.out]; rfl, rfl⟩
set_option maxHeartbeats 1000000 in
theorem isone_kinds (a : Option Addr) (n c : Nat) (i : Int) (w : World) (hn : n ≤ 9223372036854775807) :
    Calls Tryd.prog 38 #[.slice a n c, .int .i64 i] w fun e w' => e = .returned (.bool (decide (0 ≤ i ∧ i < (n : Int)))) ∧ w' = w := by
  have hw : IntKind.i64.wrap ((n : Int) - 1) = (n : Int) - 1 := by rw [IntKind.wrap_i64]; omega
  go_enter Tryd.func38, Tryd.ntmps38
  go_wp2_with fail
  refine (wwithin_any i 0 ((n : Int) - 1) w).mono ?_
  rintro e w1 ⟨rfl, rfl⟩
  have E : decide (0 ≤ i ∧ i ≤ (n : Int) - 1) = decide (0 ≤ i ∧ i < (n : Int)) := decide_eq_decide.2 ⟨fun h => by omega, fun h => by omega⟩
  rw [E]
  obtain ⟨b, hb⟩ : ∃ b, decide (0 ≤ i ∧ i < (n : Int)) = b := ⟨_, rfl⟩
  rw [hb]
  have HB : Hid (decide (0 ≤ i ∧ i < (n : Int)) = b) := hb
  clear hb E
  go_wp2
  go_ret
  exact ⟨by rw [HB.out]; rfl, rfl⟩
end Go.Proofs.YtaicnhkobhdehaaDoor

namespace Go.Proofs.YtaicnhkobhdehaaDoor

/-- v tells the fault n. -/
def Er (v : Value) (n : Int) : Prop := (n = 0 ∧ v = .nilIface) ∨ (n ≠ 0 ∧ v = .iface 51 (.int .i64 n))
theorem Er.nil : Er .nilIface 0 := .inl ⟨rfl, rfl⟩
theorem Er.no {n : Int} (h : n ≠ 0) : Er (.iface 51 (.int .i64 n)) n := .inr ⟨h, rfl⟩
end Go.Proofs.YtaicnhkobhdehaaDoor

namespace Go.Proofs.YtaicnhkobhdehaaDoor
open Go.RowKit

set_option maxHeartbeats 400000 in
theorem fin_any (x a b : Int) (w : World) :
    Calls Tryd.prog 41 #[.int .i64 x, .int .i64 a, .int .i64 b] w fun e w' => e = .returned (.bool (decide (a ≤ x ∧ x ≤ b))) ∧ w' = w := by
  by_cases h1 : a ≤ x
  · by_cases h2 : x ≤ b
    · go_enter Tryd.func41, Tryd.ntmps41
      go_wp2
      go_ret
      exact ⟨by simp [h1, h2], rfl⟩
    · go_enter Tryd.func41, Tryd.ntmps41
      go_wp2
      go_ret
      exact ⟨by simp; omega, rfl⟩
  · go_enter Tryd.func41, Tryd.ntmps41
    go_wp2
    go_ret
    exact ⟨by simp; omega, rfl⟩
theorem fin_yes (x a b : Int) (w : World) (h1 : a ≤ x) (h2 : x ≤ b) :
    Calls Tryd.prog 41 #[.int .i64 x, .int .i64 a, .int .i64 b] w fun e w' => e = .returned (.bool true) ∧ w' = w :=
  (fin_any x a b w).mono fun e w' ⟨h, hw⟩ => ⟨by rw [h, decide_eq_true ⟨h1, h2⟩], hw⟩
theorem fin_no (x a b : Int) (w : World) (h : x < a ∨ b < x) :
    Calls Tryd.prog 41 #[.int .i64 x, .int .i64 a, .int .i64 b] w fun e w' => e = .returned (.bool false) ∧ w' = w :=
  (fin_any x a b w).mono fun e w' ⟨h', hw⟩ => ⟨by rw [h', decide_eq_false (by omega)], hw⟩

set_option maxHeartbeats 400000 in
theorem cell_any (g o : Int) (w : World) :
    Calls Tryd.prog 42 #[.int .i64 g, .int .i64 o] w fun e w' => ∃ v, e = .returned v ∧ Er v (Fd.cellFault g o) ∧ w' = w := by
  unfold Fd.cellFault
  by_cases h1 : 0 ≤ g ∧ g ≤ 3
  · obtain ⟨h1a, h1b⟩ := h1
    by_cases h2 : 0 ≤ o ∧ o ≤ 1000000
    · obtain ⟨h2a, h2b⟩ := h2
      rw [if_neg (by omega)]
      by_cases h3 : 0 < o
      · by_cases h4 : g = 0
        · subst h4
          rw [if_neg (by omega)]
          go_enter Tryd.func42, Tryd.ntmps42
          go_wp2_with (go_at_call 41; refine (fin_yes _ _ _ _ (by omega) (by omega)).mono ?_; rintro e w' ⟨rfl, rfl⟩)
          go_ret
          exact ⟨_, rfl, Er.nil, rfl⟩
        · rw [if_pos ⟨h3, h4⟩]
          go_enter Tryd.func42, Tryd.ntmps42
          go_wp2_with (go_at_call 41; refine (fin_yes _ _ _ _ (by omega) (by omega)).mono ?_; rintro e w' ⟨rfl, rfl⟩)
          go_ret
          exact ⟨_, rfl, Er.no (by decide), rfl⟩
      · rw [if_neg (by omega)]
        go_enter Tryd.func42, Tryd.ntmps42
        go_wp2_with (go_at_call 41; refine (fin_yes _ _ _ _ (by omega) (by omega)).mono ?_; rintro e w' ⟨rfl, rfl⟩)
        go_ret
        exact ⟨_, rfl, Er.nil, rfl⟩
    · rw [if_pos (by omega)]
      have h2' : o < 0 ∨ 1000000 < o := by omega
      clear h2
      go_enter Tryd.func42, Tryd.ntmps42
      go_wp2_with fail
      refine (fin_yes _ _ _ _ (by omega) (by omega)).mono ?_
      rintro e w' ⟨rfl, rfl⟩
      go_wp2_with fail
      refine (fin_no _ _ _ _ h2').mono ?_
      rintro e w' ⟨rfl, rfl⟩
      go_wp2
      go_ret
      exact ⟨_, rfl, Er.no (by decide), rfl⟩
  · rw [if_pos (by omega)]
    have h1' : g < 0 ∨ 3 < g := by omega
    clear h1
    go_enter Tryd.func42, Tryd.ntmps42
    go_wp2_with fail
    refine (fin_no _ _ _ _ h1').mono ?_
    rintro e w' ⟨rfl, rfl⟩
    go_wp2
    go_ret
    exact ⟨_, rfl, Er.no (by decide), rfl⟩
theorem cell_ok (g o : Int) (w : World) (h : Fd.cellFault g o = 0) :
    Calls Tryd.prog 42 #[.int .i64 g, .int .i64 o] w fun e w' => e = .returned .nilIface ∧ w' = w := by
  refine (cell_any g o w).mono ?_
  rintro e w' ⟨v, rfl, hv, rfl⟩
  rcases hv with ⟨_, rfl⟩ | ⟨hn, _⟩
  · exact ⟨rfl, rfl⟩
  · exact absurd h hn
theorem cell_bad (g o f : Int) (w : World) (h : Fd.cellFault g o = f) (hf : f ≠ 0) :
    Calls Tryd.prog 42 #[.int .i64 g, .int .i64 o] w fun e w' => e = .returned (.iface 51 (.int .i64 f)) ∧ w' = w := by
  refine (cell_any g o w).mono ?_
  rintro e w' ⟨v, rfl, hv, rfl⟩
  rw [h] at hv
  rcases hv with ⟨hn, _⟩ | ⟨_, rfl⟩
  · exact absurd hn hf
  · exact ⟨rfl, rfl⟩
end Go.Proofs.YtaicnhkobhdehaaDoor

