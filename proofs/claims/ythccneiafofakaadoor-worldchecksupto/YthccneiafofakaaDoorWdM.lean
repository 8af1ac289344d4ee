/- Numbers in bytes. Plain mathematics. -/
import Derived.Test.YthccneiafofakaaDoorRows
namespace Go.Proofs.YthccneiafofakaaDoor
set_option linter.unusedVariables false
namespace Wd

/-- numbers below 0 between the others. -/
def zz (n : Int) : Nat := if n < 0 then ((-(n + 1)).toNat) * 2 + 1 else n.toNat * 2
def unz (x : Nat) : Int := if x % 2 = 1 then -((x / 2 : Nat) : Int) - 1 else ((x / 2 : Nat) : Int)
theorem unz_zz (n : Int) : unz (zz n) = n := by
  unfold unz zz
  by_cases h : n < 0
  · rw [if_pos h, if_pos (by omega)]; omega
  · rw [if_neg h, if_neg (by omega)]; omega
theorem zz_unz (x : Nat) : zz (unz x) = x := by
  unfold unz zz
  by_cases h : x % 2 = 1
  · rw [if_pos h, if_pos (by omega)]; omega
  · rw [if_neg h, if_neg (by omega)]; omega
def In64 (n : Int) : Prop := -9223372036854775808 ≤ n ∧ n ≤ 9223372036854775807
theorem zz_lt {n : Int} (h : In64 n) : zz n < 18446744073709551616 := by
  unfold In64 at h
  unfold zz
  split <;> omega
theorem unz_in {x : Nat} (h : x < 18446744073709551616) : In64 (unz x) := by
  unfold In64 unz
  split <;> omega

/-- seven bits a byte. -/
def vl (x : Nat) : List UInt8 := if h : x < 128 then [UInt8.ofNat x] else UInt8.ofNat (x % 128 + 128) :: vl (x / 128)
termination_by x
theorem vl_small {x : Nat} (h : x < 128) : vl x = [UInt8.ofNat x] := by rw [vl, dif_pos h]
theorem vl_great {x : Nat} (h : 128 ≤ x) : vl x = UInt8.ofNat (x % 128 + 128) :: vl (x / 128) := by rw [vl, dif_neg (by omega)]
def num (n : Int) : List UInt8 := vl (zz n)
/-- the number that bytes go on with: i bytes are read, they come to x. -/
def rd (i x : Nat) : List UInt8 → Option (Nat × Nat)
  | [] => none
  | c :: t => if i = 9 ∧ 1 < c.toNat then none else if 128 ≤ c.toNat then rd (i + 1) (x + c.toNat % 128 * 128 ^ i) t else if c.toNat = 0 ∧ 0 < i then none else some (x + c.toNat * 128 ^ i, i + 1)

theorem pow_le9 {i : Nat} (h : i ≤ 9) : 128 ^ i ≤ 128 ^ 9 := Nat.pow_le_pow_right (by decide) h
theorem pow9 : (128 : Nat) ^ 9 = 9223372036854775808 := by decide
theorem rd_le : ∀ (l : List UInt8) (i x y n : Nat), i ≤ 9 → x < 128 ^ i → rd i x l = some (y, n) → i < n ∧ n ≤ i + l.length ∧ n ≤ 10 ∧ y < 18446744073709551616
  | [], i, x, y, n, hi, hx, h => by simp [rd] at h
  | c :: t, i, x, y, n, hi, hx, h => by
    have hc : c.toNat < 256 := c.toNat_lt
    have hs : 128 ^ (i + 1) = 128 ^ i * 128 := Nat.pow_succ ..
    unfold rd at h
    split at h
    · cases h
    · rename_i h9
      split at h
      · rename_i hm
        have : i ≠ 9 := fun e => h9 ⟨e, by omega⟩
        have hm2 : c.toNat % 128 * 128 ^ i ≤ 127 * 128 ^ i := Nat.mul_le_mul_right _ (by omega)
        obtain ⟨h1, h2, h3, h4⟩ := rd_le t (i + 1) _ y n (by omega) (by omega) h
        simp only [List.length_cons]
        exact ⟨by omega, by omega, h3, h4⟩
      · split at h
        · cases h
        · injection h with h
          injection h with h1 h2
          subst h1 h2
          refine ⟨by omega, by simp only [List.length_cons]; omega, by omega, ?_⟩
          by_cases e : i = 9
          · subst e
            have : c.toNat ≤ 1 := by
              rcases Nat.lt_or_ge 1 c.toNat with h | h
              · exact absurd ⟨rfl, h⟩ h9
              · exact h
            have : c.toNat * 128 ^ 9 ≤ 1 * 128 ^ 9 := Nat.mul_le_mul_right _ this
            rw [pow9] at this hx ⊢
            omega
          · have h8 : 128 ^ i ≤ 128 ^ 8 := Nat.pow_le_pow_right (by decide) (by omega)
            have h82 : (128 : Nat) ^ 8 = 72057594037927936 := by decide
            have : c.toNat * 128 ^ i ≤ 127 * 128 ^ i := Nat.mul_le_mul_right _ (by omega)
            omega
theorem rd_vl : ∀ (f x i a : Nat) (t : List UInt8), x ≤ f → i ≤ 9 → x * 128 ^ i < 18446744073709551616 → (i = 0 ∨ 0 < x) → rd i a (vl x ++ t) = some (a + x * 128 ^ i, i + (vl x).length)
  | f, x, i, a, t, hf, hi, hx, hz => by
    by_cases h : x < 128
    · have e : (UInt8.ofNat x).toNat = x := by rw [UInt8.toNat_ofNat']; omega
      rw [vl_small h]
      show rd i a (UInt8.ofNat x :: t) = _
      unfold rd
      rw [e, if_neg, if_neg (by omega), if_neg (by omega)]
      · rfl
      · rintro ⟨e9, h1⟩
        subst e9
        have : 2 * 128 ^ 9 ≤ x * 128 ^ 9 := Nat.mul_le_mul_right _ h1
        rw [pow9] at this hx
        omega
    · have e : (UInt8.ofNat (x % 128 + 128)).toNat = x % 128 + 128 := by rw [UInt8.toNat_ofNat']; omega
      have hs : 128 ^ (i + 1) = 128 ^ i * 128 := Nat.pow_succ ..
      have i9 : i ≠ 9 := fun e9 => by
        subst e9
        have : 128 * 128 ^ 9 ≤ x * 128 ^ 9 := Nat.mul_le_mul_right _ (by omega)
        rw [pow9] at this hx
        omega
      rw [vl_great (by omega)]
      show rd i a (UInt8.ofNat (x % 128 + 128) :: (vl (x / 128) ++ t)) = _
      unfold rd
      have hsum : x = x / 128 * 128 + x % 128 := by omega
      have hmul : x * 128 ^ i = x / 128 * 128 ^ (i + 1) + x % 128 * 128 ^ i := by
        conv => lhs; rw [hsum]
        rw [Nat.add_mul, hs, Nat.mul_comm (128 ^ i) 128, Nat.mul_assoc]
      rw [e, if_neg (fun h => i9 h.1), if_pos (by omega)]
      match f, hf with
      | 0, hf => omega
      | f + 1, hf =>
        rw [rd_vl f (x / 128) (i + 1) _ t (by omega) (by omega) (by omega) (.inr (by omega))]
        simp only [List.length_cons]
        have e3 : (x % 128 + 128) % 128 = x % 128 := by omega
        rw [e3, hmul]
        congr 2
        · omega
        · omega
termination_by f => f
theorem rd_back : ∀ (l : List UInt8) (i a y n : Nat), i ≤ 9 → rd i a l = some (y, n) → ∃ x t, y = a + x * 128 ^ i ∧ l = vl x ++ t ∧ n = i + (vl x).length ∧ (i = 0 ∨ 0 < x)
  | [], i, a, y, n, hi, h => by simp [rd] at h
  | c :: t, i, a, y, n, hi, h => by
    have hc : c.toNat < 256 := c.toNat_lt
    have hs : 128 ^ (i + 1) = 128 ^ i * 128 := Nat.pow_succ ..
    unfold rd at h
    split at h
    · cases h
    · rename_i h9
      split at h
      · rename_i hm
        have i9 : i ≠ 9 := fun e => h9 ⟨e, by omega⟩
        obtain ⟨x, t', h1, h2, h3, h4⟩ := rd_back t (i + 1) _ y n (by omega) h
        have x0 : 0 < x := by omega
        have e1 : (x * 128 + c.toNat % 128) % 128 + 128 = c.toNat := by omega
        have e2 : (x * 128 + c.toNat % 128) / 128 = x := by omega
        have ev : vl (x * 128 + c.toNat % 128) = c :: vl x := by
          rw [vl_great (by omega), e1, e2, UInt8.ofNat_toNat]
        refine ⟨x * 128 + c.toNat % 128, t', ?_, ?_, ?_, .inr (by omega)⟩
        · rw [h1, hs, Nat.add_mul, Nat.mul_comm (128 ^ i) 128, ← Nat.mul_assoc]; omega
        · rw [ev, h2]; rfl
        · rw [ev, h3]; simp only [List.length_cons]; omega
      · rename_i hm
        split at h
        · cases h
        · rename_i hz
          injection h with h
          injection h with h1 h2
          have ev : vl c.toNat = [c] := by rw [vl_small (by omega), UInt8.ofNat_toNat]
          refine ⟨c.toNat, t, h1.symm, by rw [ev]; rfl, by rw [ev, ← h2]; rfl, ?_⟩
          omega

/-- the number that stands at a place, and the place behind it. -/
def pnum (b : List UInt8) (a : Nat) : Option (Int × Nat) := match rd 0 0 (b.drop a) with
  | none => none
  | some (x, n) => some (unz x, a + n)
theorem pnum_le {b : List UInt8} {a : Nat} {v : Int} {a' : Nat} (h : pnum b a = some (v, a')) : a < a' ∧ a' ≤ b.length ∧ a' ≤ a + 10 ∧ In64 v := by
  unfold pnum at h
  split at h
  · cases h
  · rename_i x n hr
    injection h with h
    injection h with h1 h2
    obtain ⟨e1, e2, e3, e4⟩ := rd_le _ 0 0 x n (by omega) (by simp) hr
    rw [List.length_drop] at e2
    refine ⟨by omega, by omega, by omega, by rw [← h1]; exact unz_in e4⟩
theorem pnum_num {b : List UInt8} {a : Nat} {n : Int} {t : List UInt8} (h : In64 n) (hb : b.drop a = num n ++ t) : pnum b a = some (n, a + (num n).length) := by
  unfold pnum
  rw [hb]
  unfold num
  rw [rd_vl _ (zz n) 0 0 t (Nat.le_refl _) (by omega) (by simpa using zz_lt h) (.inl rfl)]
  simp [unz_zz]
theorem pnum_back {b : List UInt8} {a : Nat} {v : Int} {a' : Nat} (h : pnum b a = some (v, a')) : b.drop a = num v ++ b.drop a' ∧ a' = a + (num v).length := by
  unfold pnum at h
  split at h
  · cases h
  · rename_i x n hr
    injection h with h
    injection h with h1 h2
    obtain ⟨x', t, e1, e2, e3, -⟩ := rd_back _ 0 0 x n (by omega) hr
    have ex : x = x' := by omega
    subst ex
    have en : num v = vl x := by unfold num; rw [← h1, zz_unz]
    have el : a' = a + (num v).length := by rw [en]; omega
    refine ⟨?_, el⟩
    rw [en, el, ← List.drop_drop, e2, en, List.drop_left]

/-- readers, one behind the other. -/
abbrev Pr (α : Type) := Nat → Option (α × Nat)
def prep {α : Type} (p : Pr α) : Nat → Pr (List α)
  | 0, a => some ([], a)
  | n + 1, a => match p a with
    | none => none
    | some (v, a') => match prep p n a' with
      | none => none
      | some (l, a'') => some (v :: l, a'')
theorem prep_snoc {α : Type} (p : Pr α) : ∀ (n a : Nat), prep p (n + 1) a = match prep p n a with
    | none => none
    | some (l, a') => match p a' with
      | none => none
      | some (v, a'') => some (l ++ [v], a'')
  | 0, a => by
    simp only [prep]
    cases p a with
    | none => rfl
    | some x => rfl
  | n + 1, a => by
    rw [prep]
    rw [show prep p (n + 1) a = (match p a with | none => none | some (v, a') => match prep p n a' with | none => none | some (l, a'') => some (v :: l, a'')) from rfl]
    cases p a with
    | none => rfl
    | some x =>
      obtain ⟨v, a'⟩ := x
      simp only
      rw [prep_snoc p n a']
      cases prep p n a' with
      | none => rfl
      | some y =>
        obtain ⟨l, a''⟩ := y
        simp only
        cases p a'' with
        | none => rfl
        | some z => rfl
theorem prep_len {α : Type} {p : Pr α} : ∀ {n a : Nat} {l : List α} {a' : Nat}, prep p n a = some (l, a') → l.length = n
  | 0, a, l, a', h => by simp [prep] at h; rw [h.1]; rfl
  | n + 1, a, l, a', h => by
    rw [prep] at h
    split at h
    · cases h
    · split at h
      · cases h
      · rename_i hh
        injection h with h
        injection h with h1 h2
        rw [← h1, List.length_cons, prep_len hh]
def pmany (b : List UInt8) (a : Nat) : Option (Nat × Nat) := match pnum b a with
  | none => none
  | some (n, a') => if 0 ≤ n ∧ n ≤ 200 then some (n.toNat, a') else none
def pbind {α β : Type} (p : Pr α) (f : α → Pr β) : Pr β := fun a => match p a with
  | none => none
  | some (v, a') => f v a'
def plist {α : Type} (b : List UInt8) (p : Pr α) : Pr (List α) := pbind (pmany b) (fun n => prep p n)
def pret {α : Type} (v : α) : Pr α := fun a => some (v, a)
end Wd
end Go.Proofs.YthccneiafofakaaDoor
