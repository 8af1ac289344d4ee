/- Texts: cut at a byte and joined again; whole numbers as digits. Plain mathematics. -/
namespace Go.Proofs.YthccneiafofakaaDoor.Tx

/-- a text at each byte c. -/
def cut (c : UInt8) : List UInt8 → List (List UInt8)
  | [] => [[]]
  | b :: r => if b = c then [] :: cut c r else match cut c r with
    | [] => [[b]]
    | w :: ws => (b :: w) :: ws
/-- and back. -/
def join (c : UInt8) : List (List UInt8) → List UInt8
  | [] => []
  | [w] => w
  | w :: v :: ws => w ++ c :: join c (v :: ws)

theorem cut_ne (c : UInt8) (l : List UInt8) : cut c l ≠ [] := by
  cases l with
  | nil => simp [cut]
  | cons b r =>
    unfold cut
    split
    · simp
    · split <;> simp
theorem join_cons {c : UInt8} {w : List UInt8} {ws : List (List UInt8)} (h : ws ≠ []) : join c (w :: ws) = w ++ c :: join c ws := by
  cases ws with
  | nil => exact absurd rfl h
  | cons v ws => rfl
theorem join_cut (c : UInt8) (l : List UInt8) : join c (cut c l) = l := by
  induction l with
  | nil => rfl
  | cons b r ih =>
    unfold cut
    split
    · rename_i h
      rw [join_cons (cut_ne c r), ih, h]
      rfl
    · cases hw : cut c r with
      | nil => exact absurd hw (cut_ne c r)
      | cons w ws =>
        rw [hw] at ih
        cases ws with
        | nil => rw [← ih]; rfl
        | cons v ws => rw [← ih]; rfl
/-- no word has the byte. -/
theorem cut_free (c : UInt8) (l : List UInt8) : ∀ w ∈ cut c l, c ∉ w := by
  induction l with
  | nil => intro w hw; simp [cut] at hw; subst hw; simp
  | cons b r ih =>
    intro w hw
    unfold cut at hw
    split at hw
    · rcases List.mem_cons.1 hw with rfl | hw
      · simp
      · exact ih w hw
    · rename_i hb
      cases hc : cut c r with
      | nil => exact absurd hc (cut_ne c r)
      | cons v vs =>
        rw [hc] at hw ih
        rcases List.mem_cons.1 hw with rfl | hw
        · intro h
          rcases List.mem_cons.1 h with h | h
          · exact hb h.symm
          · exact ih v (List.mem_cons_self ..) h
        · exact ih w (List.mem_cons_of_mem _ hw)
theorem cut_cons {c b : UInt8} {r w : List UInt8} {ws : List (List UInt8)} (h : b ≠ c) (hr : cut c r = w :: ws) : cut c (b :: r) = (b :: w) :: ws := by
  rw [cut, if_neg h, hr]
theorem cut_word {c : UInt8} {w : List UInt8} (h : c ∉ w) : cut c w = [w] := by
  induction w with
  | nil => rfl
  | cons b w ih =>
    rw [List.mem_cons, not_or] at h
    unfold cut
    rw [if_neg (fun e => h.1 e.symm), ih h.2]
theorem cut_app {c : UInt8} {w : List UInt8} (h : c ∉ w) (r : List UInt8) : cut c (w ++ c :: r) = w :: cut c r := by
  induction w with
  | nil => simp [cut]
  | cons b w ih =>
    rw [List.mem_cons, not_or] at h
    rw [List.cons_append, cut_cons (fun e => h.1 e.symm) (ih h.2)]
theorem cut_join {c : UInt8} : ∀ {ws : List (List UInt8)}, ws ≠ [] → (∀ w ∈ ws, c ∉ w) → cut c (join c ws) = ws
  | [], h, _ => absurd rfl h
  | [w], _, h => cut_word (h w (List.mem_cons_self ..))
  | w :: v :: ws, _, h => by
    rw [join_cons (by simp), cut_app (h w (List.mem_cons_self ..)), cut_join (by simp) (fun x hx => h x (List.mem_cons_of_mem _ hx))]

/-- a digit. -/
def isDig (b : UInt8) : Bool := decide (48 ≤ b.toNat) && decide (b.toNat ≤ 57)
/-- the digits of a number. -/
def dig (n : Nat) : List UInt8 := if n < 10 then [(48 + n).toUInt8] else dig (n / 10) ++ [(48 + n % 10).toUInt8]
termination_by n
/-- the number of some digits. -/
def val (l : List UInt8) : Nat := l.foldl (fun n b => n * 10 + (b.toNat - 48)) 0
/-- a whole number of at most so many digits, without a needless 0. -/
def whole (most : Nat) (l : List UInt8) : Option Nat := if l = [] ∨ most < l.length ∨ (l.head? = some 48 ∧ 1 < l.length) then none else if l.all isDig then some (val l) else none

theorem dig_small {n : Nat} (h : n < 10) : dig n = [(48 + n).toUInt8] := by rw [dig, if_pos h]
theorem dig_big {n : Nat} (h : ¬ n < 10) : dig n = dig (n / 10) ++ [(48 + n % 10).toUInt8] := by rw [dig, if_neg h]
theorem sign_nat {d : Nat} (h : d < 10) : ((48 + d).toUInt8).toNat = 48 + d := by
  show (48 + d) % 256 = 48 + d
  omega
theorem val_snoc (l : List UInt8) (b : UInt8) : val (l ++ [b]) = val l * 10 + (b.toNat - 48) := by
  unfold val
  rw [List.foldl_append]
  rfl
theorem dig_ne (n : Nat) : dig n ≠ [] := by
  rw [dig]
  split <;> simp
theorem dig_all (n : Nat) : (dig n).all isDig = true := by
  induction n using Nat.strongRecOn with
  | ind n ih =>
    by_cases h : n < 10
    · rw [dig_small h]
      simp [isDig]
      omega
    · rw [dig_big h, List.all_append, ih (n / 10) (by omega)]
      simp [isDig]
      omega
theorem val_dig (n : Nat) : val (dig n) = n := by
  induction n using Nat.strongRecOn with
  | ind n ih =>
    by_cases h : n < 10
    · rw [dig_small h]
      show 0 * 10 + (((48 + n).toUInt8).toNat - 48) = n
      rw [sign_nat h]
      omega
    · rw [dig_big h, val_snoc, ih (n / 10) (by omega), sign_nat (show n % 10 < 10 by omega)]
      omega
theorem dig_head (n : Nat) : (dig n).head? = some 48 → n = 0 := by
  induction n using Nat.strongRecOn with
  | ind n ih =>
    intro h
    by_cases hn : n < 10
    · rw [dig_small hn] at h
      simp only [List.head?_cons, Option.some.injEq] at h
      have h2 : ((48 + n).toUInt8).toNat = 48 := by rw [h]; rfl
      rw [sign_nat hn] at h2
      omega
    · rw [dig_big hn] at h
      cases hd : dig (n / 10) with
      | nil => exact absurd hd (dig_ne _)
      | cons b r =>
        rw [hd] at h
        have := ih (n / 10) (by omega) (by rw [hd]; simpa using h)
        omega
theorem dig_len {n : Nat} : ∀ {k : Nat}, 0 < k → n < 10 ^ k → (dig n).length ≤ k := by
  induction n using Nat.strongRecOn with
  | ind n ih =>
    intro k hk h
    by_cases hn : n < 10
    · rw [dig_small hn]
      simp
      omega
    · rw [dig_big hn, List.length_append]
      cases k with
      | zero => omega
      | succ k =>
        have hk0 : 0 < k := by
          rcases Nat.eq_zero_or_pos k with rfl | hp
          · simp at h; omega
          · exact hp
        have h2 : n / 10 < 10 ^ k := by
          rw [Nat.pow_succ] at h
          omega
        have := ih (n / 10) (by omega) hk0 h2
        simp
        omega
theorem whole_dig {n most : Nat} (h0 : 0 < most) (h : n < 10 ^ most) : whole most (dig n) = some n := by
  unfold whole
  rw [if_neg, if_pos (dig_all n), val_dig]
  rintro (h1 | h1 | ⟨h1, h2⟩)
  · exact dig_ne n h1
  · have := dig_len h0 h
    omega
  · have := dig_head n h1
    subst this
    rw [dig_small (by decide)] at h2
    simp at h2
theorem dig_val : ∀ (k : Nat) (l : List UInt8), l.length = k → l ≠ [] → ¬ (l.head? = some 48 ∧ 1 < l.length) → l.all isDig = true → dig (val l) = l := by
  intro k
  induction k with
  | zero => intro l h1 h2; exact absurd (List.length_eq_zero_iff.1 h1) h2
  | succ k ih =>
    intro l hl hne hz hd
    obtain ⟨r, b, rfl⟩ : ∃ r b, l = r ++ [b] := ⟨l.dropLast, l.getLast hne, (List.dropLast_concat_getLast hne).symm⟩
    have hb : isDig b = true := by
      rw [List.all_append] at hd
      simp at hd
      exact hd.2
    have hbn : 48 ≤ b.toNat ∧ b.toNat ≤ 57 := by
      unfold isDig at hb
      simpa using hb
    have back : ((48 + (b.toNat - 48)).toUInt8) = b := by
      rw [show 48 + (b.toNat - 48) = b.toNat by omega]
      simp
    rw [val_snoc]
    by_cases hr : r = []
    · subst hr
      rw [show val [] = 0 from rfl, Nat.zero_mul, Nat.zero_add, dig_small (by omega), back]
      rfl
    · have hrd : r.all isDig = true := by
        rw [List.all_append] at hd
        simp at hd
        rw [List.all_eq_true]
        exact hd.1
      have hrl : r.length = k := by simpa using hl
      have hhead : (r ++ [b]).head? = r.head? := by
        cases r with
        | nil => exact absurd rfl hr
        | cons a r => rfl
      have hr0 : 0 < r.length := List.length_pos_iff.2 hr
      have hz' : ¬ r.head? = some 48 := fun h => hz ⟨by rw [hhead]; exact h, by simp; omega⟩
      have hi := ih r hrl hr (fun h => hz' h.1) hrd
      have hv : val r ≠ 0 := by
        intro h
        rw [h, dig_small (by decide)] at hi
        rw [← hi] at hz'
        exact hz' rfl
      have e : (val r * 10 + (b.toNat - 48)) / 10 = val r := by omega
      have e2 : (val r * 10 + (b.toNat - 48)) % 10 = b.toNat - 48 := by omega
      rw [dig_big (by omega), e, e2, hi, back]
theorem dig_whole {most n : Nat} {l : List UInt8} (h : whole most l = some n) : dig n = l := by
  unfold whole at h
  split at h
  · cases h
  · rename_i hc
    rw [not_or, not_or] at hc
    split at h
    · rename_i hd
      injection h with h
      rw [← h]
      exact dig_val l.length l rfl hc.1 hc.2.2 hd
    · cases h
theorem whole_lt {most n : Nat} {l : List UInt8} (h : whole most l = some n) : l.length ≤ most := by
  unfold whole at h
  split at h
  · cases h
  · rename_i hc
    rw [not_or, not_or] at hc
    omega
theorem whole_ne {most n : Nat} {l : List UInt8} (h : whole most l = some n) : l ≠ [] := by
  rintro rfl
  simp [whole] at h
/-- digits are no blank and no end of a line. -/
theorem dig_free (n : Nat) (c : UInt8) (h : c.toNat < 48) : c ∉ dig n := by
  intro hm
  have := List.all_eq_true.1 (dig_all n) c hm
  unfold isDig at this
  simp at this
  omega
end Go.Proofs.YthccneiafofakaaDoor.Tx
