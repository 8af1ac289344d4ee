/- Lines of cells: plain mathematics. · Fields: plain mathematics. · An error that is told. · What stays where one block turns. (Big2 has the same words for texts of its own; where both are wanted, let Big2 import this.) · What a walk is told of a slice of integers that came in. · Lists of integers: what a slice holds. · Fields: what is wrong with a cell, with a field. · Fields: what Check says. · Lists of integers that the call itself makes, by append. · Fields: the place of a cell. · Lists of integers that are written out. · Fields: what every call says first. · Fields: how far it is onto a cell (cut out of FdN, which wants field.sides). · Fields: Near and Step. · A land: the cells beside each, and how far it is onto each. · Fields: of all cells at once, those beside, and how far it is onto each. · slices.IndexFunc and ContainsFunc, of any function that tells yes or no and turns nothing. · What every call on a path says first. -/
import Derived.Test.YtagnjmellcibhaaGreatDoorRows
import Derived.WalkKit
import Derived.WalkSpells
import Derived.WalkLawsBesides
import Derived.ProofKit
import Derived.Deep.QuietTactic
import Derived.BigQuiet
import Derived.OwnWalk
import Derived.Deep.AppendLies
import Derived.Deep.DeepCutAuto
namespace Go.Proofs.YtagnjmellcibhaaGreatDoor.Fd

/-- a column, or row, of a line. -/
def along (n f t k : Int) : Int := (2 * f * n + 2 * k * (t - f) + n) / (2 * n)

theorem along_num (n f t k : Int) : 2 * f * n + 2 * k * (t - f) + n = (f * (n - k) + t * k) * 2 + n := by
  rw [Int.mul_sub, Int.mul_sub, Int.add_mul, Int.sub_mul, Int.mul_assoc 2 f n, Int.mul_assoc 2 k t, Int.mul_assoc 2 k f, Int.mul_comm k t, Int.mul_comm k f]
  omega
theorem mix_le (lo f t x y : Int) (hx : 0 ≤ x) (hy : 0 ≤ y) (hf : lo ≤ f) (ht : lo ≤ t) : lo * (x + y) ≤ f * x + t * y := by
  rw [Int.mul_add]
  have := Int.mul_le_mul_of_nonneg_right hf hx
  have := Int.mul_le_mul_of_nonneg_right ht hy
  omega
theorem mix_ge (hi f t x y : Int) (hx : 0 ≤ x) (hy : 0 ≤ y) (hf : f ≤ hi) (ht : t ≤ hi) : f * x + t * y ≤ hi * (x + y) := by
  rw [Int.mul_add]
  have := Int.mul_le_mul_of_nonneg_right hf hx
  have := Int.mul_le_mul_of_nonneg_right ht hy
  omega
theorem along_ge (lo n f t k : Int) (h0 : 0 ≤ k) (h1 : k ≤ n) (hn : 0 < n) (hf : lo ≤ f) (ht : lo ≤ t) : lo ≤ along n f t k := by
  unfold along
  rw [along_num, Int.le_ediv_iff_mul_le (by omega)]
  have h := mix_le lo f t (n - k) k (by omega) h0 hf ht
  rw [show n - k + k = n by omega] at h
  have e : lo * (2 * n) = lo * n * 2 := by rw [← Int.mul_assoc, Int.mul_comm lo 2, Int.mul_assoc, Int.mul_comm]
  omega
theorem along_le (hi n f t k : Int) (h0 : 0 ≤ k) (h1 : k ≤ n) (hn : 0 < n) (hf : f ≤ hi) (ht : t ≤ hi) : along n f t k ≤ hi := by
  unfold along
  rw [along_num]
  have h := mix_ge hi f t (n - k) k (by omega) h0 hf ht
  rw [show n - k + k = n by omega] at h
  have e : (hi + 1) * (2 * n) = hi * n * 2 + 2 * n := by rw [Int.add_mul, ← Int.mul_assoc, Int.mul_comm hi 2, Int.mul_assoc, Int.mul_comm 2 (hi * n)]; omega
  have : ((f * (n - k) + t * k) * 2 + n) / (2 * n) < hi + 1 := by
    rw [Int.ediv_lt_iff_lt_mul (by omega)]
    omega
  omega
theorem along_zero (n f t : Int) (hn : 0 < n) : along n f t 0 = f := by
  unfold along
  rw [show 2 * f * n + 2 * 0 * (t - f) + n = n + f * (2 * n) by rw [← Int.mul_assoc, Int.mul_comm f 2]; omega, Int.add_mul_ediv_right _ _ (by omega), Int.ediv_eq_zero_of_lt (by omega) (by omega)]
  omega
theorem along_end (n f t : Int) (hn : 0 < n) : along n f t n = t := by
  unfold along
  rw [along_num, show n - n = 0 by omega, Int.mul_zero, show (0 + t * n) * 2 + n = n + t * (2 * n) by rw [← Int.mul_assoc, Int.mul_comm t 2, Int.mul_assoc]; omega, Int.add_mul_ediv_right _ _ (by omega), Int.ediv_eq_zero_of_lt (by omega) (by omega)]
  omega
theorem along_up (n f k : Int) (hn : 0 < n) : along n f (f + n) k = f + k := by
  unfold along
  rw [show f + n - f = n by omega, show 2 * f * n + 2 * k * n + n = n + (f + k) * (2 * n) by rw [Int.add_mul, ← Int.mul_assoc f, ← Int.mul_assoc k, Int.mul_comm f 2, Int.mul_comm k 2]; omega, Int.add_mul_ediv_right _ _ (by omega), Int.ediv_eq_zero_of_lt (by omega) (by omega)]
  omega
theorem along_down (n f k : Int) (hn : 0 < n) : along n f (f - n) k = f - k := by
  unfold along
  rw [show f - n - f = -n by omega, show 2 * f * n + 2 * k * (-n) + n = n + (f - k) * (2 * n) by rw [Int.sub_mul, ← Int.mul_assoc f, ← Int.mul_assoc k, Int.mul_comm f 2, Int.mul_comm k 2, Int.mul_neg]; omega, Int.add_mul_ediv_right _ _ (by omega), Int.ediv_eq_zero_of_lt (by omega) (by omega)]
  omega
theorem div_step (x d m : Int) (hm : 0 < m) (h1 : -m ≤ d) (h2 : d ≤ m) : -1 ≤ (x + d) / m - x / m ∧ (x + d) / m - x / m ≤ 1 := by
  have e1 : (x + m) / m = x / m + 1 := Int.add_ediv_of_dvd_right (Int.dvd_refl m) |>.trans (by rw [Int.ediv_self (by omega)])
  have e2 : (x + -m) / m = x / m + -1 := (Int.add_ediv_of_dvd_right (Int.dvd_neg.2 (Int.dvd_refl m))).trans (by rw [Int.neg_ediv_of_dvd (Int.dvd_refl m), Int.ediv_self (by omega)])
  have l1 : (x + d) / m ≤ (x + m) / m := Int.ediv_le_ediv hm (by omega)
  have l2 : (x + -m) / m ≤ (x + d) / m := Int.ediv_le_ediv hm (by omega)
  omega
theorem along_step (n f t k : Int) (hn : 0 < n) (h1 : -n ≤ t - f) (h2 : t - f ≤ n) : -1 ≤ along n f t (k + 1) - along n f t k ∧ along n f t (k + 1) - along n f t k ≤ 1 := by
  unfold along
  have e : 2 * f * n + 2 * (k + 1) * (t - f) + n = 2 * f * n + 2 * k * (t - f) + n + 2 * (t - f) := by
    rw [Int.mul_add 2 k 1, Int.add_mul]; omega
  rw [e]
  exact div_step _ _ _ (by omega) (by omega) (by omega)

/-- the greater of both distances. -/
def span (W a b : Nat) : Nat := max (max (a % W - b % W) (b % W - a % W)) (max (a / W - b / W) (b / W - a / W))
/-- the k-th cell of a line. -/
def spot (W a b : Nat) (k : Nat) : Int := along (span W a b) (a / W : Nat) (b / W : Nat) k * W + along (span W a b) (a % W : Nat) (b % W : Nat) k
def line (W a b : Nat) : List Int := if span W a b = 0 then [(a : Int)] else (List.range (span W a b + 1)).map (spot W a b)

theorem span_zero {W a b : Nat} (h : span W a b = 0) : a = b := by
  unfold span at h
  have h1 : a % W = b % W := by omega
  have h2 : a / W = b / W := by omega
  rw [← Nat.div_add_mod a W, ← Nat.div_add_mod b W, h1, h2]
theorem span_le {W H a b : Nat} (hW : 0 < W) (w2 : W ≤ 12) (h2 : H ≤ 12) (ha : a < W * H) (hb : b < W * H) : span W a b ≤ 11 := by
  have h3 : a / W < H := Nat.div_lt_of_lt_mul ha
  have h4 : b / W < H := Nat.div_lt_of_lt_mul hb
  have h5 := Nat.mod_lt a hW
  have h6 := Nat.mod_lt b hW
  unfold span
  generalize a / W = x at *
  generalize b / W = y at *
  generalize a % W = u at *
  generalize b % W = v at *
  omega

/-- where a cell of a line lies. -/
theorem spot_in {W H a b k : Nat} (hW : 0 < W) (ha : a < W * H) (hb : b < W * H) (hn : 0 < span W a b) (hk : k ≤ span W a b) :
    ∃ r c : Nat, along (span W a b) (a / W : Nat) (b / W : Nat) k = r ∧ along (span W a b) (a % W : Nat) (b % W : Nat) k = c ∧ r < H ∧ c < W ∧ spot W a b k = ((r * W + c : Nat) : Int) ∧ r * W + c < W * H ∧ (r * W + c) % W = c ∧ (r * W + c) / W = r := by
  have h3 : a / W < H := Nat.div_lt_of_lt_mul ha
  have h4 : b / W < H := Nat.div_lt_of_lt_mul hb
  have h5 := Nat.mod_lt a hW
  have h6 := Nat.mod_lt b hW
  have n1 : (0 : Int) ≤ (a / W : Nat) := Int.natCast_nonneg _
  have n2 : (0 : Int) ≤ (b / W : Nat) := Int.natCast_nonneg _
  have r1 := along_ge 0 (span W a b) (a / W : Nat) (b / W : Nat) k (by omega) (by omega) (by omega) (by omega) (by omega)
  have r2 := along_le (H - 1) (span W a b) (a / W : Nat) (b / W : Nat) k (by omega) (by omega) (by omega) (by omega) (by omega)
  have c1 := along_ge 0 (span W a b) (a % W : Nat) (b % W : Nat) k (by omega) (by omega) (by omega) (by omega) (by omega)
  have c2 := along_le (W - 1) (span W a b) (a % W : Nat) (b % W : Nat) k (by omega) (by omega) (by omega) (by omega) (by omega)
  refine ⟨(along (span W a b) (a / W : Nat) (b / W : Nat) k).toNat, (along (span W a b) (a % W : Nat) (b % W : Nat) k).toNat, by omega, by omega, by omega, by omega, ?_, ?_, ?_, ?_⟩
  · unfold spot
    rw [Int.natCast_add, Int.natCast_mul, Int.toNat_of_nonneg r1, Int.toNat_of_nonneg c1]
  · have h := Nat.mul_le_mul_right W (show (along (span W a b) (a / W : Nat) (b / W : Nat) k).toNat + 1 ≤ H by omega)
    rw [Nat.add_mul, Nat.mul_comm H W] at h
    omega
  · rw [Nat.add_comm, Nat.add_mul_mod_self_right, Nat.mod_eq_of_lt (by omega)]
  · rw [Nat.add_comm, Nat.add_mul_div_right _ _ hW, Nat.div_eq_of_lt (by omega)]
    omega
theorem spot_zero {W a b : Nat} (hn : 0 < span W a b) : spot W a b 0 = a := by
  unfold spot
  have e := along_zero (span W a b) (a / W : Nat) (b / W : Nat) (by omega)
  have e' := along_zero (span W a b) (a % W : Nat) (b % W : Nat) (by omega)
  rw [show (((0 : Nat) : Nat) : Int) = 0 from rfl, e, e', ← Int.natCast_mul, ← Int.natCast_add, Nat.mul_comm, Nat.div_add_mod]
theorem spot_end {W a b : Nat} (hn : 0 < span W a b) : spot W a b (span W a b) = b := by
  unfold spot
  have e := along_end (span W a b) (a / W : Nat) (b / W : Nat) (by omega)
  have e' := along_end (span W a b) (a % W : Nat) (b % W : Nat) (by omega)
  rw [e, e', ← Int.natCast_mul, ← Int.natCast_add, Nat.mul_comm, Nat.div_add_mod]

/-- on the way that is the longer one a line goes one by one. -/
theorem along_major (W a b : Nat) (hn : 0 < span W a b) :
    (∀ k : Int, along (span W a b) (a % W : Nat) (b % W : Nat) k = (a % W : Nat) + k) ∨ (∀ k : Int, along (span W a b) (a % W : Nat) (b % W : Nat) k = (a % W : Nat) - k) ∨
    (∀ k : Int, along (span W a b) (a / W : Nat) (b / W : Nat) k = (a / W : Nat) + k) ∨ (∀ k : Int, along (span W a b) (a / W : Nat) (b / W : Nat) k = (a / W : Nat) - k) := by
  have h : ((b % W : Nat) : Int) = (a % W : Nat) + (span W a b : Nat) ∨ ((b % W : Nat) : Int) = (a % W : Nat) - (span W a b : Nat) ∨ ((b / W : Nat) : Int) = (a / W : Nat) + (span W a b : Nat) ∨ ((b / W : Nat) : Int) = (a / W : Nat) - (span W a b : Nat) := by
    unfold span
    omega
  rcases h with h | h | h | h
  · left; intro k; rw [h]; exact along_up _ _ k (by omega)
  · right; left; intro k; rw [h]; exact along_down _ _ k (by omega)
  · right; right; left; intro k; rw [h]; exact along_up _ _ k (by omega)
  · right; right; right; intro k; rw [h]; exact along_down _ _ k (by omega)

/-- a line goes by steps. -/
theorem spot_step {W H a b k : Nat} (hW : 0 < W) (ha : a < W * H) (hb : b < W * H) (hn : 0 < span W a b) (hk : k + 1 ≤ span W a b) :
    ∃ p q : Nat, spot W a b k = p ∧ spot W a b (k + 1) = q ∧ p < W * H ∧ q < W * H ∧ -1 ≤ ((q % W : Nat) : Int) - (p % W : Nat) ∧ ((q % W : Nat) : Int) - (p % W : Nat) ≤ 1 ∧ -1 ≤ ((q / W : Nat) : Int) - (p / W : Nat) ∧ ((q / W : Nat) : Int) - (p / W : Nat) ≤ 1 ∧
      ¬ (((q % W : Nat) : Int) - (p % W : Nat) = 0 ∧ ((q / W : Nat) : Int) - (p / W : Nat) = 0) := by
  obtain ⟨r, c, er, ec, hr, hc, es, hl, hm, hd⟩ := spot_in hW ha hb hn (show k ≤ span W a b by omega)
  obtain ⟨r', c', er', ec', hr', hc', es', hl', hm', hd'⟩ := spot_in hW ha hb hn hk
  refine ⟨r * W + c, r' * W + c', es, es', hl, hl', ?_⟩
  rw [hm, hm', hd, hd']
  have s1 := along_step (span W a b) (a / W : Nat) (b / W : Nat) k (by omega) (by unfold span; omega) (by unfold span; omega)
  have s2 := along_step (span W a b) (a % W : Nat) (b % W : Nat) k (by omega) (by unfold span; omega) (by unfold span; omega)
  have ek : ((k + 1 : Nat) : Int) = (k : Int) + 1 := by omega
  rw [ek] at er' ec'
  rw [er', er] at s1
  rw [ec', ec] at s2
  refine ⟨s2.1, s2.2, s1.1, s1.2, ?_⟩
  rcases along_major W a b hn with m | m | m | m
  · have := m k; have := m (k + 1); omega
  · have := m k; have := m (k + 1); omega
  · have := m k; have := m (k + 1); omega
  · have := m k; have := m (k + 1); omega
/-- what is between is neither end. -/
theorem spot_inner {W H a b k : Nat} (hW : 0 < W) (ha : a < W * H) (hb : b < W * H) (hn : 0 < span W a b) (h0 : 0 < k) (hk : k < span W a b) : spot W a b k ≠ a ∧ spot W a b k ≠ b := by
  obtain ⟨r, c, er, ec, hr, hc, es, hl, hm, hd⟩ := spot_in hW ha hb hn (show k ≤ span W a b by omega)
  have e0 : ∀ k : Int, ((k = 0 ∨ k = span W a b) → ∃ p : Nat, (k = 0 → p = a) ∧ (k = span W a b → p = b) ∧ along (span W a b) (a / W : Nat) (b / W : Nat) k = (p / W : Nat) ∧ along (span W a b) (a % W : Nat) (b % W : Nat) k = (p % W : Nat)) := by
    rintro k (rfl | rfl)
    · exact ⟨a, fun _ => rfl, fun h => by omega, along_zero _ _ _ (by omega), along_zero _ _ _ (by omega)⟩
    · exact ⟨b, fun h => by omega, fun _ => rfl, along_end _ _ _ (by omega), along_end _ _ _ (by omega)⟩
  rw [es]
  have hA := along_zero (span W a b) (a / W : Nat) (b / W : Nat) (by omega)
  have hA' := along_zero (span W a b) (a % W : Nat) (b % W : Nat) (by omega)
  have hB := along_end (span W a b) (a / W : Nat) (b / W : Nat) (by omega)
  have hB' := along_end (span W a b) (a % W : Nat) (b % W : Nat) (by omega)
  constructor
  · intro e
    have e : r * W + c = a := by omega
    rw [e] at hm hd
    rcases along_major W a b hn with m | m | m | m
    all_goals have := m k; have := m 0; omega
  · intro e
    have e : r * W + c = b := by omega
    rw [e] at hm hd
    rcases along_major W a b hn with m | m | m | m
    all_goals have := m k; have := m (span W a b); omega
theorem line_len (W a b : Nat) : (line W a b).length = span W a b + 1 := by
  unfold line
  split
  · rename_i h; rw [h]; rfl
  · simp
theorem line_get {W a b k : Nat} (hk : k ≤ span W a b) : (line W a b)[k]? = some (if span W a b = 0 then (a : Int) else spot W a b k) := by
  unfold line
  split
  · have : k = 0 := by omega
    subst this
    rfl
  · simp only [List.getElem?_map]
    rw [List.getElem?_range (by omega)]
    rfl
end Go.Proofs.YtagnjmellcibhaaGreatDoor.Fd

namespace Go.Proofs.YtagnjmellcibhaaGreatDoor.Fd

/-- what is wrong with a cell. -/
def cellFault (g o : Int) : Int := if g < 0 ∨ 3 < g ∨ o < 0 ∨ 1000000 < o then 1 else if 0 < o ∧ g ≠ 0 then 7 else 0
def cellsFault : List Int → List Int → Int
  | g :: gs, o :: os => if cellFault g o = 0 then cellsFault gs os else cellFault g o
  | _, _ => 0
/-- what is wrong with a field. -/
def fault (W H : Int) (gs os : List Int) : Int :=
  if W < 1 ∨ 12 < W ∨ H < 1 ∨ 12 < H then 1 else if (gs.length : Int) ≠ W * H ∨ (os.length : Int) ≠ W * H then 3 else cellsFault gs os

/-- a field with which nothing is wrong. -/
structure Good (W H : Nat) (gs os : List Int) : Prop where
  w1 : 1 ≤ W
  w2 : W ≤ 12
  h1 : 1 ≤ H
  h2 : H ≤ 12
  gl : gs.length = W * H
  ol : os.length = W * H
  cell : ∀ (i : Nat) g o, gs[i]? = some g → os[i]? = some o → 0 ≤ g ∧ g ≤ 3 ∧ 0 ≤ o ∧ o ≤ 1000000 ∧ (0 < o → g = 0)

theorem cellFault_zero {g o : Int} (h : cellFault g o = 0) : 0 ≤ g ∧ g ≤ 3 ∧ 0 ≤ o ∧ o ≤ 1000000 ∧ (0 < o → g = 0) := by
  unfold cellFault at h
  split at h
  · omega
  · split at h
    · omega
    · omega
theorem cellsFault_zero : ∀ (gs os : List Int), cellsFault gs os = 0 → ∀ (i : Nat) g o, gs[i]? = some g → os[i]? = some o → cellFault g o = 0
  | [], _, _, i, g, o, h1, _ => by simp at h1
  | _ :: _, [], _, i, g, o, _, h2 => by simp at h2
  | g0 :: gs, o0 :: os, h, i, g, o, h1, h2 => by
    unfold cellsFault at h
    split at h
    · rename_i hc
      cases i with
      | zero => simp at h1 h2; subst h1; subst h2; exact hc
      | succ i => exact cellsFault_zero gs os h i g o (by simpa using h1) (by simpa using h2)
    · rename_i hc
      exact absurd h hc
theorem cellsFault_range (gs os : List Int) : cellsFault gs os = 0 ∨ cellsFault gs os = 1 ∨ cellsFault gs os = 7 := by
  induction gs generalizing os with
  | nil => left; unfold cellsFault; rfl
  | cons g gs ih =>
    cases os with
    | nil => left; unfold cellsFault; rfl
    | cons o os =>
      unfold cellsFault
      split
      · exact ih os
      · unfold cellFault
        split
        · right; left; rfl
        · split
          · right; right; rfl
          · left; rfl
theorem fault_range (W H : Int) (gs os : List Int) : fault W H gs os = 0 ∨ fault W H gs os = 1 ∨ fault W H gs os = 3 ∨ fault W H gs os = 7 := by
  unfold fault
  split
  · omega
  · split
    · omega
    · have := cellsFault_range gs os; omega
theorem fault_zero {W H : Int} {gs os : List Int} (h : fault W H gs os = 0) : ∃ W' H' : Nat, W = W' ∧ H = H' ∧ Good W' H' gs os := by
  unfold fault at h
  split at h
  · omega
  · split at h
    · omega
    · rename_i h1 h2
      refine ⟨W.toNat, H.toNat, by omega, by omega, by omega, by omega, by omega, by omega, ?_, ?_, fun i g o hg ho => cellFault_zero (cellsFault_zero gs os h i g o hg ho)⟩
      · have e : ((W.toNat * H.toNat : Nat) : Int) = W * H := by rw [Int.natCast_mul, Int.toNat_of_nonneg (by omega), Int.toNat_of_nonneg (by omega)]
        omega
      · have e : ((W.toNat * H.toNat : Nat) : Int) = W * H := by rw [Int.natCast_mul, Int.toNat_of_nonneg (by omega), Int.toNat_of_nonneg (by omega)]
        omega
theorem cellFault_of {g o : Int} (h : 0 ≤ g ∧ g ≤ 3 ∧ 0 ≤ o ∧ o ≤ 1000000 ∧ (0 < o → g = 0)) : cellFault g o = 0 := by
  unfold cellFault
  rw [if_neg (by omega), if_neg (by omega)]
theorem cellsFault_of : ∀ (gs os : List Int), (∀ (i : Nat) g o, gs[i]? = some g → os[i]? = some o → cellFault g o = 0) → cellsFault gs os = 0
  | [], _, _ => by unfold cellsFault; rfl
  | _ :: _, [], _ => by unfold cellsFault; rfl
  | g :: gs, o :: os, h => by
    unfold cellsFault
    rw [if_pos (h 0 g o rfl rfl)]
    exact cellsFault_of gs os fun i g' o' h1 h2 => h (i + 1) g' o' (by simpa using h1) (by simpa using h2)
theorem fault_good {W H : Nat} {gs os : List Int} (h : Good W H gs os) : fault W H gs os = 0 := by
  have e : ((W * H : Nat) : Int) = (W : Int) * H := Int.natCast_mul _ _
  have := h.gl; have := h.ol; have := h.w1; have := h.w2; have := h.h1; have := h.h2
  unfold fault
  rw [if_neg (by omega), if_neg (by omega)]
  exact cellsFault_of gs os fun i g o h1 h2 => cellFault_of (h.cell i g o h1 h2)
theorem Good.pos {W H : Nat} {gs os : List Int} (h : Good W H gs os) : 1 ≤ W * H ∧ W * H ≤ 144 := by
  have h1 := Nat.mul_le_mul h.w1 h.h1
  have h2 := Nat.mul_le_mul h.w2 h.h2
  omega
theorem cellsFault_drop (gs os : List Int) (k : Nat) (g o : Int) (hg : gs[k]? = some g) (ho : os[k]? = some o) :
    cellsFault (gs.drop k) (os.drop k) = if cellFault g o = 0 then cellsFault (gs.drop (k + 1)) (os.drop (k + 1)) else cellFault g o := by
  obtain ⟨h1, e1⟩ := List.getElem?_eq_some_iff.1 hg
  obtain ⟨h2, e2⟩ := List.getElem?_eq_some_iff.1 ho
  rw [List.drop_eq_getElem_cons h1, List.drop_eq_getElem_cons h2, e1, e2]
  rfl

/-- the fault of a cell's number. -/
def askFault (F : Int) (n : Nat) (xs : List Int) : Int := if F ≠ 0 then F else if xs.all (fun x => decide (0 ≤ x ∧ x < n)) then 0 else 6

/-- the cells beside one. -/
def near (W H a : Nat) : List Int :=
  (if 0 < a / W then [(a : Int) - W] else []) ++ ((if 0 < a % W then [(a : Int) - 1] else []) ++ ((if a % W + 1 < W then [(a : Int) + 1] else []) ++ (if a / W + 1 < H then [(a : Int) + W] else [])))

/-- how far it is onto a ground. -/
def onto (g : Int) (flies : Bool) : Int := if g = 1 then 0 else if g = 2 then (if flies then 1 else 0) else if g = 3 then (if flies then 1 else 2) else 1
end Go.Proofs.YtagnjmellcibhaaGreatDoor.Fd

namespace Go.Proofs.YtagnjmellcibhaaGreatDoor

/-- v tells the fault n. -/
def Er (v : Value) (n : Int) : Prop := (n = 0 ∧ v = .nilIface) ∨ (n ≠ 0 ∧ v = .iface 75 (.int .i64 n))
theorem Er.nil : Er .nilIface 0 := .inl ⟨rfl, rfl⟩
theorem Er.no {n : Int} (h : n ≠ 0) : Er (.iface 75 (.int .i64 n)) n := .inr ⟨h, rfl⟩
end Go.Proofs.YtagnjmellcibhaaGreatDoor

namespace Go.Proofs.YtagnjmellcibhaaGreatDoor
open Go.RowKit

/-- nothing below has turned but block z. -/
structure Kp (z : Nat) (w w' : World) : Prop where
  os : w'.os = w.os
  tape : w'.tape = w.tape
  output : w'.output = w.output
  size : w.heap.size ≤ w'.heap.size
  block : ∀ k, k < w.heap.size → k ≠ z → w'.heap[k]? = w.heap[k]?

theorem Kp.of {z : Nat} {w w' : World} (h : Below w.heap.size w w') : Kp z w w' := ⟨h.os, h.tape, h.output, h.size, fun k hk _ => h.block k hk⟩
theorem Kp.refl (z : Nat) (w : World) : Kp z w w := Kp.of (Below.refl _ _)
theorem Kp.trans {z : Nat} {a b c : World} (h : Kp z a b) (k : Kp z b c) : Kp z a c :=
  ⟨k.os.trans h.os, k.tape.trans h.tape, k.output.trans h.output, Nat.le_trans h.size k.size, fun i hi hz => (k.block i (Nat.lt_of_lt_of_le hi h.size) hz).trans (h.block i hi hz)⟩
theorem Kp.set {z : Nat} (w : World) (i : Nat) (u : Value) : Kp z w (w.setCell ⟨z, i, none⟩ u) :=
  ⟨rfl, rfl, rfl, by simp [World.setCell], fun k _ hz => Below.heap_setCell _ _ _ _ hz⟩
theorem Kp.below {z B : Nat} {a w w' : World} (h : Below B a w) (k : Kp z w w') (hB : B ≤ w.heap.size) (hz : B ≤ z) : Below B a w' :=
  h.trans ⟨k.os, k.tape, k.output, k.size, fun i hi => k.block i (by omega) (by omega)⟩

theorem Kp.set_new {z b : Nat} {w W : World} (h : Kp z w W) (hb : w.heap.size ≤ b) (i : Nat) (u : Value) : Kp z w (W.setCell ⟨b, i, none⟩ u) :=
  ⟨h.os, h.tape, h.output, by simpa [World.setCell] using h.size, fun k hk hz => (Below.heap_setCell _ _ _ _ (by show k ≠ b; omega)).trans (h.block k hk hz)⟩
theorem Kp.drewN {z : Nat} {w W : World} (h : Kp z w W) (n : Nat) : Kp z w (W.drewN n) := ⟨h.os, h.tape, h.output, h.size, h.block⟩

theorem lt_of_block {w : World} {b : Nat} {o : Obj} (h : w.heap[b]? = some o) : b < w.heap.size := by
  rcases Nat.lt_or_ge b w.heap.size with h1 | h1
  · exact h1
  · rw [Array.getElem?_eq_none h1] at h; cases h

end Go.Proofs.YtagnjmellcibhaaGreatDoor

namespace Go.Proofs.YtagnjmellcibhaaGreatDoor

/-- nil, or a row of cells: the numbers zs, of which the first len are the elements. -/
def IsRow (k : IntKind) (w : World) (a : Option Addr) (len cap : Nat) (zs : List Int) : Prop :=
  (a = none ∧ len = 0 ∧ cap = 0 ∧ zs = []) ∨
  ∃ x, a = some x ∧ len ≤ cap ∧ cap ≤ maxLen ∧ zs.length = cap ∧ (∀ i, i < zs.length → w.cell? (x.add i) = some (.int k (zs.getD i 0))) ∧ ∀ n ∈ zs, (Lit.int k n).wf = true
end Go.Proofs.YtagnjmellcibhaaGreatDoor

namespace Go.Proofs.YtagnjmellcibhaaGreatDoor
open Go.RowKit

/-- the cells of a list, from an address on. -/
def Cells (w : World) (a : Option Addr) (xs : List Int) : Prop := xs ≠ [] → ∃ x, a = some x ∧ x.block < w.heap.size ∧ ∀ i d, xs[i]? = some d → w.cell? (x.add i) = some (.int .i64 d)
/-- v is a slice of the integers xs. -/
def Ro (w : World) (v : Value) (xs : List Int) : Prop := ∃ (a : Option Addr) (c : Nat), v = .slice a xs.length c ∧ xs.length ≤ c ∧ c ≤ 9223372036854775807 ∧ Cells w a xs

theorem cell_lt {w : World} {x : Addr} {v : Value} (h : w.cell? x = some v) : x.block < w.heap.size := by
  rcases Nat.lt_or_ge x.block w.heap.size with h1 | h1
  · exact h1
  · simp [World.cell?, Array.getElem?_eq_none h1] at h

theorem add_block (x : Addr) (i : Nat) : (x.add i).block = x.block := by unfold Addr.add; split <;> rfl

theorem Cells.below {w w' : World} {a : Option Addr} {xs : List Int} (h : Cells w a xs) (hb : Below w.heap.size w w') : Cells w' a xs := fun hx => by
  obtain ⟨x, ha, hl, hc⟩ := h hx
  refine ⟨x, ha, Nat.lt_of_lt_of_le hl hb.size, fun i d hd => ?_⟩
  rw [hb.cell (p := x.add i) (by rw [add_block]; exact hl)]
  exact hc i d hd
theorem Ro.below {w w' : World} {v : Value} {xs : List Int} (h : Ro w v xs) (hb : Below w.heap.size w w') : Ro w' v xs := by
  obtain ⟨a, c, h1, h2, h3, h4⟩ := h
  exact ⟨a, c, h1, h2, h3, h4.below hb⟩
theorem Ro.drewN {w : World} {v : Value} {xs : List Int} (h : Ro w v xs) (n : Nat) : Ro (w.drewN n) v xs := h.below (_root_.Go.below_drewN (Below.refl _ _) n)

/-- what came in. -/
theorem IsRow.ro {w : World} {a : Option Addr} {len cap : Nat} {zs : List Int} (h : IsRow .i64 w a len cap zs) : Ro w (.slice a len cap) (zs.take len) := by
  rcases h with ⟨rfl, rfl, rfl, rfl⟩ | ⟨x, rfl, h1, h2, h3, h4, h5⟩
  · exact ⟨none, 0, rfl, Nat.le_refl _, by omega, fun h => absurd rfl h⟩
  · have hl : (zs.take len).length = len := by rw [List.length_take]; omega
    refine ⟨some x, cap, by rw [hl], by omega, by unfold maxLen at h2; omega, fun hx => ⟨x, rfl, ?_, fun i d hd => ?_⟩⟩
    · have h0 : 0 < zs.length := by
        rcases Nat.eq_zero_or_pos zs.length with h | h
        · exact absurd (by rw [List.length_eq_zero_iff.1 h]; simp) hx
        · exact h
      have := cell_lt (x := x.add 0) (h4 0 h0)
      rwa [add_block] at this
    · rw [List.getElem?_take] at hd
      split at hd
      · obtain ⟨hi, he⟩ := List.getElem?_eq_some_iff.1 hd
        rw [h4 i hi, List.getD_eq_getElem?_getD, hd]
        rfl
      · cases hd
end Go.Proofs.YtagnjmellcibhaaGreatDoor

namespace Go.Proofs.YtagnjmellcibhaaGreatDoor
open Go.RowKit

set_option maxHeartbeats 400000 in
theorem fin_any (x a b : Int) (w : World) :
    Calls Tryz.prog 106 #[.int .i64 x, .int .i64 a, .int .i64 b] w fun e w' => e = .returned (.bool (decide (a ≤ x ∧ x ≤ b))) ∧ w' = w := by
  by_cases h1 : a ≤ x
  · by_cases h2 : x ≤ b
    · go_enter Tryz.func106, Tryz.ntmps106
      go_wp2
      go_ret
      exact ⟨by simp [h1, h2], rfl⟩
    · go_enter Tryz.func106, Tryz.ntmps106
      go_wp2
      go_ret
      exact ⟨by simp; omega, rfl⟩
  · go_enter Tryz.func106, Tryz.ntmps106
    go_wp2
    go_ret
    exact ⟨by simp; omega, rfl⟩
theorem fin_yes (x a b : Int) (w : World) (h1 : a ≤ x) (h2 : x ≤ b) :
    Calls Tryz.prog 106 #[.int .i64 x, .int .i64 a, .int .i64 b] w fun e w' => e = .returned (.bool true) ∧ w' = w :=
  (fin_any x a b w).mono fun e w' ⟨h, hw⟩ => ⟨by rw [h, decide_eq_true ⟨h1, h2⟩], hw⟩
theorem fin_no (x a b : Int) (w : World) (h : x < a ∨ b < x) :
    Calls Tryz.prog 106 #[.int .i64 x, .int .i64 a, .int .i64 b] w fun e w' => e = .returned (.bool false) ∧ w' = w :=
  (fin_any x a b w).mono fun e w' ⟨h', hw⟩ => ⟨by rw [h', decide_eq_false (by omega)], hw⟩

set_option maxHeartbeats 400000 in
theorem cell_any (g o : Int) (w : World) :
    Calls Tryz.prog 107 #[.int .i64 g, .int .i64 o] w fun e w' => ∃ v, e = .returned v ∧ Er v (Fd.cellFault g o) ∧ w' = w := by
  unfold Fd.cellFault
  by_cases h1 : 0 ≤ g ∧ g ≤ 3
  · obtain ⟨h1a, h1b⟩ := h1
    by_cases h2 : 0 ≤ o ∧ o ≤ 1000000
    · obtain ⟨h2a, h2b⟩ := h2
      rw [if_neg (by omega)]
      by_cases h3 : 0 < o
      · by_cases h4 : g = 0
        · subst h4
          rw [if_neg (by omega)]
          go_enter Tryz.func107, Tryz.ntmps107
          go_wp2_with (go_at_call 106; refine (fin_yes _ _ _ _ (by omega) (by omega)).mono ?_; rintro e w' ⟨rfl, rfl⟩)
          go_ret
          exact ⟨_, rfl, Er.nil, rfl⟩
        · rw [if_pos ⟨h3, h4⟩]
          go_enter Tryz.func107, Tryz.ntmps107
          go_wp2_with (go_at_call 106; refine (fin_yes _ _ _ _ (by omega) (by omega)).mono ?_; rintro e w' ⟨rfl, rfl⟩)
          go_ret
          exact ⟨_, rfl, Er.no (by decide), rfl⟩
      · rw [if_neg (by omega)]
        go_enter Tryz.func107, Tryz.ntmps107
        go_wp2_with (go_at_call 106; refine (fin_yes _ _ _ _ (by omega) (by omega)).mono ?_; rintro e w' ⟨rfl, rfl⟩)
        go_ret
        exact ⟨_, rfl, Er.nil, rfl⟩
    · rw [if_pos (by omega)]
      have h2' : o < 0 ∨ 1000000 < o := by omega
      clear h2
      go_enter Tryz.func107, Tryz.ntmps107
      go_wp2_with fail
      refine (fin_yes _ _ _ _ (by omega) (by omega)).mono ?_
      rintro e w' ⟨rfl, rfl⟩
      go_wp2_with fail
      refine (fin_no _ _ _ _ h2').mono ?_
      rintro e w' ⟨rfl, rfl⟩
      go_wp2
      go_ret
      exact ⟨_, rfl, Er.no (by decide), rfl⟩
  · rw [if_pos (by omega)]
    have h1' : g < 0 ∨ 3 < g := by omega
    clear h1
    go_enter Tryz.func107, Tryz.ntmps107
    go_wp2_with fail
    refine (fin_no _ _ _ _ h1').mono ?_
    rintro e w' ⟨rfl, rfl⟩
    go_wp2
    go_ret
    exact ⟨_, rfl, Er.no (by decide), rfl⟩
theorem cell_ok (g o : Int) (w : World) (h : Fd.cellFault g o = 0) :
    Calls Tryz.prog 107 #[.int .i64 g, .int .i64 o] w fun e w' => e = .returned .nilIface ∧ w' = w := by
  refine (cell_any g o w).mono ?_
  rintro e w' ⟨v, rfl, hv, rfl⟩
  rcases hv with ⟨_, rfl⟩ | ⟨hn, _⟩
  · exact ⟨rfl, rfl⟩
  · exact absurd h hn
theorem cell_bad (g o f : Int) (w : World) (h : Fd.cellFault g o = f) (hf : f ≠ 0) :
    Calls Tryz.prog 107 #[.int .i64 g, .int .i64 o] w fun e w' => e = .returned (.iface 75 (.int .i64 f)) ∧ w' = w := by
  refine (cell_any g o w).mono ?_
  rintro e w' ⟨v, rfl, hv, rfl⟩
  rw [h] at hv
  rcases hv with ⟨hn, _⟩ | ⟨_, rfl⟩
  · exact absurd hn hf
  · exact ⟨rfl, rfl⟩
end Go.Proofs.YtagnjmellcibhaaGreatDoor

namespace Go.Proofs.YtagnjmellcibhaaGreatDoor
open Go.RowKit
set_option linter.unusedVariables false

/-- v is a field of Ground gs and Ore os. -/
def Fl (w : World) (v : Value) (W H : Int) (gs os : List Int) : Prop := ∃ u1 u2, v = .agg #[.int .i64 W, .int .i64 H, u1, u2] ∧ Ro w u1 gs ∧ Ro w u2 os
theorem Fl.below {w w' : World} {v : Value} {W H : Int} {gs os : List Int} (h : Fl w v W H gs os) (hb : Below w.heap.size w w') : Fl w' v W H gs os := by
  obtain ⟨u1, u2, h1, h2, h3⟩ := h
  exact ⟨u1, u2, h1, h2.below hb, h3.below hb⟩

/-- a field in a box. -/
structure Bf (w : World) (z : Nat) (W H : Int) (u1 u2 : Value) : Prop where
  c0 : w.cell? ⟨z, 0, none⟩ = some (.int .i64 W)
  c1 : w.cell? ⟨z, 1, none⟩ = some (.int .i64 H)
  c2 : w.cell? ⟨z, 2, none⟩ = some u1
  c3 : w.cell? ⟨z, 3, none⟩ = some u2
theorem Bf.lt {w : World} {z : Nat} {W H : Int} {u1 u2 : Value} (h : Bf w z W H u1 u2) : z < w.heap.size := cell_lt h.c0
theorem Bf.below {w w' : World} {z n : Nat} {W H : Int} {u1 u2 : Value} (h : Bf w z W H u1 u2) (hb : Below n w w') (hn : z < n) : Bf w' z W H u1 u2 :=
  ⟨by rw [hb.cell (p := ⟨z, 0, none⟩) hn]; exact h.c0, by rw [hb.cell (p := ⟨z, 1, none⟩) hn]; exact h.c1, by rw [hb.cell (p := ⟨z, 2, none⟩) hn]; exact h.c2, by rw [hb.cell (p := ⟨z, 3, none⟩) hn]; exact h.c3⟩
theorem Bf.drewN {w : World} {z : Nat} {W H : Int} {u1 u2 : Value} (h : Bf w z W H u1 u2) (n : Nat) : Bf (w.drewN n) z W H u1 u2 := h.below (_root_.Go.below_drewN (Below.refl _ _) n) h.lt
theorem Bf.mk' {w : World} {z : Nat} (W H : Int) (u1 u2 : Value) (hz : w.heap.size = z) : Bf (w.alloc (.cells #[.int .i64 W, .int .i64 H, u1, u2] 25)) z W H u1 u2 := by
  subst hz
  exact ⟨by simp, by simp, by simp, by simp⟩

set_option maxHeartbeats 1000000 in
theorem check_cells (a b : Option Addr) (c d : Nat) (W H : Int) (gs os : List Int) (w : World) (w1 : 1 ≤ W) (w2 : W ≤ 12) (h1 : 1 ≤ H) (h2 : H ≤ 12) (hg : (gs.length : Int) = W * H) (ho : (os.length : Int) = W * H)
    (c1 : gs.length ≤ c) (c2 : c ≤ 9223372036854775807) (d1 : os.length ≤ d) (d2 : d ≤ 9223372036854775807) (ha : Cells w a gs) (hb : Cells w b os) :
    Calls Tryz.prog 85 #[.agg #[.int .i64 W, .int .i64 H, .slice a gs.length c, .slice b os.length d]] w fun e w' => ∃ v, e = .returned v ∧ Er v (Fd.cellsFault gs os) ∧ Below w.heap.size w w' := by
  have Ha : Hid (Cells w a gs) := ha
  have Hb : Hid (Cells w b os) := hb
  have hn : W * H ≤ 144 := by
    have := Int.mul_le_mul w2 h2 (by omega) (by omega)
    omega
  have Ho : Hid (os.length = gs.length) := by unfold Hid; omega
  have e1 : W * H = (gs.length : Int) := by omega
  have e2 : os.length = gs.length := Ho.out
  clear ha hb
  rw [e2] at d1 ⊢
  clear hg ho e2
  generalize hw0 : w.alloc (Obj.cells #[.int .i64 W, .int .i64 H, .slice a gs.length c, .slice b gs.length d] 25) = w0
  have B0 : Hid (Below w.heap.size w w0) := by rw [← hw0]; exact (Below.refl _ _).alloc (Nat.le_refl _) _
  have f0 : w0.cell? ⟨w.heap.size, 2, none⟩ = some (.slice a gs.length c) := by rw [← hw0]; simp
  have f1 : w0.cell? ⟨w.heap.size, 3, none⟩ = some (.slice b gs.length d) := by rw [← hw0]; simp
  have Hw : Hid (w.alloc (Obj.cells #[.int .i64 W, .int .i64 H, .slice a gs.length c, .slice b gs.length d] 25) = w0) := hw0
  clear hw0
  have Ca : Hid (Cells w0 a gs) := Ha.out.below B0.out
  have Cb : Hid (Cells w0 b os) := Hb.out.below B0.out
  clear Ha Hb
  go_enter Tryz.func85, Tryz.ntmps85
  go_wp2_with (go_at_call 106; refine (fin_yes _ _ _ _ (by omega) (by omega)).mono ?_; rintro e w' ⟨rfl, rfl⟩)
  rw [Hw.out]
  go_loopw [36] (fun i W' => ∃ (k q : Nat), k ≤ gs.length ∧ i = .int .i64 (k : Nat) ∧ Fd.cellsFault (gs.drop k) (os.drop k) = Fd.cellsFault gs os ∧ W' = w0.drewN q) (fun i _ => gs.length - (intOf i).toNat)
  case atStart => exact ⟨0, 0, Nat.zero_le _, rfl, by simp, rfl⟩
  case round =>
    obtain ⟨k, q, hk, rfl, hf, rfl⟩ := hrel
    have Hf : Hid (Fd.cellsFault (gs.drop k) (os.drop k) = Fd.cellsFault gs os) := hf
    clear hf
    by_cases h0 : k = gs.length
    · subst h0
      go_wp2
      go_ret
      refine ⟨_, rfl, ?_, _root_.Go.below_drewN B0.out q⟩
      rw [← Hf.out, List.drop_of_length_le (Nat.le_refl _)]
      exact Er.nil
    · have hkx : k < gs.length := by omega
      have hky : k < os.length := by rw [Ho.out]; exact hkx
      obtain ⟨x, rfl, -, hx⟩ := Ca.out (by intro h; rw [h] at hkx; simp at hkx)
      obtain ⟨y, rfl, -, hy⟩ := Cb.out (by intro h; rw [h] at hky; simp at hky)
      have cx := hx k gs[k] (List.getElem?_eq_getElem hkx)
      have cy := hy k os[k] (List.getElem?_eq_getElem hky)
      have Te := Fd.cellsFault_drop gs os k gs[k] os[k] (List.getElem?_eq_getElem hkx) (List.getElem?_eq_getElem hky)
      rw [Hf.out] at Te
      have HT : Hid _ := Te
      generalize gs[k] = p at *
      generalize os[k] = r at *
      clear hx hy Te
      have f0q : (w0.drewN q).cell? ⟨w.heap.size, 2, none⟩ = some (.slice (some x) gs.length c) := f0
      have f1q : (w0.drewN q).cell? ⟨w.heap.size, 3, none⟩ = some (.slice (some y) gs.length d) := f1
      have cxq : (w0.drewN q).cell? (x.add k) = some (.int .i64 p) := cx
      have cyq : (w0.drewN q).cell? (y.add k) = some (.int .i64 r) := cy
      have Bq : Hid (∀ n, Below w.heap.size w ((w0.drewN q).drewN n)) := fun n => _root_.Go.below_drewN (_root_.Go.below_drewN B0.out q) n
      have Eq : Hid (∀ n, (w0.drewN q).drewN n = w0.drewN (q + n)) := fun n => by rw [World.drewN_drewN]
      clear cx cy
      generalize w0.drewN q = wq at *
      by_cases hc : Fd.cellFault p r = 0
      · have Hc : Hid (Fd.cellFault p r = 0) := hc
        clear hc
        go_wp2
        go_quiet ((go_at_call 107; exact Calls.quiet_of_same (cell_ok _ _ _ Hc.out)))
        go_wp2
        go_round
        case rel => exact ⟨k + 1, q + nq, by omega, by go_num, by have := HT.out; rw [if_pos Hc.out] at this; exact this.symm, Eq.out _⟩
        case measure => simp [intOf]; omega
      · generalize hff : Fd.cellFault p r = ff at *
        have Hc : Hid (Fd.cellFault p r = ff) := hff
        have Hn : Hid (ff ≠ 0) := hc
        clear hc hff
        go_wp2
        go_quiet ((go_at_call 107; exact Calls.quiet_of_same (cell_bad _ _ _ _ Hc.out Hn.out)))
        go_wp2
        go_ret
        refine ⟨_, rfl, ?_, Bq.out _⟩
        rw [HT.out, if_neg Hn.out]
        exact Er.no Hn.out

set_option maxHeartbeats 1000000 in
theorem check_range (u1 u2 : Value) (W H : Int) (w : World) (h : W < 1 ∨ 12 < W ∨ H < 1 ∨ 12 < H) :
    Calls Tryz.prog 85 #[.agg #[.int .i64 W, .int .i64 H, u1, u2]] w fun e w' => e = .returned (.iface 75 (.int .i64 1)) ∧ Below w.heap.size w w' := by
  by_cases h1 : 1 ≤ W ∧ W ≤ 12
  · obtain ⟨h1a, h1b⟩ := h1
    have h2 : H < 1 ∨ 12 < H := by omega
    clear h
    go_enter Tryz.func85, Tryz.ntmps85
    go_wp2_with fail
    refine (fin_yes _ _ _ _ (by omega) (by omega)).mono ?_
    rintro e w' ⟨rfl, rfl⟩
    go_wp2_with fail
    refine (fin_no _ _ _ _ h2).mono ?_
    rintro e w' ⟨rfl, rfl⟩
    go_wp2
    go_ret
    exact ⟨rfl, (Below.refl _ _).alloc (Nat.le_refl _) _⟩
  · have h2 : W < 1 ∨ 12 < W := by omega
    clear h h1
    go_enter Tryz.func85, Tryz.ntmps85
    go_wp2_with fail
    refine (fin_no _ _ _ _ h2).mono ?_
    rintro e w' ⟨rfl, rfl⟩
    go_wp2
    go_ret
    exact ⟨rfl, (Below.refl _ _).alloc (Nat.le_refl _) _⟩

set_option maxHeartbeats 1000000 in
theorem check_shape (a b : Option Addr) (n m c d : Nat) (W H : Int) (w : World) (w1 : 1 ≤ W) (w2 : W ≤ 12) (h1 : 1 ≤ H) (h2 : H ≤ 12) (h : (n : Int) ≠ W * H ∨ (m : Int) ≠ W * H) :
    Calls Tryz.prog 85 #[.agg #[.int .i64 W, .int .i64 H, .slice a n c, .slice b m d]] w fun e w' => e = .returned (.iface 75 (.int .i64 3)) ∧ Below w.heap.size w w' := by
  have hn : W * H ≤ 144 := by
    have := Int.mul_le_mul w2 h2 (by omega) (by omega)
    omega
  have hp : 0 ≤ W * H := Int.mul_nonneg (by omega) (by omega)
  by_cases e : (n : Int) = W * H
  · have e2 : ¬ (m : Int) = W * H := by omega
    have e' : W * H = (n : Int) := e.symm
    rw [e'] at e2
    clear h e
    go_enter Tryz.func85, Tryz.ntmps85
    go_wp2_with (go_at_call 106; refine (fin_yes _ _ _ _ (by omega) (by omega)).mono ?_; rintro e w' ⟨rfl, rfl⟩)
    go_ret
    exact ⟨rfl, (Below.refl _ _).alloc (Nat.le_refl _) _⟩
  · clear h
    go_enter Tryz.func85, Tryz.ntmps85
    go_wp2_with (go_at_call 106; refine (fin_yes _ _ _ _ (by omega) (by omega)).mono ?_; rintro e w' ⟨rfl, rfl⟩)
    go_ret
    exact ⟨rfl, (Below.refl _ _).alloc (Nat.le_refl _) _⟩

/-- what Check says. -/
theorem check_any (v : Value) (W H : Int) (gs os : List Int) (w : World) (h : Fl w v W H gs os) :
    Calls Tryz.prog 85 #[v] w fun e w' => ∃ u, e = .returned u ∧ Er u (Fd.fault W H gs os) ∧ Below w.heap.size w w' := by
  obtain ⟨u1, u2, rfl, ⟨a, c, rfl, c1, c2, ca⟩, ⟨b, d, rfl, d1, d2, cb⟩⟩ := h
  unfold Fd.fault
  by_cases h1 : W < 1 ∨ 12 < W ∨ H < 1 ∨ 12 < H
  · rw [if_pos h1]
    exact (check_range _ _ W H w h1).mono fun e w' ⟨he, hb⟩ => ⟨_, he, Er.no (by decide), hb⟩
  · rw [if_neg h1]
    by_cases h2 : (gs.length : Int) ≠ W * H ∨ (os.length : Int) ≠ W * H
    · rw [if_pos h2]
      exact (check_shape _ _ _ _ _ _ W H w (by omega) (by omega) (by omega) (by omega) h2).mono fun e w' ⟨he, hb⟩ => ⟨_, he, Er.no (by decide), hb⟩
    · rw [if_neg h2]
      exact check_cells a b c d W H gs os w (by omega) (by omega) (by omega) (by omega) (by omega) (by omega) c1 c2 d1 d2 ca cb
end Go.Proofs.YtagnjmellcibhaaGreatDoor

namespace Go.Proofs.YtagnjmellcibhaaGreatDoor
open Go.RowKit
set_option linter.unusedVariables false

theorem info_int : (Tryz.prog.info? 3).map (fun i => (i.zero, i.size, i.bytes)) = some (some (.int .i64 0), 1, 8) := by kernel_rfl

/-- v is a slice of the integers xs, in a block of its own from base on. -/
def Ow (w : World) (base : Nat) (v : Value) (xs : List Int) : Prop := w.ownsRow base 3 1 v xs.length (xs.map (Value.int .i64))
theorem Ow.nil (w : World) (base : Nat) : Ow w base (.slice none 0 0) [] := World.ownsRow_nil _ _ _ _
theorem Ow.ro {w : World} {base : Nat} {v : Value} {xs : List Int} (h : Ow w base v xs) : Ro w v xs := by
  rcases h.2 with ⟨hv, h0⟩ | ⟨g, cap, cur, hv, hb, hg, h1, h2, h3, h4⟩
  · obtain rfl := List.length_eq_zero_iff.1 h0
    exact ⟨none, 0, hv, Nat.le_refl _, by omega, fun h => absurd rfl h⟩
  · refine ⟨_, cap, hv, h1, by unfold maxLen at h2; omega, fun _ => ⟨_, rfl, lt_of_block hg, fun i d hd => ?_⟩⟩
    have hi : i < xs.length := (List.getElem?_eq_some_iff.1 hd).1
    rw [Addr.add_lit, Nat.zero_add]
    have h5 : w.ownsRow base 3 1 (.slice (some ⟨g, 0, none⟩) xs.length cap) xs.length (xs.map (Value.int .i64)) := by rw [← hv]; exact h
    rw [h5.cellAt i (by omega), List.getElem?_map, hd]
    rfl
theorem Ow.kept {w w' : World} {base : Nat} {v : Value} {xs : List Int} {row : Option Nat} (h : Ow w base v xs) (hg : w.grownBy w' row) (hne : v.ownBlock = none ∨ v.ownBlock ≠ row) : Ow w' base v xs := World.ownsRow.kept h hg hne
theorem Ow.alloc {w : World} {base : Nat} {v : Value} {xs : List Int} (h : Ow w base v xs) (o : Obj) : Ow (w.alloc o) base v xs := World.ownsRow.alloc h o
theorem Ow.drewN {w : World} {base : Nat} {v : Value} {xs : List Int} (h : Ow w base v xs) (n : Nat) : Ow (w.drewN n) base v xs := h
theorem Ow.block {w : World} {base : Nat} {v : Value} {xs : List Int} (h : Ow w base v xs) : ∀ k, v.ownBlock = some k → base ≤ k ∧ k < w.heap.size := World.ownsRow.lt h
theorem Ow.below {w w' : World} {base : Nat} {v : Value} {xs : List Int} (h : Ow w base v xs) (hb : Below w.heap.size w w') : Ow w' base v xs :=
  h.kept (row := none) ⟨hb.os, hb.tape, hb.output, hb.size, fun k hk _ => hb.block k hk⟩ (by cases v.ownBlock <;> simp)
theorem Ow.mono {w : World} {base base' : Nat} {v : Value} {xs : List Int} (h : Ow w base v xs) (hb : base' ≤ base) : Ow w base' v xs := by
  refine ⟨h.1, ?_⟩
  rcases h.2 with h1 | ⟨g, cap, cur, h1, h2, h3⟩
  · exact .inl h1
  · exact .inr ⟨g, cap, cur, h1, Nat.le_trans hb h2, h3⟩
theorem Ow.len {w : World} {base : Nat} {v : Value} {xs : List Int} (h : Ow w base v xs) : ∃ a c, v = .slice a xs.length c := by
  obtain ⟨a, c, h1, -⟩ := h.ro
  exact ⟨a, c, h1⟩

/-- one more. -/
theorem app_int {ops : Array Oper} {rest : List Oper} {o : Oper} {a : Act} {Q : Exit → Act → World → Prop} (w : World) (hgd : o.guard = none) (s x : Operand)
    (ho : o.op = .call { callee := .builtin .append, args := #[s, x], argTypes := #[23, 23] }) (base : Nat) (v : Value) (xs : List Int) (hs : a.eval s = v) (hown : Ow w base v xs)
    (ad : Addr) (d : Int) (hx : a.eval x = .slice (some ad) 1 1) (hd : w.cell? ad = some (.int .i64 d)) (hl : xs.length ≤ 1000000000) (hbase : base ≤ w.heap.size)
    (h : ∀ g cap w', Ow w' base (.slice (some ⟨g, 0, none⟩) (xs.length + 1) cap) (xs ++ [d]) → w.grownBy w' v.ownBlock → (v.ownBlock = some g ∨ g = w.heap.size) → g < w'.heap.size → wpList Tryz.prog ops Q rest (a.put o.dst (.slice (some ⟨g, 0, none⟩) (xs.length + 1) cap)) w') :
    wpList Tryz.prog ops Q (o :: rest) a w := by
  obtain ⟨i0, hi, hz0, hz1, hz2⟩ := info_parts info_int
  refine wpList_append_lies w hgd s x 23 ho base 3 i0 (.int .i64 0) 1 8 Tryz.underlying23 hi hz0 hz1 hz2 rfl (by decide) v xs.length _ hs hown ad 1 1 [.int .i64 d] hx rfl ?_ ?_ (by decide) (by unfold maxLen; omega) (by omega) hbase _ rfl ?_
  · intro j u hj
    match j, hj with
    | 0, hj => simp at hj; subst hj; exact hd
  · intro u hu
    simp at hu
    subst hu
    rfl
  · intro g cap w' h1 h2 h3 h4
    refine h g cap w' ?_ h2 h3 h4
    unfold Ow
    rw [List.length_append, List.map_append]
    exact h1

/-- a list of one. -/
theorem Ow.one {w : World} {base z : Nat} (d : Int) (hb : base ≤ w.heap.size) (hz : w.heap.size = z) : Ow (w.alloc (.cells #[.int .i64 d] 3)) base (.slice (some ⟨z, 0, none⟩) 1 1) [d] := by
  subst hz
  exact ⟨rfl, .inr ⟨_, _, _, rfl, hb, heap_alloc_new w _, Nat.le_refl _, by unfold maxLen; decide, rfl, rfl⟩⟩
end Go.Proofs.YtagnjmellcibhaaGreatDoor

namespace Go.Proofs.YtagnjmellcibhaaGreatDoor
open Go.RowKit
set_option linter.unusedVariables false

set_option maxHeartbeats 400000 in
theorem fplace_any (W a c r : Nat) (w : World) (h1 : 0 < W) (h2 : W ≤ 12) (h3 : a ≤ 144) (hc : a % W = c) (hr : a / W = r) :
    Calls Tryz.prog 115 #[.int .i64 (W : Nat), .int .i64 (a : Nat)] w fun e w' => e = .returned (.tuple #[.int .i64 (c : Nat), .int .i64 (r : Nat)]) ∧ ∃ n, w' = w.drewN n := by
  have hw : ¬ (W : Int) = 0 := by omega
  have e1 : (a : Int) % (W : Int) = (c : Nat) := by rw [← hc]; rfl
  have e2 : (a : Int) / (W : Int) = (r : Nat) := by rw [← hr]; rfl
  have l1 : r ≤ 144 := by rw [← hr]; exact Nat.le_trans (Nat.div_le_self _ _) h3
  clear hc hr
  go_enter Tryz.func115, Tryz.ntmps115
  go_wp2
  go_quiet (fail)
  go_wp2
  go_ret2
  exact ⟨by show Ending.returned (.tuple #[.int .i64 ((a : Int) % W), .int .i64 r]) = _; rw [e1], _, rfl⟩
end Go.Proofs.YtagnjmellcibhaaGreatDoor

namespace Go.Proofs.YtagnjmellcibhaaGreatDoor
open Go.RowKit
set_option linter.unusedVariables false

theorem Ro.lit1 {w : World} {z : Nat} (a : Int) (hz : w.heap.size = z) : Ro (w.alloc (.cells #[.int .i64 a] 3)) (.slice (some ⟨z, 0, none⟩) 1 1) [a] := by
  subst hz
  refine ⟨_, 1, rfl, Nat.le_refl _, by omega, fun _ => ⟨_, rfl, by simp, fun i d hd => ?_⟩⟩
  rw [Addr.add_lit, Nat.zero_add]
  match i, hd with
  | 0, hd => simp at hd; subst hd; simp
theorem Ro.lit2 {w : World} {z : Nat} (a b : Int) (hz : w.heap.size = z) : Ro (w.alloc (.cells #[.int .i64 a, .int .i64 b] 3)) (.slice (some ⟨z, 0, none⟩) 2 2) [a, b] := by
  subst hz
  refine ⟨_, 2, rfl, Nat.le_refl _, by omega, fun _ => ⟨_, rfl, by simp, fun i d hd => ?_⟩⟩
  rw [Addr.add_lit, Nat.zero_add]
  match i, hd with
  | 0, hd => simp at hd; subst hd; simp
  | 1, hd => simp at hd; subst hd; simp
end Go.Proofs.YtagnjmellcibhaaGreatDoor

namespace Go.Proofs.YtagnjmellcibhaaGreatDoor
open Go.RowKit
set_option linter.unusedVariables false

theorem any_snoc {p : Int → Bool} {xs : List Int} {k : Nat} (h : k < xs.length) : (xs.take (k + 1)).any p = ((xs.take k).any p || p xs[k]) := by
  rw [List.take_succ_eq_append_getElem h, List.any_append]
  simp

set_option maxHeartbeats 1000000 in
theorem idx1_any (u q : Value) (xs : List Int) (p : Int → Bool) (w : World) (hu : Ro w u xs)
    (hp : ∀ x ∈ xs, Calls Tryz.prog 118 #[.int .i64 x, q] w fun e w' => e = .returned (.bool (p x)) ∧ w' = w) :
    Calls Tryz.prog 108 #[u, .func (Fn.func 118) #[] #[q]] w fun e w' => ∃ r : Int, e = .returned (.int .i64 r) ∧ decide (0 ≤ r) = xs.any p ∧ w' = w := by
  obtain ⟨a, c, rfl, c1, c2, ca⟩ := hu
  have Ca : Hid (Cells w a xs) := ca
  have Hp : Hid (∀ x ∈ xs, Calls Tryz.prog 118 #[.int .i64 x, q] w fun e w' => e = .returned (.bool (p x)) ∧ w' = w) := hp
  clear ca hp
  go_enter Tryz.func108, Tryz.ntmps108
  go_wp2
  go_loop [8] (fun i => ∃ k : Nat, k ≤ xs.length ∧ i = .int .i64 (k : Nat) ∧ (xs.take k).any p = false) (fun i => xs.length - (intOf i).toNat)
  case atStart => exact ⟨0, Nat.zero_le _, rfl, by simp⟩
  case round =>
    obtain ⟨k, hk, rfl, ht⟩ := hrel
    have Ht : Hid ((xs.take k).any p = false) := ht
    clear ht
    by_cases h0 : k = xs.length
    · subst h0
      go_wp2
      go_ret
      refine ⟨_, rfl, ?_, rfl⟩
      have := Ht.out
      rw [List.take_of_length_le (Nat.le_refl _)] at this
      rw [this]
      decide
    · have hkx : k < xs.length := by omega
      obtain ⟨x, rfl, -, hx⟩ := Ca.out (by intro h; rw [h] at hkx; simp at hkx)
      have cx := hx k xs[k] (List.getElem?_eq_getElem hkx)
      have hc := Hp.out xs[k] (List.getElem_mem hkx)
      have Hs : Hid _ := any_snoc (p := p) hkx
      have Hm : Hid (p xs[k] = true → xs.any p = true) := fun h => List.any_eq_true.2 ⟨_, List.getElem_mem hkx, h⟩
      generalize xs[k] = y at *
      clear hx
      cases hy : p y with
      | true =>
        rw [hy] at hc
        have Hc : Hid (Calls Tryz.prog 118 #[.int .i64 y, q] w fun e w' => e = .returned (.bool true) ∧ w' = w) := hc
        have Hy : Hid (p y = true) := hy
        clear hc hy
        go_wp2_with fail
        refine Calls.mono Hc.out ?_
        rintro e w1 ⟨rfl, rfl⟩
        go_wp2
        go_ret
        exact ⟨_, rfl, by rw [Hm.out Hy.out, decide_eq_true (by omega)], rfl⟩
      | false =>
        rw [hy] at hc
        have Hc : Hid (Calls Tryz.prog 118 #[.int .i64 y, q] w fun e w' => e = .returned (.bool false) ∧ w' = w) := hc
        have Hy : Hid (p y = false) := hy
        clear hc hy
        go_wp2_with fail
        refine Calls.mono Hc.out ?_
        rintro e w1 ⟨rfl, rfl⟩
        go_wp2
        go_round
        case rel => exact ⟨k + 1, by omega, by go_num, by have := Hs.out; rw [Ht.out, Hy.out] at this; exact this⟩
        case measure => simp [intOf]; omega

set_option maxHeartbeats 1000000 in
theorem has1_any (u q : Value) (xs : List Int) (p : Int → Bool) (w : World) (hu : Ro w u xs)
    (hp : ∀ x ∈ xs, Calls Tryz.prog 118 #[.int .i64 x, q] w fun e w' => e = .returned (.bool (p x)) ∧ w' = w) :
    Calls Tryz.prog 88 #[u, .func (Fn.func 118) #[] #[q]] w fun e w' => e = .returned (.bool (xs.any p)) ∧ w' = w := by
  have H := idx1_any u q xs p w hu hp
  have H' : Hid (Calls Tryz.prog 108 #[u, .func (Fn.func 118) #[] #[q]] w fun e w' => ∃ r : Int, e = .returned (.int .i64 r) ∧ decide (0 ≤ r) = xs.any p ∧ w' = w) := H
  clear H hp
  go_enter Tryz.func88, Tryz.ntmps88
  go_wp2_with fail
  refine Calls.mono H'.out ?_
  rintro e w1 ⟨r, rfl, hr, rfl⟩
  have Hr : Hid (decide (0 ≤ r) = xs.any p) := hr
  clear hr
  go_wp2
  go_ret
  exact ⟨by show Ending.returned (.bool (decide (0 ≤ r))) = _; rw [Hr.out], rfl⟩

set_option maxHeartbeats 1000000 in
theorem none_any (x : Int) (b : Nat) (a : Option Addr) (n c : Nat) (w : World) (hb : w.cell? ⟨b, 2, none⟩ = some (.slice a n c)) (hn : n ≤ 9223372036854775807) :
    Calls Tryz.prog 118 #[.int .i64 x, .pointer (some ⟨b, 0, none⟩)] w fun e w' => e = .returned (.bool (!decide (0 ≤ x ∧ x < n))) ∧ w' = w := by
  go_enter Tryz.func118, Tryz.ntmps118
  go_wp2_with (go_at_call 106; refine (fin_any _ _ _ _).mono ?_; rintro e w' ⟨rfl, rfl⟩)
  go_ret
  exact ⟨by show Ending.returned (.bool (!decide (0 ≤ x) || !decide (x ≤ (n : Int) - 1))) = _; rw [show (!decide (0 ≤ x) || !decide (x ≤ (n : Int) - 1)) = !decide (0 ≤ x ∧ x < n) by rw [← Bool.not_and, ← Bool.decide_and]; congr 1; rw [decide_eq_decide]; omega], rfl⟩

set_option maxHeartbeats 1000000 in
theorem ask_any (v u : Value) (W H : Int) (gs os xs : List Int) (w : World) (h : Fl w v W H gs os) (hu : Ro w u xs) :
    Calls Tryz.prog 99 #[v, u] w fun e w' => ∃ u, e = .returned u ∧ Er u (Fd.askFault (Fd.fault W H gs os) gs.length xs) ∧ Below w.heap.size w w' := by
  have F0 : Hid (Fl w v W H gs os) := h
  have U0 : Hid (Ro w u xs) := hu
  obtain ⟨u1, u2, rfl, ⟨a, c, rfl, c1, c2, ca⟩, ⟨b, d, rfl, d1, d2, cb⟩⟩ := h
  clear hu ca cb d1 d2
  generalize hw0 : w.alloc (Obj.cells #[.int .i64 W, .int .i64 H, .slice a gs.length c, .slice b os.length d] 25) = w0
  have B0 : Hid (Below w.heap.size w w0) := by rw [← hw0]; exact (Below.refl _ _).alloc (Nat.le_refl _) _
  have f0 : Hid (w0.cell? ⟨w.heap.size, 2, none⟩ = some (.slice a gs.length c)) := by rw [← hw0]; unfold Hid; simp
  have Z0 : Hid (w.heap.size < w0.heap.size) := by rw [← hw0]; unfold Hid; simp
  have Hw : Hid (w.alloc (Obj.cells #[.int .i64 W, .int .i64 H, .slice a gs.length c, .slice b os.length d] 25) = w0) := hw0
  clear hw0
  go_enter Tryz.func99, Tryz.ntmps99
  go_wp2_with fail
  rw [Hw.out]
  refine (check_any _ W H gs os _ (F0.out.below B0.out)).mono ?_
  rintro e w1 ⟨v1, rfl, hv, hb⟩
  have B1 : Hid (Below w.heap.size w w1) := B0.out.trans (hb.mono B0.out.size)
  have f1 : Hid (w1.cell? ⟨w.heap.size, 2, none⟩ = some (.slice a gs.length c)) := by
    unfold Hid
    rw [hb.cell (p := ⟨w.heap.size, 2, none⟩) Z0.out]
    exact f0.out
  have U1 : Hid (Ro w1 u xs) := U0.out.below B1.out
  clear hb
  rcases hv with ⟨hz, rfl⟩ | ⟨hz, rfl⟩
  · have Hz : Hid (Fd.fault W H gs os = 0) := hz
    clear hz
    have hh := has1_any u (.pointer (some ⟨w.heap.size, 0, none⟩)) xs (fun x => !decide (0 ≤ x ∧ x < gs.length)) w1 U1.out (fun x _ => none_any x _ a gs.length c w1 f1.out (by omega))
    have Ea : Hid (Fd.askFault (Fd.fault W H gs os) gs.length xs = if xs.any (fun x => !decide (0 ≤ x ∧ x < gs.length)) then 6 else 0) := by
      unfold Hid Fd.askFault
      rw [if_neg (by rw [Hz.out]; decide)]
      cases hx : xs.all (fun x => decide (0 ≤ x ∧ x < gs.length)) with
      | true =>
        rw [if_pos rfl, if_neg]
        rw [List.all_eq_true] at hx
        simp only [List.any_eq_true, Bool.not_eq_true', not_exists, not_and]
        intro x hm
        rw [hx x hm]
        decide
      | false =>
        rw [if_neg (by decide), if_pos]
        rw [List.all_eq_false] at hx
        obtain ⟨x, hm, hx⟩ := hx
        exact List.any_eq_true.2 ⟨x, hm, by rw [Bool.not_eq_true] at hx; rw [hx]; rfl⟩
    generalize xs.any (fun x => !decide (0 ≤ x ∧ x < gs.length)) = y at *
    have Hh : Hid (Calls Tryz.prog 88 #[u, .func (Fn.func 118) #[] #[.pointer (some ⟨w.heap.size, 0, none⟩)]] w1 fun e w' => e = .returned (.bool y) ∧ w' = w1) := hh
    clear hh
    cases y with
    | true =>
      go_wp2_with fail
      refine Calls.mono Hh.out ?_
      rintro e w2 ⟨rfl, rfl⟩
      go_wp2
      go_ret
      exact ⟨_, rfl, by rw [Ea.out]; exact Er.no (by decide), B1.out⟩
    | false =>
      go_wp2_with fail
      refine Calls.mono Hh.out ?_
      rintro e w2 ⟨rfl, rfl⟩
      go_wp2
      go_ret
      exact ⟨_, rfl, by rw [Ea.out]; exact Er.nil, B1.out⟩
  · have Hz : Hid (Fd.fault W H gs os ≠ 0) := hz
    clear hz
    have Ea : Hid (Fd.askFault (Fd.fault W H gs os) gs.length xs = Fd.fault W H gs os) := by
      unfold Hid Fd.askFault
      rw [if_pos Hz.out]
    go_wp2
    go_ret
    exact ⟨_, rfl, by rw [Ea.out]; exact Er.no Hz.out, B1.out⟩
end Go.Proofs.YtagnjmellcibhaaGreatDoor

namespace Go.Proofs.YtagnjmellcibhaaGreatDoor
open Go.RowKit
set_option linter.unusedVariables false

theorem ask1_zero {F : Int} {n : Nat} {a : Int} (h : Fd.askFault F n [a] = 0) : F = 0 ∧ 0 ≤ a ∧ a < n := by
  unfold Fd.askFault at h
  split at h
  · omega
  · rename_i hF
    have hF : F = 0 := by omega
    split at h
    · rename_i hx
      simp at hx
      omega
    · omega
theorem ask1_good {W H : Nat} {gs os : List Int} {a : Nat} (G : Fd.Good W H gs os) (ha : a < W * H) : Fd.askFault (Fd.fault W H gs os) gs.length [(a : Int)] = 0 := by
  unfold Fd.askFault
  rw [Fd.fault_good G, if_neg (by decide), if_pos]
  rw [G.gl]
  simp
  omega
set_option maxHeartbeats 1000000 in
theorem step_any (g : Int) (fl : Bool) (w : World) :
    Calls Tryz.prog 100 #[.int .i64 g, .bool fl] w fun e w' => e = .returned (.int .i64 (Fd.onto g fl)) ∧ w' = w := by
  have O : Hid (∀ u, u = Fd.onto g fl → Ending.returned (.int .i64 u) = .returned (.int .i64 (Fd.onto g fl))) := fun u h => by rw [h]
  unfold Fd.onto at O
  by_cases h1 : g = 1
  · subst h1
    go_enter Tryz.func100, Tryz.ntmps100
    go_wp2
    go_ret
    exact ⟨O.out 0 rfl, rfl⟩
  · by_cases h2 : g = 2
    · subst h2
      cases fl
      · go_enter Tryz.func100, Tryz.ntmps100
        go_wp2
        go_ret
        exact ⟨O.out 0 rfl, rfl⟩
      · go_enter Tryz.func100, Tryz.ntmps100
        go_wp2
        go_ret
        exact ⟨O.out 1 rfl, rfl⟩
    · by_cases h3 : g = 3
      · subst h3
        cases fl
        · go_enter Tryz.func100, Tryz.ntmps100
          go_wp2
          go_ret
          exact ⟨O.out 2 rfl, rfl⟩
        · go_enter Tryz.func100, Tryz.ntmps100
          go_wp2
          go_ret
          exact ⟨O.out 1 rfl, rfl⟩
      · go_enter Tryz.func100, Tryz.ntmps100
        go_wp2
        go_ret
        exact ⟨O.out 1 (by rw [if_neg h1, if_neg h2, if_neg h3]), rfl⟩
set_option maxHeartbeats 1000000 in
theorem Step_ok (v : Value) (W H : Nat) (gs os : List Int) (a : Nat) (g : Int) (fl : Bool) (w : World) (h : Fl w v W H gs os) (G : Fd.Good W H gs os) (ha : a < W * H) (hg : gs[a]? = some g) :
    Calls Tryz.prog 77 #[v, .int .i64 (a : Nat), .bool fl] w fun e w' => e = .returned (.tuple #[.int .i64 (Fd.onto g fl), .nilIface]) ∧ Below w.heap.size w w' := by
  have F0 : Hid (Fl w v W H gs os) := h
  have HF : Hid (Fd.askFault (Fd.fault W H gs os) gs.length [(a : Int)] = 0) := ask1_good G ha
  obtain ⟨u1, u2, rfl, ⟨a1, c, rfl, c1, c2, ca⟩, ⟨b1, d, rfl, d1, d2, cb⟩⟩ := h
  have gl := G.gl
  have hal : a < gs.length := by omega
  have gp := G.pos.2
  obtain ⟨x, rfl, xl, hx⟩ := ca (by intro e; rw [e] at hal; simp at hal)
  have cx : Hid (w.cell? (x.add a) = some (.int .i64 g)) := hx a g hg
  have Xl : Hid (x.block < w.heap.size) := xl
  have gl2 : gs.length ≤ 144 := by omega
  clear cb hx xl G hg gl gp ha
  go_enter Tryz.func77, Tryz.ntmps77
  go_wp2_with fail
  refine (ask_any _ _ W H gs os [(a : Int)] _ (F0.out.below (((Below.refl _ _).alloc (Nat.le_refl _) _).alloc (by simp) _)) (Ro.lit1 (w := w.alloc _) a (by simp))).mono ?_
  rintro e w1 ⟨v1, rfl, hv, hb⟩
  have B1 : Hid (Below w.heap.size w w1) := (((Below.refl _ _).alloc (Nat.le_refl _) _).alloc (by simp) _).trans (hb.mono (by simp; omega))
  have X1 := ((Bf.mk' (w := w) W H (Value.slice (some x) gs.length c) (Value.slice b1 os.length d) rfl).below ((Below.refl _ _).alloc (Nat.le_refl _) (Obj.cells #[Value.int IntKind.i64 a] 3)) (by simp)).below hb (by simp; omega)
  have c2 := X1.c2
  have cg : w1.cell? (x.add a) = some (.int .i64 g) := by rw [B1.out.cell (p := x.add a) (by rw [add_block]; exact Xl.out)]; exact cx.out
  rw [HF.out] at hv
  clear hb X1
  rcases hv with ⟨hz, rfl⟩ | ⟨hz, rfl⟩
  · clear hz
    go_wp2_with fail
    refine (step_any _ _ _).mono ?_
    rintro e w2 ⟨rfl, rfl⟩
    go_wp2
    go_ret2
    exact ⟨rfl, B1⟩
  · exact absurd rfl hz
end Go.Proofs.YtagnjmellcibhaaGreatDoor

namespace Go.Proofs.YtagnjmellcibhaaGreatDoor
open Go.RowKit
set_option linter.unusedVariables false

/-- the package variable of the four sides. -/
structure Sd (w : World) : Prop where
  c0 : w.cell? ⟨1, 0, none⟩ = some (.int .i64 0)
  c1 : w.cell? ⟨1, 1, none⟩ = some (.int .i64 (-1))
  c2 : w.cell? ⟨1, 2, none⟩ = some (.int .i64 (-1))
  c3 : w.cell? ⟨1, 3, none⟩ = some (.int .i64 0)
  c4 : w.cell? ⟨1, 4, none⟩ = some (.int .i64 1)
  c5 : w.cell? ⟨1, 5, none⟩ = some (.int .i64 0)
  c6 : w.cell? ⟨1, 6, none⟩ = some (.int .i64 0)
  c7 : w.cell? ⟨1, 7, none⟩ = some (.int .i64 1)
theorem Sd.lt {w : World} (h : Sd w) : 1 < w.heap.size := cell_lt h.c0
theorem Sd.below {w w' : World} (h : Sd w) (hb : Below w.heap.size w w') : Sd w' := by
  have l := h.lt
  refine ⟨?_, ?_, ?_, ?_, ?_, ?_, ?_, ?_⟩
  · rw [hb.cell (p := ⟨1, 0, none⟩) l]; exact h.c0
  · rw [hb.cell (p := ⟨1, 1, none⟩) l]; exact h.c1
  · rw [hb.cell (p := ⟨1, 2, none⟩) l]; exact h.c2
  · rw [hb.cell (p := ⟨1, 3, none⟩) l]; exact h.c3
  · rw [hb.cell (p := ⟨1, 4, none⟩) l]; exact h.c4
  · rw [hb.cell (p := ⟨1, 5, none⟩) l]; exact h.c5
  · rw [hb.cell (p := ⟨1, 6, none⟩) l]; exact h.c6
  · rw [hb.cell (p := ⟨1, 7, none⟩) l]; exact h.c7

set_option maxHeartbeats 1000000 in
theorem Step_bad (v : Value) (W H : Int) (gs os : List Int) (a F : Int) (fl : Bool) (w : World) (h : Fl w v W H gs os) (hF : Fd.askFault (Fd.fault W H gs os) gs.length [a] = F) (h0 : F ≠ 0) :
    Calls Tryz.prog 77 #[v, .int .i64 a, .bool fl] w fun e w' => e = .returned (.tuple #[.int .i64 0, .iface 75 (.int .i64 F)]) ∧ Below w.heap.size w w' := by
  have F0 : Hid (Fl w v W H gs os) := h
  have HF : Hid (Fd.askFault (Fd.fault W H gs os) gs.length [a] = F) := hF
  have H0 : Hid (F ≠ 0) := h0
  obtain ⟨u1, u2, rfl, ⟨a1, c, rfl, c1, c2, ca⟩, ⟨b1, d, rfl, d1, d2, cb⟩⟩ := h
  clear hF h0 ca cb
  go_enter Tryz.func77, Tryz.ntmps77
  go_wp2_with fail
  refine (ask_any _ _ W H gs os [a] _ (F0.out.below (((Below.refl _ _).alloc (Nat.le_refl _) _).alloc (by simp) _)) (Ro.lit1 (w := w.alloc _) a (by simp))).mono ?_
  rintro e w1 ⟨v1, rfl, hv, hb⟩
  have B1 : Hid (Below w.heap.size w w1) := (((Below.refl _ _).alloc (Nat.le_refl _) _).alloc (by simp) _).trans (hb.mono (by simp; omega))
  rw [HF.out] at hv
  clear hb
  rcases hv with ⟨hz, rfl⟩ | ⟨hz, rfl⟩
  · exact absurd hz H0.out
  · clear hz
    go_wp2
    go_ret2
    exact ⟨rfl, B1⟩

namespace Fd
/-- how many columns, and rows, further the k-th cell beside one is. -/
def sc (k : Nat) : Int := if k = 1 then -1 else if k = 2 then 1 else 0
def sr (k : Nat) : Int := if k = 0 then -1 else if k = 3 then 1 else 0
/-- the first k cells beside one, as far as they are. -/
def nb (W H p r : Nat) : Nat → List Int
  | 0 => []
  | k + 1 => nb W H p r k ++ (if (0 ≤ (p : Int) + sc k ∧ (p : Int) + sc k ≤ (W : Int) - 1) ∧ (0 ≤ (r : Int) + sr k ∧ (r : Int) + sr k ≤ (H : Int) - 1) then [((r : Int) + sr k) * W + (p + sc k)] else [])
theorem nb_len (W H p r k : Nat) : (nb W H p r k).length ≤ k := by
  induction k with
  | zero => exact Nat.le_refl _
  | succ k ih =>
    simp only [nb, List.length_append]
    split
    · simp; omega
    · simp; omega
theorem nb_near {W H a p r : Nat} (hp : p < W) (hr : r < H) (e : W * r + p = a) : nb W H p r 4 = (if 0 < r then [(a : Int) - W] else []) ++ ((if 0 < p then [(a : Int) - 1] else []) ++ ((if p + 1 < W then [(a : Int) + 1] else []) ++ (if r + 1 < H then [(a : Int) + W] else []))) := by
  have e1 : (a : Int) = W * r + p := by rw [← e]; simp
  have e2 : ((r : Int) + -1) * W = W * r - W := by rw [Int.add_mul, Int.mul_comm (r : Int) W]; omega
  have e3 : ((r : Int) + 1) * W = W * r + W := by rw [Int.add_mul, Int.mul_comm (r : Int) W]; omega
  have e4 : ((r : Int) + 0) * W = W * r := by rw [Int.add_zero, Int.mul_comm (r : Int) W]
  simp only [nb, List.nil_append, List.append_assoc]
  rw [show sc 0 = 0 from rfl, show sc 1 = -1 from rfl, show sc 2 = 1 from rfl, show sc 3 = 0 from rfl, show sr 0 = -1 from rfl, show sr 1 = 0 from rfl, show sr 2 = 0 from rfl, show sr 3 = 1 from rfl, e2, e3, e4]
  congr 1
  · by_cases h : 0 < r
    · rw [if_pos (by omega), if_pos h]; congr 1; omega
    · rw [if_neg (by omega), if_neg h]
  · congr 1
    · by_cases h : 0 < p
      · rw [if_pos (by omega), if_pos h]; congr 1; omega
      · rw [if_neg (by omega), if_neg h]
    · congr 1
      · by_cases h : p + 1 < W
        · rw [if_pos (by omega), if_pos h]; congr 1; omega
        · rw [if_neg (by omega), if_neg h]
      · by_cases h : r + 1 < H
        · rw [if_pos (by omega), if_pos h]; congr 1; omega
        · rw [if_neg (by omega), if_neg h]
end Fd

theorem side0 (w : World) : (Instr.index 189 (.agg #[.int .i64 0, .int .i64 (-1), .int .i64 (-1), .int .i64 0, .int .i64 1, .int .i64 0, .int .i64 0, .int .i64 1]) (.int .i64 0)).run Tryz.prog w = .ok (.agg #[.int .i64 0, .int .i64 (-1)]) w := by kernel_rfl
theorem side1 (w : World) : (Instr.index 189 (.agg #[.int .i64 0, .int .i64 (-1), .int .i64 (-1), .int .i64 0, .int .i64 1, .int .i64 0, .int .i64 0, .int .i64 1]) (.int .i64 1)).run Tryz.prog w = .ok (.agg #[.int .i64 (-1), .int .i64 0]) w := by kernel_rfl
theorem side2 (w : World) : (Instr.index 189 (.agg #[.int .i64 0, .int .i64 (-1), .int .i64 (-1), .int .i64 0, .int .i64 1, .int .i64 0, .int .i64 0, .int .i64 1]) (.int .i64 2)).run Tryz.prog w = .ok (.agg #[.int .i64 1, .int .i64 0]) w := by kernel_rfl
theorem side3 (w : World) : (Instr.index 189 (.agg #[.int .i64 0, .int .i64 (-1), .int .i64 (-1), .int .i64 0, .int .i64 1, .int .i64 0, .int .i64 0, .int .i64 1]) (.int .i64 3)).run Tryz.prog w = .ok (.agg #[.int .i64 0, .int .i64 1]) w := by kernel_rfl
theorem side_at (k : Nat) (hk : k < 4) (w : World) : (Instr.index 189 (.agg #[.int .i64 0, .int .i64 (-1), .int .i64 (-1), .int .i64 0, .int .i64 1, .int .i64 0, .int .i64 0, .int .i64 1]) (.int .i64 (k : Nat))).run Tryz.prog w = .ok (.agg #[.int .i64 (Fd.sc k), .int .i64 (Fd.sr k)]) w := by
  have h : k = 0 ∨ k = 1 ∨ k = 2 ∨ k = 3 := by omega
  rcases h with rfl | rfl | rfl | rfl
  · exact side0 w
  · exact side1 w
  · exact side2 w
  · exact side3 w

set_option maxHeartbeats 2000000 in
theorem near_own (v : Value) (W H : Nat) (gs os : List Int) (a : Nat) (w : World) (h : Fl w v W H gs os) (G : Fd.Good W H gs os) (ha : a < W * H) (hs : Sd w) :
    Calls Tryz.prog 141 #[v, .int .i64 (a : Nat)] w fun e w' => ∃ u, e = .returned u ∧ Ow w' w.heap.size u (Fd.near W H a) ∧ Below w.heap.size w w' := by
  have F0 : Hid (Fl w v W H gs os) := h
  have S0 : Hid (Sd w) := hs
  obtain ⟨u1, u2, rfl, ⟨a1, c, rfl, c1, c2, ca⟩, ⟨b1, d, rfl, d1, d2, cb⟩⟩ := h
  have gp := G.pos.2
  have W1 : 0 < W := G.w1
  have W2 : W ≤ 12 := G.w2
  have H1 : 0 < H := G.h1
  have H2 : H ≤ 12 := G.h2
  have A1 : a ≤ 144 := by omega
  have r1 : a / W < H := Nat.div_lt_of_lt_mul ha
  have p1 := Nat.mod_lt a W1
  have Ea : Hid (W * (a / W) + a % W = a) := Nat.div_add_mod a W
  have En : Hid (Fd.near W H a = (if 0 < a / W then [(a : Int) - W] else []) ++ ((if 0 < a % W then [(a : Int) - 1] else []) ++ ((if a % W + 1 < W then [(a : Int) + 1] else []) ++ (if a / W + 1 < H then [(a : Int) + W] else [])))) := rfl
  obtain ⟨p, hp⟩ : ∃ c, a % W = c := ⟨_, rfl⟩
  obtain ⟨r, hr⟩ : ∃ c, a / W = c := ⟨_, rfl⟩
  rw [hp, hr] at En Ea
  rw [hp] at p1
  rw [hr] at r1
  have Pa : Hid (a % W = p ∧ a / W = r) := ⟨hp, hr⟩
  clear hp hr hs ca cb G ha gp
  go_enter Tryz.func141, Tryz.ntmps141
  go_wp2_with fail
  refine (fplace_any W a p r _ W1 W2 A1 Pa.out.1 Pa.out.2).mono ?_
  rintro e w3 ⟨rfl, q3, hq3⟩
  have B3 : Hid (Below w.heap.size w w3) := by rw [hq3]; exact _root_.Go.below_drewN ((Below.refl _ _).alloc (Nat.le_refl _) _) _
  have X3 : Hid (Bf w3 w.heap.size W H (Value.slice a1 gs.length c) (Value.slice b1 os.length d)) := by
    rw [hq3]
    have h0 := Bf.mk' (w := w) W H (Value.slice a1 gs.length c) (Value.slice b1 os.length d) rfl
    exact h0.below (_root_.Go.below_drewN (Below.refl _ _) _) h0.lt
  have S3 : Hid (Sd w3) := S0.out.below B3.out
  clear hq3
  obtain ⟨x0, x1, x2, x3⟩ := X3.out
  obtain ⟨s0, s1, s2, s3, s4, s5, s6, s7⟩ := S3.out
  go_wp2_with fail
  have Z3 : Hid (w.heap.size < w3.heap.size) := X3.out.lt
  clear s0 s1 s2 s3 s4 s5 s6 s7 S3 S0 x0 x1 x2 x3
  go_loopw [5, 20] (fun v i W' => ∃ k : Nat, k ≤ 4 ∧ i = .int .i64 (k : Nat) ∧ Ow W' (w.heap.size + 1) v (Fd.nb W H p r k) ∧ Bf W' w.heap.size W H (Value.slice a1 gs.length c) (Value.slice b1 os.length d) ∧ Below w.heap.size w W') (fun _ i _ => 4 - (intOf i).toNat)
  case atStart => exact ⟨0, Nat.zero_le _, rfl, Ow.nil _ _, X3, B3⟩
  case round =>
    obtain ⟨k, hk, rfl, ho, hx, hb⟩ := hrel
    clear X3 B3 Z3
    have O : Hid (Ow wr (w.heap.size + 1) u5 (Fd.nb W H p r k)) := ho
    have X : Hid (Bf wr w.heap.size W H (Value.slice a1 gs.length c) (Value.slice b1 os.length d)) := hx
    have B : Hid (Below w.heap.size w wr) := hb
    clear ho hx hb
    by_cases h0 : k = 4
    · subst h0
      have En' : Hid (Fd.near W H a = Fd.nb W H p r 4) := by unfold Hid; rw [En.out, Fd.nb_near p1 r1 Ea.out]
      go_wp2
      go_ret
      exact ⟨_, rfl, by rw [En'.out]; exact O.out.mono (Nat.le_succ _), B⟩
    · have hk4 : k < 4 := by omega
      have hi := side_at k hk4
      have l1 : -1 ≤ Fd.sc k ∧ Fd.sc k ≤ 1 := by unfold Fd.sc; split <;> (try split) <;> omega
      have l2 : -1 ≤ Fd.sr k ∧ Fd.sr k ≤ 1 := by unfold Fd.sr; split <;> (try split) <;> omega
      have Ek : Hid (Fd.nb W H p r (k + 1) = Fd.nb W H p r k ++ (if (0 ≤ (p : Int) + Fd.sc k ∧ (p : Int) + Fd.sc k ≤ (W : Int) - 1) ∧ (0 ≤ (r : Int) + Fd.sr k ∧ (r : Int) + Fd.sr k ≤ (H : Int) - 1) then [((r : Int) + Fd.sr k) * W + (p + Fd.sc k)] else [])) := rfl
      have Ll : Hid ((Fd.nb W H p r k).length ≤ k) := Fd.nb_len W H p r k
      generalize Fd.sc k = sc at *
      generalize Fd.sr k = sr at *
      generalize Fd.nb W H p r k = xs at *
      obtain ⟨l11, l12⟩ := l1
      obtain ⟨l21, l22⟩ := l2
      go_wp2
      go_quiet (fail)
      clear hi
      have k5 : Below wr.heap.size wr ((wr.alloc (Obj.cells #[.int .i64 sc, .int .i64 sr] 188)).drewN nq) := _root_.Go.below_drewN ((Below.refl _ _).alloc (Nat.le_refl _) _) _
      generalize (wr.alloc (Obj.cells #[.int .i64 sc, .int .i64 sr] 188)).drewN nq = w5 at *
      have O5 : Hid (Ow w5 (w.heap.size + 1) u5 xs) := O.out.below k5
      have X5 : Hid (Bf w5 w.heap.size W H (Value.slice a1 gs.length c) (Value.slice b1 os.length d)) := X.out.below k5 X.out.lt
      have B5 : Hid (Below w.heap.size w w5) := B.out.trans (k5.mono B.out.size)
      clear k5 O X B
      obtain ⟨x0, x1, x2, x3⟩ := X5.out
      by_cases hc : 0 ≤ (p : Int) + sc ∧ (p : Int) + sc ≤ (W : Int) - 1
      · by_cases hd : 0 ≤ (r : Int) + sr ∧ (r : Int) + sr ≤ (H : Int) - 1
        · have Ek' : Hid (Fd.nb W H p r (k + 1) = xs ++ [((r : Int) + sr) * W + (p + sc)]) := by
            have := Ek.out
            rw [if_pos ⟨hc, hd⟩] at this
            exact this
          clear Ek
          obtain ⟨C, hC⟩ : ∃ C : Int, (p : Int) + sc = C := ⟨_, rfl⟩
          obtain ⟨R, hR⟩ : ∃ R : Int, (r : Int) + sr = R := ⟨_, rfl⟩
          rw [hC] at hc Ek' ⊢
          rw [hR] at hd Ek' ⊢
          obtain ⟨hc1, hc2⟩ := hc
          obtain ⟨hd1, hd2⟩ := hd
          have R2 : R ≤ 11 := by omega
          have C2 : C ≤ 11 := by omega
          clear hC hR l11 l12 l21 l22
          have m1 : 0 ≤ R * (W : Int) := Int.mul_nonneg hd1 (by omega)
          have m2 : R * (W : Int) ≤ 11 * 12 := Int.mul_le_mul R2 (by omega) (by omega) (by omega)
          go_wp2_with fail
          refine (fin_yes _ _ _ _ hc1 hc2).mono ?_
          rintro e w' ⟨rfl, rfl⟩
          go_wp2_with fail
          refine (fin_yes _ _ _ _ hd1 hd2).mono ?_
          rintro e w' ⟨rfl, rfl⟩
          go_wp2_with (at_builtin; refine app_int _ rfl _ _ rfl (w.heap.size + 1) _ xs rfl (O5.out.alloc _) ⟨w'.heap.size, 0, none⟩ (R * W + C) rfl (by simp) (by have := Ll.out; omega) (by have := X5.out.lt; simp; omega) ?_)
          intro g cap w6 o6 g6 a6 l6
          have O6 : Hid (Ow w6 (w.heap.size + 1) (.slice (some ⟨g, 0, none⟩) (xs.length + 1) cap) (xs ++ [R * W + C])) := o6
          have hob : ∀ k, u5.ownBlock = some k → w.heap.size + 1 ≤ k := fun k hk => (O5.out.block k hk).1
          have b6 : Below (w.heap.size + 1) w' w6 := ((Below.refl _ _).alloc (by have := X5.out.lt; omega) _).grown g6 (by have := X5.out.lt; simp; omega) hob
          have X6 : Hid (Bf w6 w.heap.size W H (Value.slice a1 gs.length c) (Value.slice b1 os.length d)) := X5.out.below b6 (Nat.lt_succ_self _)
          have B6 : Hid (Below w.heap.size w w6) := B5.out.trans (b6.mono (Nat.le_succ _))
          clear o6 g6 a6 l6 hob b6 x0 x1 x2 x3 m1 m2
          go_wp2
          go_round
          case rel => exact ⟨k + 1, by omega, by go_num, by rw [Ek'.out]; exact O6, X6, B6⟩
          case measure => simp [intOf]; omega
        · have Ek' : Hid (Fd.nb W H p r (k + 1) = xs) := by
            have := Ek.out
            rw [if_neg (fun h => hd h.2), List.append_nil] at this
            exact this
          clear Ek
          obtain ⟨hc1, hc2⟩ := hc
          have hd' : (r : Int) + sr < 0 ∨ (H : Int) - 1 < (r : Int) + sr := by omega
          clear hd
          go_wp2_with fail
          refine (fin_yes _ _ _ _ hc1 hc2).mono ?_
          rintro e w' ⟨rfl, rfl⟩
          go_wp2_with fail
          refine (fin_no _ _ _ _ hd').mono ?_
          rintro e w' ⟨rfl, rfl⟩
          go_wp2
          go_round
          case rel => exact ⟨k + 1, by omega, by go_num, by rw [Ek'.out]; exact O5, X5, B5⟩
          case measure => simp [intOf]; omega
      · have Ek' : Hid (Fd.nb W H p r (k + 1) = xs) := by
          have := Ek.out
          rw [if_neg (fun h => hc h.1), List.append_nil] at this
          exact this
        clear Ek
        have hc' : (p : Int) + sc < 0 ∨ (W : Int) - 1 < (p : Int) + sc := by omega
        clear hc
        go_wp2_with fail
        refine (fin_no _ _ _ _ hc').mono ?_
        rintro e w' ⟨rfl, rfl⟩
        go_wp2
        go_round
        case rel => exact ⟨k + 1, by omega, by go_num, by rw [Ek'.out]; exact O5, X5, B5⟩
        case measure => simp [intOf]; omega

end Go.Proofs.YtagnjmellcibhaaGreatDoor

namespace Go.Proofs.YtagnjmellcibhaaGreatDoor
open Go.RowKit
set_option linter.unusedVariables false

/-- v is a slice of n lists: the i-th is nb i. -/
def Bs (w : World) (v : Value) (n : Nat) (nb : Nat → List Int) : Prop := ∃ x c, v = .slice (some x) n c ∧ n ≤ c ∧ c ≤ 9223372036854775807 ∧ ∀ i, i < n → ∃ u, w.cell? (x.add i) = some u ∧ Ro w u (nb i)
theorem Bs.below {w w' : World} {v : Value} {n : Nat} {nb : Nat → List Int} (h : Bs w v n nb) (hb : Below w.heap.size w w') : Bs w' v n nb := by
  obtain ⟨x, c, h1, h2, h3, h4⟩ := h
  refine ⟨x, c, h1, h2, h3, fun i hi => ?_⟩
  obtain ⟨u, hu, hr⟩ := h4 i hi
  have := cell_lt hu
  exact ⟨u, by rw [hb.cell (p := x.add i) this]; exact hu, hr.below hb⟩
/-- v is a land. -/
def Ld (w : World) (v : Value) (n : Nat) (nb : Nat → List Int) (ss : List Int) : Prop := ∃ u1 u2, v = .agg #[u1, u2] ∧ Bs w u1 n nb ∧ Ro w u2 ss ∧ ss.length = n
theorem Ld.below {w w' : World} {v : Value} {n : Nat} {nb : Nat → List Int} {ss : List Int} (h : Ld w v n nb ss) (hb : Below w.heap.size w w') : Ld w' v n nb ss := by
  obtain ⟨u1, u2, h1, h2, h3, h4⟩ := h
  exact ⟨u1, u2, h1, h2.below hb, h3.below hb, h4⟩

/-- a land in a box. -/
structure Bl (w : World) (z : Nat) (u1 u2 : Value) : Prop where
  c0 : w.cell? ⟨z, 0, none⟩ = some u1
  c1 : w.cell? ⟨z, 1, none⟩ = some u2
theorem Bl.lt {w : World} {z : Nat} {u1 u2 : Value} (h : Bl w z u1 u2) : z < w.heap.size := cell_lt h.c0
theorem Bl.mk' {w : World} {z : Nat} (u1 u2 : Value) (hz : w.heap.size = z) : Bl (w.alloc (.cells #[u1, u2] 165)) z u1 u2 := by
  subst hz
  exact ⟨by simp, by simp⟩
theorem Bl.below {w w' : World} {z B : Nat} {u1 u2 : Value} (h : Bl w z u1 u2) (hb : Below B w w') (hz : z < B) : Bl w' z u1 u2 :=
  ⟨by rw [hb.cell (p := ⟨z, 0, none⟩) hz]; exact h.c0, by rw [hb.cell (p := ⟨z, 1, none⟩) hz]; exact h.c1⟩
theorem Bl.kp {w w' : World} {z b : Nat} {u1 u2 : Value} (h : Bl w z u1 u2) (hk : Kp b w w') (hz : z ≠ b) : Bl w' z u1 u2 := by
  have e := hk.block z h.lt hz
  exact ⟨by rw [World.cell?_of_block (w := w) (a := ⟨z, 0, none⟩) e]; exact h.c0, by rw [World.cell?_of_block (w := w) (a := ⟨z, 1, none⟩) e]; exact h.c1⟩
end Go.Proofs.YtagnjmellcibhaaGreatDoor

namespace Go.Proofs.YtagnjmellcibhaaGreatDoor
open Go.RowKit
set_option linter.unusedVariables false

theorem info_ints : (Tryz.prog.info? 23).map (fun i => (i.zero, i.size, i.bytes)) = some (some (.slice none 0 0), 1, 24) := by kernel_rfl

/-- one more list. -/
theorem app_list {ops : Array Oper} {rest : List Oper} {o : Oper} {a : Act} {Q : Exit → Act → World → Prop} (w : World) (hgd : o.guard = none) (s x : Operand)
    (ho : o.op = .call { callee := .builtin .append, args := #[s, x], argTypes := #[163, 163] }) (base : Nat) (v : Value) (us : List Value) (hs : a.eval s = v) (hown : w.ownsRow base 23 1 v us.length us)
    (ad : Addr) (u : Value) (hx : a.eval x = .slice (some ad) 1 1) (hd : w.cell? ad = some u) (hu : u.oneCell' = true) (hl : us.length ≤ 1000000) (hbase : base ≤ w.heap.size)
    (h : ∀ g cap w', w'.ownsRow base 23 1 (.slice (some ⟨g, 0, none⟩) (us.length + 1) cap) (us.length + 1) (us ++ [u]) → w.grownBy w' v.ownBlock → (v.ownBlock = some g ∨ g = w.heap.size) → g < w'.heap.size → wpList Tryz.prog ops Q rest (a.put o.dst (.slice (some ⟨g, 0, none⟩) (us.length + 1) cap)) w') :
    wpList Tryz.prog ops Q (o :: rest) a w := by
  obtain ⟨i0, hi, hz0, hz1, hz2⟩ := info_parts info_ints
  refine wpList_append_lies w hgd s x 163 ho base 23 i0 (.slice none 0 0) 1 24 Tryz.underlying163 hi hz0 hz1 hz2 rfl (by decide) v us.length _ hs hown ad 1 1 [u] hx rfl ?_ ?_ (by decide) (by unfold maxLen; omega) (by omega) hbase _ rfl ?_
  · intro j e hj
    match j, hj with
    | 0, hj => simp at hj; subst hj; exact hd
  · intro e he
    simp at he
    subst he
    exact hu
  · intro g cap w' h1 h2 h3 h4
    exact h g cap w' h1 h2 h3 h4

/-- u lies elsewhere than v. -/
def Apart (u v : Value) : Prop := u.ownBlock = none ∨ u.ownBlock ≠ v.ownBlock
theorem Apart.app {u v : Value} {z g n cap : Nat} (h : Apart u v) (hu : ∀ k, u.ownBlock = some k → k < z) (hg : v.ownBlock = some g ∨ g = z) : Apart u (.slice (some ⟨g, 0, none⟩) n cap) := by
  rcases h with h | h
  · exact .inl h
  · cases hb : u.ownBlock with
    | none => exact .inl hb
    | some k =>
      refine .inr ?_
      intro e
      rw [hb] at e
      simp only [Value.ownBlock, Option.some.injEq] at e
      rcases hg with hg | hg
      · exact h (by rw [hg, hb, e])
      · have := hu k hb
        omega
/-- what is new lies elsewhere. -/
theorem Apart.fresh {w' : World} {u v : Value} {xs : List Int} {z : Nat} (hu : Ow w' z u xs) (hv : ∀ k, v.ownBlock = some k → k < z) : Apart u v := by
  cases hb : u.ownBlock with
  | none => exact .inl hb
  | some k =>
    refine .inr fun e => ?_
    have h1 := (hu.block k hb).1
    rw [hb] at e
    have h2 := hv k e.symm
    omega

/-- of the first k cells. -/
structure Wds (w : World) (base : Nat) (v4 v5 : Value) (us : List Value) (nb : Nat → List Int) (ss : List Int) : Prop where
  o4 : w.ownsRow base 23 1 v4 us.length us
  o5 : Ow w base v5 ss
  e45 : Apart v5 v4
  e54 : Apart v4 v5
  each : ∀ i u, us[i]? = some u → Ow w base u (nb i) ∧ Apart u v4 ∧ Apart u v5

theorem Wds.below {w w' : World} {base : Nat} {v4 v5 : Value} {us : List Value} {nb : Nat → List Int} {ss : List Int} (h : Wds w base v4 v5 us nb ss) (hb : Below w.heap.size w w') : Wds w' base v4 v5 us nb ss :=
  ⟨World.ownsRow.kept h.o4 (row := none) ⟨hb.os, hb.tape, hb.output, hb.size, fun k hk _ => hb.block k hk⟩ (by cases v4.ownBlock <;> simp), h.o5.below hb, h.e45, h.e54, fun i u hu => ⟨(h.each i u hu).1.below hb, (h.each i u hu).2⟩⟩
theorem Wds.kp {w w' : World} {base z : Nat} {v4 v5 : Value} {us : List Value} {nb : Nat → List Int} {ss : List Int} (h : Wds w base v4 v5 us nb ss) (hk : Kp z w w') (hz : z < base) : Wds w' base v4 v5 us nb ss := by
  have hg : w.grownBy w' (some z) := ⟨hk.os, hk.tape, hk.output, hk.size, fun k h1 h2 => hk.block k h1 (fun e => h2 (by rw [e]))⟩
  have ne : ∀ {u : Value} {xs : List Int}, Ow w base u xs → u.ownBlock = none ∨ u.ownBlock ≠ some z := fun {u} {xs} ho => by
    cases hb : u.ownBlock with
    | none => exact .inl rfl
    | some k =>
      have := (ho.block k hb).1
      exact .inr (by simp; omega)
  have ne4 : v4.ownBlock = none ∨ v4.ownBlock ≠ some z := by
    cases hb : v4.ownBlock with
    | none => exact .inl rfl
    | some k =>
      have := (World.ownsRow.lt h.o4 k hb).1
      exact .inr (by simp; omega)
  exact ⟨World.ownsRow.kept h.o4 hg ne4, h.o5.kept hg (ne h.o5), h.e45, h.e54, fun i u hu => ⟨(h.each i u hu).1.kept hg (ne (h.each i u hu).1), (h.each i u hu).2⟩⟩
theorem Wds.start (w : World) (base : Nat) (nb : Nat → List Int) : Wds w base (.slice none 0 0) (.slice none 0 0) [] nb [] :=
  ⟨World.ownsRow_nil _ _ _ _, Ow.nil _ _, .inl rfl, .inl rfl, fun i u hu => by simp at hu⟩
theorem Wds.bs {w : World} {base n : Nat} {v4 v5 : Value} {us : List Value} {nb : Nat → List Int} {ss : List Int} (h : Wds w base v4 v5 us nb ss) (hl : us.length = n) (h0 : 0 < n) : Bs w v4 n nb := by
  rcases h.o4.2 with ⟨_, e⟩ | ⟨g, cap, cur, hv, hb, hg, h1, h2, h3, h4⟩
  · omega
  · refine ⟨⟨g, 0, none⟩, cap, by rw [hv, hl], by omega, by unfold maxLen at h2; omega, fun i hi => ?_⟩
    obtain ⟨u, hu⟩ : ∃ u, us[i]? = some u := ⟨us[i]'(by omega), List.getElem?_eq_getElem _⟩
    refine ⟨u, ?_, (h.each i u hu).1.ro⟩
    rw [Addr.add_lit, Nat.zero_add]
    simp only [World.cell?, hg]
    rw [← h4, List.getElem?_take, if_pos (by omega)] at hu
    rw [← Array.getElem?_toList]
    simpa using hu
/-- one list more. -/
theorem Wds.list {w w' : World} {base g cap : Nat} {v4 v5 u : Value} {us : List Value} {nb : Nat → List Int} {ss : List Int} (h : Wds w base v4 v5 us nb ss) (hu : Ow w base u (nb us.length)) (a4 : Apart u v4) (a5 : Apart u v5)
    (ho : w'.ownsRow base 23 1 (.slice (some ⟨g, 0, none⟩) (us.length + 1) cap) (us.length + 1) (us ++ [u])) (hg : w.grownBy w' v4.ownBlock) (hat : v4.ownBlock = some g ∨ g = w.heap.size) :
    Wds w' base (.slice (some ⟨g, 0, none⟩) (us.length + 1) cap) v5 (us ++ [u]) nb ss := by
  have lt : ∀ {u : Value} {xs : List Int}, Ow w base u xs → ∀ k, u.ownBlock = some k → k < w.heap.size := fun h k hk => (h.block k hk).2
  refine ⟨by rw [List.length_append]; exact ho, h.o5.kept hg h.e45, h.e45.app (lt h.o5) hat, ?_, fun i e he => ?_⟩
  · rcases hat with hat | hat
    · rcases h.e54 with h1 | h1
      · rw [hat] at h1; cases h1
      · exact .inr (by rw [hat] at h1; exact h1)
    · refine .inr fun e => ?_
      have := (h.o5.block g (by rw [← e]; rfl)).2
      omega
  · rw [List.getElem?_append] at he
    split at he
    · have k := h.each i e he
      exact ⟨k.1.kept hg k.2.1, k.2.1.app (lt k.1) hat, k.2.2⟩
    · rename_i hi
      have hi0 : i = us.length := by
        have := (List.getElem?_eq_some_iff.1 he).1
        simp at this
        omega
      subst hi0
      simp at he
      subst he
      exact ⟨hu.kept hg a4, a4.app (lt hu) hat, a5⟩
/-- one number more. -/
theorem Wds.num {w w' : World} {base g cap : Nat} {v4 v5 : Value} {us : List Value} {nb : Nat → List Int} {ss : List Int} {d : Int} (h : Wds w base v4 v5 us nb ss)
    (ho : Ow w' base (.slice (some ⟨g, 0, none⟩) (ss.length + 1) cap) (ss ++ [d])) (hg : w.grownBy w' v5.ownBlock) (hat : v5.ownBlock = some g ∨ g = w.heap.size) :
    Wds w' base v4 (.slice (some ⟨g, 0, none⟩) (ss.length + 1) cap) us nb (ss ++ [d]) := by
  have lt : ∀ {u : Value} {xs : List Int}, Ow w base u xs → ∀ k, u.ownBlock = some k → k < w.heap.size := fun h k hk => (h.block k hk).2
  have lt4 : ∀ k, v4.ownBlock = some k → k < w.heap.size := fun k hk => (World.ownsRow.lt h.o4 k hk).2
  refine ⟨World.ownsRow.kept h.o4 hg h.e54, ho, ?_, h.e54.app lt4 hat, fun i e he => ?_⟩
  · rcases hat with hat | hat
    · rcases h.e45 with h1 | h1
      · rw [hat] at h1; cases h1
      · exact .inr (by rw [hat] at h1; exact h1)
    · refine .inr fun e => ?_
      have := lt4 g (by rw [← e]; rfl)
      omega
  · have k := h.each i e he
    exact ⟨k.1.kept hg k.2.2, k.2.1, k.2.2.app (lt k.1) hat⟩

set_option maxHeartbeats 1000000 in
theorem Ways_bad (v : Value) (W H : Int) (gs os : List Int) (F : Int) (fl : Bool) (w : World) (h : Fl w v W H gs os) (hF : Fd.fault W H gs os = F) (h0 : F ≠ 0) :
    Calls Tryz.prog 129 #[v, .bool fl] w fun e w' => e = .returned (.tuple #[.slice none 0 0, .slice none 0 0, .iface 75 (.int .i64 F)]) ∧ Below w.heap.size w w' := by
  have F0 : Hid (Fl w v W H gs os) := h
  have HF : Hid (Fd.fault W H gs os = F) := hF
  have H0 : Hid (F ≠ 0) := h0
  obtain ⟨u1, u2, rfl, ⟨a1, c, rfl, c1, c2, ca⟩, ⟨b1, d, rfl, d1, d2, cb⟩⟩ := h
  clear hF h0 ca cb
  go_enter Tryz.func129, Tryz.ntmps129
  go_wp2_with fail
  refine (check_any _ W H gs os _ (F0.out.below ((Below.refl _ _).alloc (Nat.le_refl _) _))).mono ?_
  rintro e w1 ⟨v1, rfl, hv, hb⟩
  have B1 : Hid (Below w.heap.size w w1) := ((Below.refl _ _).alloc (Nat.le_refl _) _).trans (hb.mono (by simp))
  rw [HF.out] at hv
  clear hb
  rcases hv with ⟨hz, rfl⟩ | ⟨hz, rfl⟩
  · exact absurd hz H0.out
  · clear hz
    go_wp2
    go_ret3
    exact ⟨rfl, B1⟩

set_option maxHeartbeats 2000000 in
theorem Ways_ok (v : Value) (W H : Nat) (gs os : List Int) (fl : Bool) (w : World) (h : Fl w v W H gs os) (G : Fd.Good W H gs os) (hs : Sd w) :
    Calls Tryz.prog 129 #[v, .bool fl] w fun e w' => ∃ u1 u2 us, e = .returned (.tuple #[u1, u2, .nilIface]) ∧ us.length = W * H ∧ Wds w' (w.heap.size + 1) u1 u2 us (Fd.near W H) (gs.map fun g => Fd.onto g fl) ∧ Below w.heap.size w w' := by
  have F0 : Hid (Fl w v W H gs os) := h
  have S0 : Hid (Sd w) := hs
  have G0 : Hid (Fd.Good W H gs os) := G
  obtain ⟨u1, u2, rfl, ⟨a1, c, rfl, c1, c2, ca⟩, ⟨b1, d, rfl, d1, d2, cb⟩⟩ := h
  have gl := G.gl
  have gp := G.pos
  obtain ⟨x, rfl, xl, hx⟩ := ca (by intro e; rw [e] at gl; simp at gl; omega)
  have Hx : Hid ((∀ (i : Nat) d, gs[i]? = some d → w.cell? (x.add i) = some (.int .i64 d)) ∧ x.block < w.heap.size) := ⟨hx, xl⟩
  have gl2 : gs.length ≤ 144 := by omega
  have Gl : Hid (gs.length = W * H) := gl
  clear cb ca hs hx xl G gl gp
  go_enter Tryz.func129, Tryz.ntmps129
  go_wp2_with fail
  refine (check_any _ W H gs os _ (F0.out.below ((Below.refl _ _).alloc (Nat.le_refl _) _))).mono ?_
  rintro e w1 ⟨v1, rfl, hv, hb⟩
  have B1 : Hid (Below w.heap.size w w1) := ((Below.refl _ _).alloc (Nat.le_refl _) _).trans (hb.mono (by simp))
  have X1 : Hid (Bf w1 w.heap.size W H (Value.slice (some x) gs.length c) (Value.slice b1 os.length d)) := (Bf.mk' (w := w) W H (Value.slice (some x) gs.length c) (Value.slice b1 os.length d) rfl).below hb (by simp)
  rw [Fd.fault_good G0.out] at hv
  clear hb
  rcases hv with ⟨hz, rfl⟩ | ⟨hz, rfl⟩
  · clear hz
    obtain ⟨x0, x1, x2, x3⟩ := X1.out
    go_wp2_with fail
    clear x0 x1 x2 x3
    go_loopw [4, 5, 18] (fun v4 v5 i W' => ∃ (k : Nat) (us : List Value), k ≤ gs.length ∧ i = .int .i64 (k : Nat) ∧ us.length = k ∧ Wds W' (w.heap.size + 1) v4 v5 us (Fd.near W H) ((gs.take k).map fun g => Fd.onto g fl) ∧ Bf W' w.heap.size W H (Value.slice (some x) gs.length c) (Value.slice b1 os.length d) ∧ Below w.heap.size w W') (fun _ _ i _ => gs.length - (intOf i).toNat)
    case atStart => exact ⟨0, [], Nat.zero_le _, rfl, rfl, Wds.start _ _ _, X1, B1⟩
    case round =>
      obtain ⟨k, us, hk, rfl, hl, hw, hX, hB⟩ := hrel
      clear X1 B1
      have D : Hid (Wds wr (w.heap.size + 1) u4 u5 us (Fd.near W H) ((gs.take k).map fun g => Fd.onto g fl)) := hw
      have X : Hid (Bf wr w.heap.size W H (Value.slice (some x) gs.length c) (Value.slice b1 os.length d)) := hX
      have B : Hid (Below w.heap.size w wr) := hB
      have Hl : Hid (us.length = k) := hl
      clear hw hX hB hl
      by_cases h0 : k = gs.length
      · subst h0
        go_wp2
        go_ret3
        refine ⟨_, _, us, rfl, by rw [Hl.out, Gl.out], ?_, B⟩
        have := D.out
        rw [List.take_of_length_le (Nat.le_refl _)] at this
        exact this
      · have hkl : k < gs.length := by omega
        obtain ⟨g, hg⟩ : ∃ g, gs[k]? = some g := ⟨_, List.getElem?_eq_getElem hkl⟩
        have cg : wr.cell? (x.add k) = some (.int .i64 g) := by rw [B.out.cell (p := x.add k) (by rw [add_block]; exact Hx.out.2)]; exact Hx.out.1 k g hg
        have Hg : Hid ((gs.take (k + 1)).map (fun g => Fd.onto g fl) = (gs.take k).map (fun g => Fd.onto g fl) ++ [Fd.onto g fl]) := by
          unfold Hid
          rw [List.take_succ_eq_append_getElem hkl, List.map_append]
          rw [List.getElem?_eq_getElem hkl] at hg
          injection hg with hg
          rw [hg]
          rfl
        have Lk : Hid (((gs.take k).map fun g => Fd.onto g fl).length ≤ 144) := by unfold Hid; simp; omega
        have zs : Hid (w.heap.size < wr.heap.size) := X.out.lt
        obtain ⟨x0, x1, x2, x3⟩ := X.out
        clear hg
        go_wp2_with fail
        refine (near_own _ W H gs os k _ (F0.out.below B.out) G0.out (by rw [← Gl.out]; exact hkl) (S0.out.below B.out)).mono ?_
        rintro e w2 ⟨u, rfl, hu, hb2⟩
        obtain ⟨ua, uc, hue⟩ := hu.len
        have a4 : Apart u u4 := Apart.fresh hu (fun k hk => (World.ownsRow.lt D.out.o4 k hk).2)
        have a5 : Apart u u5 := Apart.fresh hu (fun k hk => (D.out.o5.block k hk).2)
        have A45 : Hid (Apart u u4 ∧ Apart u u5) := ⟨a4, a5⟩
        have ba : Below w2.heap.size w2 (w2.alloc (Obj.cells #[u] 23)) := (Below.refl _ _).alloc (Nat.le_refl _) _
        have U3 : Hid (Ow (w2.alloc (Obj.cells #[u] 23)) (w.heap.size + 1) u (Fd.near W H k)) := (hu.mono zs.out).below ba
        have D3 : Hid (Wds (w2.alloc (Obj.cells #[u] 23)) (w.heap.size + 1) u4 u5 us (Fd.near W H) ((gs.take k).map fun g => Fd.onto g fl)) := (D.out.below hb2).below ba
        have X3 : Hid (Bf (w2.alloc (Obj.cells #[u] 23)) w.heap.size W H (Value.slice (some x) gs.length c) (Value.slice b1 os.length d)) := (X.out.below hb2 X.out.lt).below ba (Nat.lt_of_lt_of_le X.out.lt hb2.size)
        have B3 : Hid (Below w.heap.size w (w2.alloc (Obj.cells #[u] 23))) := (B.out.trans (hb2.mono B.out.size)).trans (ba.mono (Nat.le_trans B.out.size hb2.size))
        have Cd : Hid ((w2.alloc (Obj.cells #[u] 23)).cell? ⟨w2.heap.size, 0, none⟩ = some u) := by unfold Hid; simp
        have S3 : Hid (w.heap.size + 1 ≤ (w2.alloc (Obj.cells #[u] 23)).heap.size) := X3.out.lt
        clear a4 a5 ba hu hb2 D X B zs x0 x1 x2 x3 cg
        subst hue
        go_wp2_with (at_builtin; refine app_list _ rfl _ _ rfl (w.heap.size + 1) _ us rfl D3.out.o4 ⟨w2.heap.size, 0, none⟩ _ rfl Cd.out rfl (by rw [Hl.out]; omega) S3.out ?_)
        intro g4 cap4 w4 o4 gr4 at4 lt4
        have D4 : Hid (Wds w4 (w.heap.size + 1) (.slice (some ⟨g4, 0, none⟩) (us.length + 1) cap4) u5 (us ++ [.slice ua (Fd.near W H k).length uc]) (Fd.near W H) ((gs.take k).map fun g => Fd.onto g fl)) := D3.out.list (by rw [Hl.out]; exact U3.out) A45.out.1 A45.out.2 o4 gr4 (by simpa using at4)
        have b4 : Below (w.heap.size + 1) (w2.alloc (Obj.cells #[.slice ua (Fd.near W H k).length uc] 23)) w4 := (Below.refl _ _).grown gr4 S3.out (fun k hk => (World.ownsRow.lt D3.out.o4 k hk).1)
        have X4 : Hid (Bf w4 w.heap.size W H (Value.slice (some x) gs.length c) (Value.slice b1 os.length d)) := X3.out.below b4 (Nat.lt_succ_self _)
        have B4 : Hid (Below w.heap.size w w4) := B3.out.trans (b4.mono (Nat.le_succ _))
        clear o4 gr4 at4 lt4 b4 D3 X3 B3 S3 Cd U3 A45
        go_wp2_with fail
        refine (step_any g fl _).mono ?_
        rintro e w5 ⟨rfl, rfl⟩
        obtain ⟨s, hs⟩ : ∃ s, Fd.onto g fl = s := ⟨_, rfl⟩
        rw [hs] at Hg ⊢
        have ba : Below w5.heap.size w5 (w5.alloc (Obj.cells #[.int .i64 s] 3)) := (Below.refl _ _).alloc (Nat.le_refl _) _
        have D5 : Hid (Wds (w5.alloc (Obj.cells #[.int .i64 s] 3)) (w.heap.size + 1) (.slice (some ⟨g4, 0, none⟩) (us.length + 1) cap4) u5 (us ++ [.slice ua (Fd.near W H k).length uc]) (Fd.near W H) ((gs.take k).map fun g => Fd.onto g fl)) := D4.out.below ba
        have X5 : Hid (Bf (w5.alloc (Obj.cells #[.int .i64 s] 3)) w.heap.size W H (Value.slice (some x) gs.length c) (Value.slice b1 os.length d)) := X4.out.below ba X4.out.lt
        have B5 : Hid (Below w.heap.size w (w5.alloc (Obj.cells #[.int .i64 s] 3))) := B4.out.trans (ba.mono B4.out.size)
        have Cd : Hid ((w5.alloc (Obj.cells #[.int .i64 s] 3)).cell? ⟨w5.heap.size, 0, none⟩ = some (.int .i64 s)) := by unfold Hid; simp
        have S5 : Hid (w.heap.size + 1 ≤ (w5.alloc (Obj.cells #[.int .i64 s] 3)).heap.size) := X5.out.lt
        clear ba D4 X4 B4 hs
        generalize (gs.take k).map (fun g => Fd.onto g fl) = ss at *
        go_wp2_with (at_builtin; refine app_int _ rfl _ _ rfl (w.heap.size + 1) _ ss rfl D5.out.o5 ⟨w5.heap.size, 0, none⟩ s rfl Cd.out (Nat.le_trans Lk.out (by omega)) S5.out ?_)
        intro g6 cap6 w6 o6 gr6 at6 lt6
        have D6 : Hid (Wds w6 (w.heap.size + 1) (.slice (some ⟨g4, 0, none⟩) (us.length + 1) cap4) (.slice (some ⟨g6, 0, none⟩) (ss.length + 1) cap6) (us ++ [.slice ua (Fd.near W H k).length uc]) (Fd.near W H) (ss ++ [s])) := D5.out.num o6 gr6 (by simpa using at6)
        have b6 : Below (w.heap.size + 1) (w5.alloc (Obj.cells #[.int .i64 s] 3)) w6 := (Below.refl _ _).grown gr6 S5.out (fun k hk => (D5.out.o5.block k hk).1)
        have X6 : Hid (Bf w6 w.heap.size W H (Value.slice (some x) gs.length c) (Value.slice b1 os.length d)) := X5.out.below b6 (Nat.lt_succ_self _)
        have B6 : Hid (Below w.heap.size w w6) := B5.out.trans (b6.mono (Nat.le_succ _))
        clear o6 gr6 at6 lt6 b6 D5 X5 B5 S5 Cd
        go_wp2
        go_round
        case rel => exact ⟨k + 1, us ++ [.slice ua (Fd.near W H k).length uc], by omega, by go_num, by simp [Hl.out], by rw [Hg.out]; exact D6, X6, B6⟩
        case measure => simp [intOf]; omega
  · exact absurd rfl hz
end Go.Proofs.YtagnjmellcibhaaGreatDoor

namespace Go.Proofs.YtagnjmellcibhaaGreatDoor
open Go.RowKit
set_option linter.unusedVariables false

theorem any_next {p : Int → Bool} {xs : List Int} {k : Nat} (h : k < xs.length) : (xs.take (k + 1)).any p = ((xs.take k).any p || p xs[k]) := by
  rw [List.take_succ_eq_append_getElem h, List.any_append]
  simp

/-- r is where the first is; -1: there is none. -/
def Fst (p : Int → Bool) (xs : List Int) (r : Int) : Prop := (r = -1 ∧ xs.any p = false) ∨ ∃ (k : Nat) (x : Int), r = k ∧ xs[k]? = some x ∧ p x = true ∧ (xs.take k).any p = false

set_option maxHeartbeats 1000000 in
theorem idxf_any (K : Nat) (eK : ∀ args w, (callFunc K args).run Tryz.prog w = .ok (.enter K args) w) (u : Value) (cs : Array Value) (xs : List Int) (p : Int → Bool) (w : World) (hu : Ro w u xs)
    (hp : ∀ m, ∀ x ∈ xs, Calls Tryz.prog K (#[.int .i64 x] ++ cs) (w.drewN m) fun e w' => e = .returned (.bool (p x)) ∧ ∃ q, w' = w.drewN q) :
    Calls Tryz.prog 108 #[u, .func (Fn.func K) #[] cs] w fun e w' => ∃ r : Int, e = .returned (.int .i64 r) ∧ Fst p xs r ∧ ∃ q, w' = w.drewN q := by
  obtain ⟨a, c, rfl, c1, c2, ca⟩ := hu
  have Ca : Hid (Cells w a xs) := ca
  have Hp : Hid (∀ m, ∀ x ∈ xs, Calls Tryz.prog K (#[.int .i64 x] ++ cs) (w.drewN m) fun e w' => e = .returned (.bool (p x)) ∧ ∃ q, w' = w.drewN q) := hp
  clear ca hp
  go_enter Tryz.func108, Tryz.ntmps108
  go_wp2
  go_loopw [8] (fun i W' => ∃ k q : Nat, k ≤ xs.length ∧ i = .int .i64 (k : Nat) ∧ (xs.take k).any p = false ∧ W' = w.drewN q) (fun i _ => xs.length - (intOf i).toNat)
  case atStart => exact ⟨0, 0, Nat.zero_le _, rfl, by simp, rfl⟩
  case round =>
    obtain ⟨k, q, hk, rfl, ht, rfl⟩ := hrel
    have Ht : Hid ((xs.take k).any p = false) := ht
    clear ht
    by_cases h0 : k = xs.length
    · subst h0
      go_wp2
      go_ret
      refine ⟨_, rfl, .inl ⟨rfl, ?_⟩, _, rfl⟩
      have := Ht.out
      rw [List.take_of_length_le (Nat.le_refl _)] at this
      exact this
    · have hkx : k < xs.length := by omega
      obtain ⟨x, rfl, -, hx⟩ := Ca.out (by intro h; rw [h] at hkx; simp at hkx)
      have cx : (w.drewN q).cell? (x.add k) = some (.int .i64 xs[k]) := hx k xs[k] (List.getElem?_eq_getElem hkx)
      have hc := Hp.out q xs[k] (List.getElem_mem hkx)
      have Hs : Hid _ := any_next (p := p) hkx
      have Hm : Hid (xs[k]? = some xs[k]) := List.getElem?_eq_getElem hkx
      generalize xs[k] = y at *
      generalize w.drewN q = w1 at *
      clear hx
      cases hy : p y with
      | true =>
        rw [hy] at hc
        have Hc : Hid (Calls Tryz.prog K (#[.int .i64 y] ++ cs) w1 fun e w' => e = .returned (.bool true) ∧ ∃ q, w' = w.drewN q) := hc
        have Hy : Hid (p y = true) := hy
        clear hc hy
        go_wp2_with fail
        refine Calls.mono Hc.out ?_
        rintro e w1 ⟨rfl, q1, rfl⟩
        go_wp2
        go_ret
        exact ⟨_, rfl, .inr ⟨k, y, rfl, Hm, Hy, Ht⟩, q1, rfl⟩
      | false =>
        rw [hy] at hc
        have Hc : Hid (Calls Tryz.prog K (#[.int .i64 y] ++ cs) w1 fun e w' => e = .returned (.bool false) ∧ ∃ q, w' = w.drewN q) := hc
        have Hy : Hid (p y = false) := hy
        clear hc hy
        go_wp2_with fail
        refine Calls.mono Hc.out ?_
        rintro e w1 ⟨rfl, q1, rfl⟩
        go_wp2
        go_round
        case rel => exact ⟨k + 1, q1, by omega, by go_num, by have := Hs.out; rw [Ht.out, Hy.out] at this; exact this, rfl⟩
        case measure => simp [intOf]; omega

theorem Fst.has {p : Int → Bool} {xs : List Int} {r : Int} (h : Fst p xs r) : decide (0 ≤ r) = xs.any p := by
  rcases h with ⟨rfl, h⟩ | ⟨k, x, rfl, h1, h2, _⟩
  · rw [h]; decide
  · rw [decide_eq_true (by omega)]
    exact (List.any_eq_true.2 ⟨x, List.mem_of_getElem? h1, h2⟩).symm

set_option maxHeartbeats 1000000 in
theorem hasf_any (K : Nat) (eK : ∀ args w, (callFunc K args).run Tryz.prog w = .ok (.enter K args) w) (u : Value) (cs : Array Value) (xs : List Int) (p : Int → Bool) (w : World) (hu : Ro w u xs)
    (hp : ∀ m, ∀ x ∈ xs, Calls Tryz.prog K (#[.int .i64 x] ++ cs) (w.drewN m) fun e w' => e = .returned (.bool (p x)) ∧ ∃ q, w' = w.drewN q) :
    Calls Tryz.prog 88 #[u, .func (Fn.func K) #[] cs] w fun e w' => e = .returned (.bool (xs.any p)) ∧ ∃ q, w' = w.drewN q := by
  have H := idxf_any K eK u cs xs p w hu hp
  have H' : Hid (Calls Tryz.prog 108 #[u, .func (Fn.func K) #[] cs] w fun e w' => ∃ r : Int, e = .returned (.int .i64 r) ∧ Fst p xs r ∧ ∃ q, w' = w.drewN q) := H
  clear H hp
  go_enter Tryz.func88, Tryz.ntmps88
  go_wp2_with fail
  refine Calls.mono H'.out ?_
  rintro e w1 ⟨r, rfl, hr, q, rfl⟩
  have Hr : Hid (decide (0 ≤ r) = xs.any p) := hr.has
  clear hr
  go_wp2
  go_ret
  exact ⟨by show Ending.returned (.bool (decide (0 ≤ r))) = _; rw [Hr.out], q, rfl⟩
end Go.Proofs.YtagnjmellcibhaaGreatDoor

namespace Go.Proofs.YtagnjmellcibhaaGreatDoor
open Go.RowKit
set_option linter.unusedVariables false

theorem enter_none : ∀ args w, (callFunc 130 args).run Tryz.prog w = .ok (.enter 130 args) w := by
  intro args w
  go_simp

set_option maxHeartbeats 1000000 in
theorem nocell_any (x : Int) (b n c : Nat) (a : Option Addr) (w : World) (hb : w.cell? ⟨b, 0, none⟩ = some (.slice a n c)) (hn : n ≤ 144) :
    Calls Tryz.prog 130 #[.int .i64 x, .pointer (some ⟨b, 0, none⟩)] w fun e w' => e = .returned (.bool (!decide (0 ≤ x ∧ x < n))) ∧ w' = w := by
  by_cases h1 : x < 0
  · go_enter Tryz.func130, Tryz.ntmps130
    go_wp2
    go_ret
    exact ⟨by rw [decide_eq_false (by omega)]; rfl, rfl⟩
  · by_cases h2 : (n : Int) ≤ x
    · go_enter Tryz.func130, Tryz.ntmps130
      go_wp2
      go_ret
      exact ⟨by rw [decide_eq_false (by omega)]; rfl, rfl⟩
    · go_enter Tryz.func130, Tryz.ntmps130
      go_wp2
      go_ret
      exact ⟨rfl, rfl⟩

/-- a box for a land, that may be written. -/
structure Lw (w : World) (z : Nat) (a b : Value) : Prop where
  c0 : w.cell? ⟨z, 0, none⟩ = some a
  c1 : w.cell? ⟨z, 1, none⟩ = some b
  f0 : w.frozen? ⟨z, 0, none⟩ = false
  f1 : w.frozen? ⟨z, 1, none⟩ = false
theorem Lw.mk' {w : World} {z : Nat} {a b : Value} (h : w.heap[z]? = some (.cells #[a, b] 165 (0, 0))) : Lw w z a b :=
  ⟨by simp [World.cell?, h], by simp [World.cell?, h], by simp [World.frozen?, h], by simp [World.frozen?, h]⟩

set_option maxHeartbeats 1000000 in
theorem look_bad (v u : Value) (W H : Int) (gs os : List Int) (F : Int) (fl : Bool) (w : World) (h : Fl w v W H gs os) (hF : Fd.fault W H gs os = F) (h0 : F ≠ 0) :
    Calls Tryz.prog 119 #[v, .bool fl, u] w fun e w' => e = .returned (.tuple #[.agg #[.slice none 0 0, .slice none 0 0], .iface 75 (.int .i64 F)]) ∧ Below w.heap.size w w' := by
  have F0 : Hid (Fl w v W H gs os) := h
  have HF : Hid (Fd.fault W H gs os = F) := hF
  have H0 : Hid (F ≠ 0) := h0
  obtain ⟨u1, u2, rfl, ⟨a1, c, rfl, c1, c2, ca⟩, ⟨b1, d, rfl, d1, d2, cb⟩⟩ := h
  clear hF h0 ca cb
  go_enter Tryz.func119, Tryz.ntmps119
  go_wp2_with fail
  refine (Ways_bad _ W H gs os F fl _ (F0.out.below (((Below.refl _ _).alloc (Nat.le_refl _) _).alloc (by simp) _)) HF.out H0.out).mono ?_
  rintro e w1 ⟨rfl, hb⟩
  have B1 : Hid (Below w.heap.size w w1) := (((Below.refl _ _).alloc (Nat.le_refl _) _).alloc (by simp) _).trans (hb.mono (by simp; omega))
  have blk : Hid (w1.heap[w.heap.size + 1]? = some (.cells #[.slice none 0 0, .slice none 0 0] 165 (0, 0))) := by
    unfold Hid
    rw [hb.block (w.heap.size + 1) (by simp)]
    have := heap_alloc_new (w.alloc (Obj.cells #[.int .i64 W, .int .i64 H, .slice a1 gs.length c, .slice b1 os.length d] 25)) (Obj.cells #[.slice none 0 0, .slice none 0 0] 165)
    simpa using this
  clear hb
  have blk2 : (w1.alloc (Obj.cells #[.slice none 0 0] 23)).heap[w.heap.size + 1]? = some (.cells #[.slice none 0 0, .slice none 0 0] 165 (0, 0)) := by
    rw [heap_alloc_old w1 _ (lt_of_block blk.out)]
    exact blk.out
  have B2 : Hid (Below w.heap.size w (w1.alloc (Obj.cells #[.slice none 0 0] 23))) := B1.out.alloc B1.out.size _
  go_upto_region 2 with fail
  generalize w1.alloc (Obj.cells #[.slice none 0 0] 23) = w2 at *
  obtain ⟨c0, c1, f0, f1⟩ := Lw.mk' blk2
  clear blk blk2 B1
  go_wp2
  refine bodyPost_ret (v := .tuple #[.agg #[.slice none 0 0, .slice none 0 0], .iface 75 (.int .i64 F)]) (by simp [results, Tryz.results119, go_sem, c0, c1]) rfl ?_
  exact ⟨rfl, (B2.out.setCell (Nat.le_succ _) _).setCell (Nat.le_succ _) _⟩

set_option maxHeartbeats 2000000 in
theorem look_none (v u : Value) (W H : Nat) (gs os xs : List Int) (fl : Bool) (w : World) (h : Fl w v W H gs os) (G : Fd.Good W H gs os) (hs : Sd w) (hu : Ro w u xs) (hx : xs.any (fun x => !decide (0 ≤ x ∧ x < ((W * H : Nat) : Int))) = true) :
    Calls Tryz.prog 119 #[v, .bool fl, u] w fun e w' => e = .returned (.tuple #[.agg #[.slice none 0 0, .slice none 0 0], .iface 75 (.int .i64 6)]) ∧ Below w.heap.size w w' := by
  have F0 : Hid (Fl w v W H gs os) := h
  have S0 : Hid (Sd w) := hs
  have G0 : Hid (Fd.Good W H gs os) := G
  have U0 : Hid (Ro w u xs) := hu
  have Hx : Hid (xs.any (fun x => !decide (0 ≤ x ∧ x < ((W * H : Nat) : Int))) = true) := hx
  obtain ⟨u1, u2, rfl, ⟨a1, c, rfl, c1, c2, ca⟩, ⟨b1, d, rfl, d1, d2, cb⟩⟩ := h
  clear hs hu hx ca cb
  have Gp : Hid (W * H ≤ 144) := G.pos.2
  have Gq : Hid (0 < W * H) := by have := G.pos.1; unfold Hid; omega
  have Gl : Hid (gs.length = W * H) := G.gl
  clear G
  go_enter Tryz.func119, Tryz.ntmps119
  go_wp2_with fail
  have b0 : Below w.heap.size w ((w.alloc (Obj.cells #[.int .i64 W, .int .i64 H, .slice a1 gs.length c, .slice b1 os.length d] 25)).alloc (Obj.cells #[.slice none 0 0, .slice none 0 0] 165)) := ((Below.refl _ _).alloc (Nat.le_refl _) _).alloc (by simp) _
  refine (Ways_ok _ W H gs os fl _ (F0.out.below b0) G0.out (S0.out.below b0)).mono ?_
  rintro e w1 ⟨p1, p2, us, rfl, hus, hD, hb⟩
  obtain ⟨ss, hss⟩ : ∃ ss, (gs.map fun g => Fd.onto g fl) = ss := ⟨_, rfl⟩
  have Sl : Hid (ss.length = W * H) := by unfold Hid; rw [← hss, List.length_map]; exact Gl.out
  have Hss : Hid ((gs.map fun g => Fd.onto g fl) = ss) := hss
  rw [hss] at hD
  clear hss
  have B1 : Hid (Below w.heap.size w w1) := b0.trans (hb.mono (by simp; omega))
  have blk : Hid (w1.heap[w.heap.size + 1]? = some (.cells #[.slice none 0 0, .slice none 0 0] 165 (0, 0))) := by
    unfold Hid
    rw [hb.block (w.heap.size + 1) (by simp)]
    have := heap_alloc_new (w.alloc (Obj.cells #[.int .i64 W, .int .i64 H, .slice a1 gs.length c, .slice b1 os.length d] 25)) (Obj.cells #[.slice none 0 0, .slice none 0 0] 165)
    simpa using this
  have ba : Below w1.heap.size w1 (w1.alloc (Obj.cells #[p2] 23)) := (Below.refl _ _).alloc (Nat.le_refl _) _
  have Hus : Hid (us.length = W * H) := hus
  have L2 : Hid (Wds (w1.alloc (Obj.cells #[p2] 23)) (w.heap.size + 1 + 1 + 1) p1 p2 us (Fd.near W H) ss) := by
    have := hD.below ba
    unfold Hid
    simpa using this
  have hp1 := hD.bs hus (by have := Gq.out; omega)
  have hp2 := hD.o5.ro
  clear hD hus
  have B2 : Hid (Below w.heap.size w (w1.alloc (Obj.cells #[p2] 23))) := B1.out.trans (ba.mono B1.out.size)
  have K2 : Hid ((w1.alloc (Obj.cells #[p2] 23)).heap[w.heap.size + 1]? = some (.cells #[.slice none 0 0, .slice none 0 0] 165 (0, 0))) := by
    unfold Hid
    rw [heap_alloc_old w1 _ (lt_of_block blk.out)]
    exact blk.out
  have C2 : Hid ((w1.alloc (Obj.cells #[p2] 23)).cell? ⟨w1.heap.size, 0, none⟩ = some p2) := by unfold Hid; simp
  obtain ⟨x1, e1, hp1e, -⟩ := hp1
  obtain ⟨x2, e2, hp2e, -⟩ := hp2
  subst hp1e
  subst hp2e
  clear hb ba b0 blk B1
  go_upto_region 2 with fail
  generalize w1.alloc (Obj.cells #[.slice x2 ss.length e2] 23) = w2 at *
  have U2 : Hid (Ro w2 u xs) := U0.out.below B2.out
  have c9 := C2.out
  have hc : ∀ m, ∀ x ∈ xs, Calls Tryz.prog 130 (#[.int .i64 x] ++ #[.pointer (some ⟨w1.heap.size, 0, none⟩)]) (w2.drewN m) fun e w' => e = .returned (.bool (!decide (0 ≤ x ∧ x < ((W * H : Nat) : Int)))) ∧ ∃ q, w' = w2.drewN q := by
    intro m x _
    rw [show (#[Value.int .i64 x] ++ #[Value.pointer (some ⟨w1.heap.size, 0, none⟩)] : Array Value) = #[.int .i64 x, .pointer (some ⟨w1.heap.size, 0, none⟩)] from rfl]
    refine (nocell_any x w1.heap.size (W * H) e2 x2 (w2.drewN m) ?_ Gp.out).mono ?_
    · have := C2.out
      rw [Sl.out] at this
      exact this
    · rintro e w' ⟨h1, h2⟩
      exact ⟨h1, m, h2⟩
  have hh := hasf_any 130 enter_none u #[.pointer (some ⟨w1.heap.size, 0, none⟩)] xs (fun x => !decide (0 ≤ x ∧ x < ((W * H : Nat) : Int))) w2 U2.out hc
  rw [Hx.out] at hh
  have H3 : Hid (Calls Tryz.prog 88 #[u, .func (Fn.func 130) #[] #[.pointer (some ⟨w1.heap.size, 0, none⟩)]] w2 fun e w' => e = .returned (.bool true) ∧ ∃ q, w' = w2.drewN q) := hh
  clear hh hc
  go_wp2_with fail
  refine Calls.mono H3.out ?_
  rintro e w3 ⟨rfl, q, rfl⟩
  clear H3
  obtain ⟨c0, c1, f0, f1⟩ := Lw.mk' (w := w2.drewN q) K2.out
  have L3 : Hid (Wds (w2.drewN q) (w.heap.size + 1 + 1 + 1) (.slice (some x1) (W * H) e1) (.slice x2 ss.length e2) us (Fd.near W H) ss) := L2.out.below (_root_.Go.below_drewN (Below.refl _ _) _)
  have B3 : Hid (Below w.heap.size w (w2.drewN q)) := _root_.Go.below_drewN B2.out _
  have c9 : (w2.drewN q).cell? ⟨w1.heap.size, 0, none⟩ = some (.slice x2 ss.length e2) := C2.out
  generalize w2.drewN q = w3 at *
  clear B2 L2 K2 C2
  go_wp2
  refine bodyPost_ret (v := .tuple #[.agg #[.slice none 0 0, .slice none 0 0], .iface 75 (.int .i64 6)]) (by simp [results, Tryz.results119, go_sem, c0, c1]) rfl ?_
  exact ⟨rfl, (B3.out.setCell (Nat.le_succ _) _).setCell (Nat.le_succ _) _⟩

set_option maxHeartbeats 2000000 in
theorem look_ok (v u : Value) (W H : Nat) (gs os xs : List Int) (fl : Bool) (w : World) (h : Fl w v W H gs os) (G : Fd.Good W H gs os) (hs : Sd w) (hu : Ro w u xs) (hx : xs.any (fun x => !decide (0 ≤ x ∧ x < ((W * H : Nat) : Int))) = false) :
    Calls Tryz.prog 119 #[v, .bool fl, u] w fun e w' => (∃ v', e = .returned (.tuple #[v', .nilIface]) ∧ Ld w' v' (W * H) (Fd.near W H) (gs.map fun g => Fd.onto g fl)) ∧ Below w.heap.size w w' := by
  have F0 : Hid (Fl w v W H gs os) := h
  have S0 : Hid (Sd w) := hs
  have G0 : Hid (Fd.Good W H gs os) := G
  have U0 : Hid (Ro w u xs) := hu
  have Hx : Hid (xs.any (fun x => !decide (0 ≤ x ∧ x < ((W * H : Nat) : Int))) = false) := hx
  obtain ⟨u1, u2, rfl, ⟨a1, c, rfl, c1, c2, ca⟩, ⟨b1, d, rfl, d1, d2, cb⟩⟩ := h
  clear hs hu hx ca cb
  have Gp : Hid (W * H ≤ 144) := G.pos.2
  have Gq : Hid (0 < W * H) := by have := G.pos.1; unfold Hid; omega
  have Gl : Hid (gs.length = W * H) := G.gl
  clear G
  go_enter Tryz.func119, Tryz.ntmps119
  go_wp2_with fail
  have b0 : Below w.heap.size w ((w.alloc (Obj.cells #[.int .i64 W, .int .i64 H, .slice a1 gs.length c, .slice b1 os.length d] 25)).alloc (Obj.cells #[.slice none 0 0, .slice none 0 0] 165)) := ((Below.refl _ _).alloc (Nat.le_refl _) _).alloc (by simp) _
  refine (Ways_ok _ W H gs os fl _ (F0.out.below b0) G0.out (S0.out.below b0)).mono ?_
  rintro e w1 ⟨p1, p2, us, rfl, hus, hD, hb⟩
  obtain ⟨ss, hss⟩ : ∃ ss, (gs.map fun g => Fd.onto g fl) = ss := ⟨_, rfl⟩
  have Sl : Hid (ss.length = W * H) := by unfold Hid; rw [← hss, List.length_map]; exact Gl.out
  have Hss : Hid ((gs.map fun g => Fd.onto g fl) = ss) := hss
  rw [hss] at hD
  clear hss
  have B1 : Hid (Below w.heap.size w w1) := b0.trans (hb.mono (by simp; omega))
  have blk : Hid (w1.heap[w.heap.size + 1]? = some (.cells #[.slice none 0 0, .slice none 0 0] 165 (0, 0))) := by
    unfold Hid
    rw [hb.block (w.heap.size + 1) (by simp)]
    have := heap_alloc_new (w.alloc (Obj.cells #[.int .i64 W, .int .i64 H, .slice a1 gs.length c, .slice b1 os.length d] 25)) (Obj.cells #[.slice none 0 0, .slice none 0 0] 165)
    simpa using this
  have ba : Below w1.heap.size w1 (w1.alloc (Obj.cells #[p2] 23)) := (Below.refl _ _).alloc (Nat.le_refl _) _
  have Hus : Hid (us.length = W * H) := hus
  have L2 : Hid (Wds (w1.alloc (Obj.cells #[p2] 23)) (w.heap.size + 1 + 1 + 1) p1 p2 us (Fd.near W H) ss) := by
    have := hD.below ba
    unfold Hid
    simpa using this
  have hp1 := hD.bs hus (by have := Gq.out; omega)
  have hp2 := hD.o5.ro
  clear hD hus
  have B2 : Hid (Below w.heap.size w (w1.alloc (Obj.cells #[p2] 23))) := B1.out.trans (ba.mono B1.out.size)
  have K2 : Hid ((w1.alloc (Obj.cells #[p2] 23)).heap[w.heap.size + 1]? = some (.cells #[.slice none 0 0, .slice none 0 0] 165 (0, 0))) := by
    unfold Hid
    rw [heap_alloc_old w1 _ (lt_of_block blk.out)]
    exact blk.out
  have C2 : Hid ((w1.alloc (Obj.cells #[p2] 23)).cell? ⟨w1.heap.size, 0, none⟩ = some p2) := by unfold Hid; simp
  obtain ⟨x1, e1, hp1e, -⟩ := hp1
  obtain ⟨x2, e2, hp2e, -⟩ := hp2
  subst hp1e
  subst hp2e
  clear hb ba b0 blk B1
  go_upto_region 2 with fail
  generalize w1.alloc (Obj.cells #[.slice x2 ss.length e2] 23) = w2 at *
  have U2 : Hid (Ro w2 u xs) := U0.out.below B2.out
  have c9 := C2.out
  have hc : ∀ m, ∀ x ∈ xs, Calls Tryz.prog 130 (#[.int .i64 x] ++ #[.pointer (some ⟨w1.heap.size, 0, none⟩)]) (w2.drewN m) fun e w' => e = .returned (.bool (!decide (0 ≤ x ∧ x < ((W * H : Nat) : Int)))) ∧ ∃ q, w' = w2.drewN q := by
    intro m x _
    rw [show (#[Value.int .i64 x] ++ #[Value.pointer (some ⟨w1.heap.size, 0, none⟩)] : Array Value) = #[.int .i64 x, .pointer (some ⟨w1.heap.size, 0, none⟩)] from rfl]
    refine (nocell_any x w1.heap.size (W * H) e2 x2 (w2.drewN m) ?_ Gp.out).mono ?_
    · have := C2.out
      rw [Sl.out] at this
      exact this
    · rintro e w' ⟨h1, h2⟩
      exact ⟨h1, m, h2⟩
  have hh := hasf_any 130 enter_none u #[.pointer (some ⟨w1.heap.size, 0, none⟩)] xs (fun x => !decide (0 ≤ x ∧ x < ((W * H : Nat) : Int))) w2 U2.out hc
  rw [Hx.out] at hh
  have H3 : Hid (Calls Tryz.prog 88 #[u, .func (Fn.func 130) #[] #[.pointer (some ⟨w1.heap.size, 0, none⟩)]] w2 fun e w' => e = .returned (.bool false) ∧ ∃ q, w' = w2.drewN q) := hh
  clear hh hc
  go_wp2_with fail
  refine Calls.mono H3.out ?_
  rintro e w3 ⟨rfl, q, rfl⟩
  clear H3
  obtain ⟨c0, c1, f0, f1⟩ := Lw.mk' (w := w2.drewN q) K2.out
  have L3 : Hid (Wds (w2.drewN q) (w.heap.size + 1 + 1 + 1) (.slice (some x1) (W * H) e1) (.slice x2 ss.length e2) us (Fd.near W H) ss) := L2.out.below (_root_.Go.below_drewN (Below.refl _ _) _)
  have B3 : Hid (Below w.heap.size w (w2.drewN q)) := _root_.Go.below_drewN B2.out _
  have c9 : (w2.drewN q).cell? ⟨w1.heap.size, 0, none⟩ = some (.slice x2 ss.length e2) := C2.out
  generalize w2.drewN q = w3 at *
  clear B2 L2 K2 C2
  go_wp2
  refine bodyPost_ret (v := .tuple #[.agg #[.slice (some x1) (W * H) e1, .slice x2 ss.length e2], .nilIface]) (by simp [results, Tryz.results119, go_sem, c0, c1]) rfl ?_
  have kk : Kp (w.heap.size + 1) w3 ((w3.setCell ⟨w.heap.size + 1, 0, none⟩ (.slice (some x1) (W * H) e1)).setCell ⟨w.heap.size + 1, 1, none⟩ (.slice x2 ss.length e2)) := (Kp.set _ _ _).trans (Kp.set _ _ _)
  refine ⟨⟨_, rfl, ?_⟩, (B3.out.setCell (Nat.le_succ _) _).setCell (Nat.le_succ _) _⟩
  rw [Hss.out]
  have D5 := L3.out.kp kk (by omega)
  exact ⟨_, _, rfl, D5.bs Hus.out Gq.out, D5.o5.ro, Sl.out⟩
end Go.Proofs.YtagnjmellcibhaaGreatDoor

