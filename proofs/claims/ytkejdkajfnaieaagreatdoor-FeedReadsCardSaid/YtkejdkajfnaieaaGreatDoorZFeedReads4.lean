/- Lines of cells: plain mathematics. · Fields: plain mathematics. · Fields: what is wrong with a cell, with a field. · Fields: what Check says. · Fields: the place of a cell. · Fields: places and lines. · Fields: what every call says first. · Fields: Sees. · Sight: who sees what: plain mathematics. · Fields: Sees, whole. · Slices of api.Unit that the call itself makes, by append. · Lists of integers: a whole list behind another one. · Slices of api.Unit: a whole list behind another one. · Units in a block that may be written. · slices.IndexFunc and ContainsFunc of units. · slices.IndexFunc of units, the function only of what is in the list. · Slices of api.Job that the call itself makes, by append. · A world's nine cells in a block that may be written; worlds that the call itself makes. -/
import Derived.Test.YtkejdkajfnaieaaGreatDoorZFeedReads1
import Derived.Test.YtkejdkajfnaieaaGreatDoorZFeedReads3
import Derived.Test.YtkejdkajfnaieaaGreatDoorZFeedReads2
import Derived.OwnWalk
import Derived.Deep.AppendLies
import Derived.Laws.AppendOwnNone
import Derived.Laws.Closers25
import Derived.IntWalk
import Derived.Deep.DeepCutAuto
namespace Go.Proofs.YtkejdkajfnaieaaGreatDoor.Fd

/-- a column, or row, of a line. -/
def along (n f t k : Int) : Int := (2 * f * n + 2 * k * (t - f) + n) / (2 * n)

theorem along_num (n f t k : Int) : 2 * f * n + 2 * k * (t - f) + n = (f * (n - k) + t * k) * 2 + n := by
  rw [Int.mul_sub, Int.mul_sub, Int.add_mul, Int.sub_mul, Int.mul_assoc 2 f n, Int.mul_assoc 2 k t, Int.mul_assoc 2 k f, Int.mul_comm k t, Int.mul_comm k f]
  omega
theorem mix_le (lo f t x y : Int) (hx : 0 ≤ x) (hy : 0 ≤ y) (hf : lo ≤ f) (ht : lo ≤ t) : lo * (x + y) ≤ f * x + t * y := by
  rw [Int.mul_add]
  have := Int.mul_le_mul_of_nonneg_right hf hx
  have := Int.mul_le_mul_of_nonneg_right ht hy
  omega
theorem mix_ge (hi f t x y : Int) (hx : 0 ≤ x) (hy : 0 ≤ y) (hf : f ≤ hi) (ht : t ≤ hi) : f * x + t * y ≤ hi * (x + y) := by
  rw [Int.mul_add]
  have := Int.mul_le_mul_of_nonneg_right hf hx
  have := Int.mul_le_mul_of_nonneg_right ht hy
  omega
theorem along_ge (lo n f t k : Int) (h0 : 0 ≤ k) (h1 : k ≤ n) (hn : 0 < n) (hf : lo ≤ f) (ht : lo ≤ t) : lo ≤ along n f t k := by
  unfold along
  rw [along_num, Int.le_ediv_iff_mul_le (by omega)]
  have h := mix_le lo f t (n - k) k (by omega) h0 hf ht
  rw [show n - k + k = n by omega] at h
  have e : lo * (2 * n) = lo * n * 2 := by rw [← Int.mul_assoc, Int.mul_comm lo 2, Int.mul_assoc, Int.mul_comm]
  omega
theorem along_le (hi n f t k : Int) (h0 : 0 ≤ k) (h1 : k ≤ n) (hn : 0 < n) (hf : f ≤ hi) (ht : t ≤ hi) : along n f t k ≤ hi := by
  unfold along
  rw [along_num]
  have h := mix_ge hi f t (n - k) k (by omega) h0 hf ht
  rw [show n - k + k = n by omega] at h
  have e : (hi + 1) * (2 * n) = hi * n * 2 + 2 * n := by rw [Int.add_mul, ← Int.mul_assoc, Int.mul_comm hi 2, Int.mul_assoc, Int.mul_comm 2 (hi * n)]; omega
  have : ((f * (n - k) + t * k) * 2 + n) / (2 * n) < hi + 1 := by
    rw [Int.ediv_lt_iff_lt_mul (by omega)]
    omega
  omega
theorem along_zero (n f t : Int) (hn : 0 < n) : along n f t 0 = f := by
  unfold along
  rw [show 2 * f * n + 2 * 0 * (t - f) + n = n + f * (2 * n) by rw [← Int.mul_assoc, Int.mul_comm f 2]; omega, Int.add_mul_ediv_right _ _ (by omega), Int.ediv_eq_zero_of_lt (by omega) (by omega)]
  omega
theorem along_end (n f t : Int) (hn : 0 < n) : along n f t n = t := by
  unfold along
  rw [along_num, show n - n = 0 by omega, Int.mul_zero, show (0 + t * n) * 2 + n = n + t * (2 * n) by rw [← Int.mul_assoc, Int.mul_comm t 2, Int.mul_assoc]; omega, Int.add_mul_ediv_right _ _ (by omega), Int.ediv_eq_zero_of_lt (by omega) (by omega)]
  omega
theorem along_up (n f k : Int) (hn : 0 < n) : along n f (f + n) k = f + k := by
  unfold along
  rw [show f + n - f = n by omega, show 2 * f * n + 2 * k * n + n = n + (f + k) * (2 * n) by rw [Int.add_mul, ← Int.mul_assoc f, ← Int.mul_assoc k, Int.mul_comm f 2, Int.mul_comm k 2]; omega, Int.add_mul_ediv_right _ _ (by omega), Int.ediv_eq_zero_of_lt (by omega) (by omega)]
  omega
theorem along_down (n f k : Int) (hn : 0 < n) : along n f (f - n) k = f - k := by
  unfold along
  rw [show f - n - f = -n by omega, show 2 * f * n + 2 * k * (-n) + n = n + (f - k) * (2 * n) by rw [Int.sub_mul, ← Int.mul_assoc f, ← Int.mul_assoc k, Int.mul_comm f 2, Int.mul_comm k 2, Int.mul_neg]; omega, Int.add_mul_ediv_right _ _ (by omega), Int.ediv_eq_zero_of_lt (by omega) (by omega)]
  omega
theorem div_step (x d m : Int) (hm : 0 < m) (h1 : -m ≤ d) (h2 : d ≤ m) : -1 ≤ (x + d) / m - x / m ∧ (x + d) / m - x / m ≤ 1 := by
  have e1 : (x + m) / m = x / m + 1 := Int.add_ediv_of_dvd_right (Int.dvd_refl m) |>.trans (by rw [Int.ediv_self (by omega)])
  have e2 : (x + -m) / m = x / m + -1 := (Int.add_ediv_of_dvd_right (Int.dvd_neg.2 (Int.dvd_refl m))).trans (by rw [Int.neg_ediv_of_dvd (Int.dvd_refl m), Int.ediv_self (by omega)])
  have l1 : (x + d) / m ≤ (x + m) / m := Int.ediv_le_ediv hm (by omega)
  have l2 : (x + -m) / m ≤ (x + d) / m := Int.ediv_le_ediv hm (by omega)
  omega
theorem along_step (n f t k : Int) (hn : 0 < n) (h1 : -n ≤ t - f) (h2 : t - f ≤ n) : -1 ≤ along n f t (k + 1) - along n f t k ∧ along n f t (k + 1) - along n f t k ≤ 1 := by
  unfold along
  have e : 2 * f * n + 2 * (k + 1) * (t - f) + n = 2 * f * n + 2 * k * (t - f) + n + 2 * (t - f) := by
    rw [Int.mul_add 2 k 1, Int.add_mul]; omega
  rw [e]
  exact div_step _ _ _ (by omega) (by omega) (by omega)

/-- the greater of both distances. -/
def span (W a b : Nat) : Nat := max (max (a % W - b % W) (b % W - a % W)) (max (a / W - b / W) (b / W - a / W))
/-- the k-th cell of a line. -/
def spot (W a b : Nat) (k : Nat) : Int := along (span W a b) (a / W : Nat) (b / W : Nat) k * W + along (span W a b) (a % W : Nat) (b % W : Nat) k
def line (W a b : Nat) : List Int := if span W a b = 0 then [(a : Int)] else (List.range (span W a b + 1)).map (spot W a b)

theorem span_zero {W a b : Nat} (h : span W a b = 0) : a = b := by
  unfold span at h
  have h1 : a % W = b % W := by omega
  have h2 : a / W = b / W := by omega
  rw [← Nat.div_add_mod a W, ← Nat.div_add_mod b W, h1, h2]
theorem span_le {W H a b : Nat} (hW : 0 < W) (w2 : W ≤ 12) (h2 : H ≤ 12) (ha : a < W * H) (hb : b < W * H) : span W a b ≤ 11 := by
  have h3 : a / W < H := Nat.div_lt_of_lt_mul ha
  have h4 : b / W < H := Nat.div_lt_of_lt_mul hb
  have h5 := Nat.mod_lt a hW
  have h6 := Nat.mod_lt b hW
  unfold span
  generalize a / W = x at *
  generalize b / W = y at *
  generalize a % W = u at *
  generalize b % W = v at *
  omega

/-- where a cell of a line lies. -/
theorem spot_in {W H a b k : Nat} (hW : 0 < W) (ha : a < W * H) (hb : b < W * H) (hn : 0 < span W a b) (hk : k ≤ span W a b) :
    ∃ r c : Nat, along (span W a b) (a / W : Nat) (b / W : Nat) k = r ∧ along (span W a b) (a % W : Nat) (b % W : Nat) k = c ∧ r < H ∧ c < W ∧ spot W a b k = ((r * W + c : Nat) : Int) ∧ r * W + c < W * H ∧ (r * W + c) % W = c ∧ (r * W + c) / W = r := by
  have h3 : a / W < H := Nat.div_lt_of_lt_mul ha
  have h4 : b / W < H := Nat.div_lt_of_lt_mul hb
  have h5 := Nat.mod_lt a hW
  have h6 := Nat.mod_lt b hW
  have n1 : (0 : Int) ≤ (a / W : Nat) := Int.natCast_nonneg _
  have n2 : (0 : Int) ≤ (b / W : Nat) := Int.natCast_nonneg _
  have r1 := along_ge 0 (span W a b) (a / W : Nat) (b / W : Nat) k (by omega) (by omega) (by omega) (by omega) (by omega)
  have r2 := along_le (H - 1) (span W a b) (a / W : Nat) (b / W : Nat) k (by omega) (by omega) (by omega) (by omega) (by omega)
  have c1 := along_ge 0 (span W a b) (a % W : Nat) (b % W : Nat) k (by omega) (by omega) (by omega) (by omega) (by omega)
  have c2 := along_le (W - 1) (span W a b) (a % W : Nat) (b % W : Nat) k (by omega) (by omega) (by omega) (by omega) (by omega)
  refine ⟨(along (span W a b) (a / W : Nat) (b / W : Nat) k).toNat, (along (span W a b) (a % W : Nat) (b % W : Nat) k).toNat, by omega, by omega, by omega, by omega, ?_, ?_, ?_, ?_⟩
  · unfold spot
    rw [Int.natCast_add, Int.natCast_mul, Int.toNat_of_nonneg r1, Int.toNat_of_nonneg c1]
  · have h := Nat.mul_le_mul_right W (show (along (span W a b) (a / W : Nat) (b / W : Nat) k).toNat + 1 ≤ H by omega)
    rw [Nat.add_mul, Nat.mul_comm H W] at h
    omega
  · rw [Nat.add_comm, Nat.add_mul_mod_self_right, Nat.mod_eq_of_lt (by omega)]
  · rw [Nat.add_comm, Nat.add_mul_div_right _ _ hW, Nat.div_eq_of_lt (by omega)]
    omega
theorem spot_zero {W a b : Nat} (hn : 0 < span W a b) : spot W a b 0 = a := by
  unfold spot
  have e := along_zero (span W a b) (a / W : Nat) (b / W : Nat) (by omega)
  have e' := along_zero (span W a b) (a % W : Nat) (b % W : Nat) (by omega)
  rw [show (((0 : Nat) : Nat) : Int) = 0 from rfl, e, e', ← Int.natCast_mul, ← Int.natCast_add, Nat.mul_comm, Nat.div_add_mod]
theorem spot_end {W a b : Nat} (hn : 0 < span W a b) : spot W a b (span W a b) = b := by
  unfold spot
  have e := along_end (span W a b) (a / W : Nat) (b / W : Nat) (by omega)
  have e' := along_end (span W a b) (a % W : Nat) (b % W : Nat) (by omega)
  rw [e, e', ← Int.natCast_mul, ← Int.natCast_add, Nat.mul_comm, Nat.div_add_mod]

/-- on the way that is the longer one a line goes one by one. -/
theorem along_major (W a b : Nat) (hn : 0 < span W a b) :
    (∀ k : Int, along (span W a b) (a % W : Nat) (b % W : Nat) k = (a % W : Nat) + k) ∨ (∀ k : Int, along (span W a b) (a % W : Nat) (b % W : Nat) k = (a % W : Nat) - k) ∨
    (∀ k : Int, along (span W a b) (a / W : Nat) (b / W : Nat) k = (a / W : Nat) + k) ∨ (∀ k : Int, along (span W a b) (a / W : Nat) (b / W : Nat) k = (a / W : Nat) - k) := by
  have h : ((b % W : Nat) : Int) = (a % W : Nat) + (span W a b : Nat) ∨ ((b % W : Nat) : Int) = (a % W : Nat) - (span W a b : Nat) ∨ ((b / W : Nat) : Int) = (a / W : Nat) + (span W a b : Nat) ∨ ((b / W : Nat) : Int) = (a / W : Nat) - (span W a b : Nat) := by
    unfold span
    omega
  rcases h with h | h | h | h
  · left; intro k; rw [h]; exact along_up _ _ k (by omega)
  · right; left; intro k; rw [h]; exact along_down _ _ k (by omega)
  · right; right; left; intro k; rw [h]; exact along_up _ _ k (by omega)
  · right; right; right; intro k; rw [h]; exact along_down _ _ k (by omega)

/-- a line goes by steps. -/
theorem spot_step {W H a b k : Nat} (hW : 0 < W) (ha : a < W * H) (hb : b < W * H) (hn : 0 < span W a b) (hk : k + 1 ≤ span W a b) :
    ∃ p q : Nat, spot W a b k = p ∧ spot W a b (k + 1) = q ∧ p < W * H ∧ q < W * H ∧ -1 ≤ ((q % W : Nat) : Int) - (p % W : Nat) ∧ ((q % W : Nat) : Int) - (p % W : Nat) ≤ 1 ∧ -1 ≤ ((q / W : Nat) : Int) - (p / W : Nat) ∧ ((q / W : Nat) : Int) - (p / W : Nat) ≤ 1 ∧
      ¬ (((q % W : Nat) : Int) - (p % W : Nat) = 0 ∧ ((q / W : Nat) : Int) - (p / W : Nat) = 0) := by
  obtain ⟨r, c, er, ec, hr, hc, es, hl, hm, hd⟩ := spot_in hW ha hb hn (show k ≤ span W a b by omega)
  obtain ⟨r', c', er', ec', hr', hc', es', hl', hm', hd'⟩ := spot_in hW ha hb hn hk
  refine ⟨r * W + c, r' * W + c', es, es', hl, hl', ?_⟩
  rw [hm, hm', hd, hd']
  have s1 := along_step (span W a b) (a / W : Nat) (b / W : Nat) k (by omega) (by unfold span; omega) (by unfold span; omega)
  have s2 := along_step (span W a b) (a % W : Nat) (b % W : Nat) k (by omega) (by unfold span; omega) (by unfold span; omega)
  have ek : ((k + 1 : Nat) : Int) = (k : Int) + 1 := by omega
  rw [ek] at er' ec'
  rw [er', er] at s1
  rw [ec', ec] at s2
  refine ⟨s2.1, s2.2, s1.1, s1.2, ?_⟩
  rcases along_major W a b hn with m | m | m | m
  · have := m k; have := m (k + 1); omega
  · have := m k; have := m (k + 1); omega
  · have := m k; have := m (k + 1); omega
  · have := m k; have := m (k + 1); omega
/-- what is between is neither end. -/
theorem spot_inner {W H a b k : Nat} (hW : 0 < W) (ha : a < W * H) (hb : b < W * H) (hn : 0 < span W a b) (h0 : 0 < k) (hk : k < span W a b) : spot W a b k ≠ a ∧ spot W a b k ≠ b := by
  obtain ⟨r, c, er, ec, hr, hc, es, hl, hm, hd⟩ := spot_in hW ha hb hn (show k ≤ span W a b by omega)
  have e0 : ∀ k : Int, ((k = 0 ∨ k = span W a b) → ∃ p : Nat, (k = 0 → p = a) ∧ (k = span W a b → p = b) ∧ along (span W a b) (a / W : Nat) (b / W : Nat) k = (p / W : Nat) ∧ along (span W a b) (a % W : Nat) (b % W : Nat) k = (p % W : Nat)) := by
    rintro k (rfl | rfl)
    · exact ⟨a, fun _ => rfl, fun h => by omega, along_zero _ _ _ (by omega), along_zero _ _ _ (by omega)⟩
    · exact ⟨b, fun h => by omega, fun _ => rfl, along_end _ _ _ (by omega), along_end _ _ _ (by omega)⟩
  rw [es]
  have hA := along_zero (span W a b) (a / W : Nat) (b / W : Nat) (by omega)
  have hA' := along_zero (span W a b) (a % W : Nat) (b % W : Nat) (by omega)
  have hB := along_end (span W a b) (a / W : Nat) (b / W : Nat) (by omega)
  have hB' := along_end (span W a b) (a % W : Nat) (b % W : Nat) (by omega)
  constructor
  · intro e
    have e : r * W + c = a := by omega
    rw [e] at hm hd
    rcases along_major W a b hn with m | m | m | m
    all_goals have := m k; have := m 0; omega
  · intro e
    have e : r * W + c = b := by omega
    rw [e] at hm hd
    rcases along_major W a b hn with m | m | m | m
    all_goals have := m k; have := m (span W a b); omega
theorem line_len (W a b : Nat) : (line W a b).length = span W a b + 1 := by
  unfold line
  split
  · rename_i h; rw [h]; rfl
  · simp
theorem line_get {W a b k : Nat} (hk : k ≤ span W a b) : (line W a b)[k]? = some (if span W a b = 0 then (a : Int) else spot W a b k) := by
  unfold line
  split
  · have : k = 0 := by omega
    subst this
    rfl
  · simp only [List.getElem?_map]
    rw [List.getElem?_range (by omega)]
    rfl
end Go.Proofs.YtkejdkajfnaieaaGreatDoor.Fd

namespace Go.Proofs.YtkejdkajfnaieaaGreatDoor.Fd

/-- what is wrong with a cell. -/
def cellFault (g o : Int) : Int := if g < 0 ∨ 3 < g ∨ o < 0 ∨ 1000000 < o then 1 else if 0 < o ∧ g ≠ 0 then 7 else 0
def cellsFault : List Int → List Int → Int
  | g :: gs, o :: os => if cellFault g o = 0 then cellsFault gs os else cellFault g o
  | _, _ => 0
/-- what is wrong with a field. -/
def fault (W H : Int) (gs os : List Int) : Int :=
  if W < 1 ∨ 12 < W ∨ H < 1 ∨ 12 < H then 1 else if (gs.length : Int) ≠ W * H ∨ (os.length : Int) ≠ W * H then 3 else cellsFault gs os

/-- a field with which nothing is wrong. -/
structure Good (W H : Nat) (gs os : List Int) : Prop where
  w1 : 1 ≤ W
  w2 : W ≤ 12
  h1 : 1 ≤ H
  h2 : H ≤ 12
  gl : gs.length = W * H
  ol : os.length = W * H
  cell : ∀ (i : Nat) g o, gs[i]? = some g → os[i]? = some o → 0 ≤ g ∧ g ≤ 3 ∧ 0 ≤ o ∧ o ≤ 1000000 ∧ (0 < o → g = 0)

theorem cellFault_zero {g o : Int} (h : cellFault g o = 0) : 0 ≤ g ∧ g ≤ 3 ∧ 0 ≤ o ∧ o ≤ 1000000 ∧ (0 < o → g = 0) := by
  unfold cellFault at h
  split at h
  · omega
  · split at h
    · omega
    · omega
theorem cellsFault_zero : ∀ (gs os : List Int), cellsFault gs os = 0 → ∀ (i : Nat) g o, gs[i]? = some g → os[i]? = some o → cellFault g o = 0
  | [], _, _, i, g, o, h1, _ => by simp at h1
  | _ :: _, [], _, i, g, o, _, h2 => by simp at h2
  | g0 :: gs, o0 :: os, h, i, g, o, h1, h2 => by
    unfold cellsFault at h
    split at h
    · rename_i hc
      cases i with
      | zero => simp at h1 h2; subst h1; subst h2; exact hc
      | succ i => exact cellsFault_zero gs os h i g o (by simpa using h1) (by simpa using h2)
    · rename_i hc
      exact absurd h hc
theorem cellsFault_range (gs os : List Int) : cellsFault gs os = 0 ∨ cellsFault gs os = 1 ∨ cellsFault gs os = 7 := by
  induction gs generalizing os with
  | nil => left; unfold cellsFault; rfl
  | cons g gs ih =>
    cases os with
    | nil => left; unfold cellsFault; rfl
    | cons o os =>
      unfold cellsFault
      split
      · exact ih os
      · unfold cellFault
        split
        · right; left; rfl
        · split
          · right; right; rfl
          · left; rfl
theorem fault_range (W H : Int) (gs os : List Int) : fault W H gs os = 0 ∨ fault W H gs os = 1 ∨ fault W H gs os = 3 ∨ fault W H gs os = 7 := by
  unfold fault
  split
  · omega
  · split
    · omega
    · have := cellsFault_range gs os; omega
theorem fault_zero {W H : Int} {gs os : List Int} (h : fault W H gs os = 0) : ∃ W' H' : Nat, W = W' ∧ H = H' ∧ Good W' H' gs os := by
  unfold fault at h
  split at h
  · omega
  · split at h
    · omega
    · rename_i h1 h2
      refine ⟨W.toNat, H.toNat, by omega, by omega, by omega, by omega, by omega, by omega, ?_, ?_, fun i g o hg ho => cellFault_zero (cellsFault_zero gs os h i g o hg ho)⟩
      · have e : ((W.toNat * H.toNat : Nat) : Int) = W * H := by rw [Int.natCast_mul, Int.toNat_of_nonneg (by omega), Int.toNat_of_nonneg (by omega)]
        omega
      · have e : ((W.toNat * H.toNat : Nat) : Int) = W * H := by rw [Int.natCast_mul, Int.toNat_of_nonneg (by omega), Int.toNat_of_nonneg (by omega)]
        omega
theorem cellFault_of {g o : Int} (h : 0 ≤ g ∧ g ≤ 3 ∧ 0 ≤ o ∧ o ≤ 1000000 ∧ (0 < o → g = 0)) : cellFault g o = 0 := by
  unfold cellFault
  rw [if_neg (by omega), if_neg (by omega)]
theorem cellsFault_of : ∀ (gs os : List Int), (∀ (i : Nat) g o, gs[i]? = some g → os[i]? = some o → cellFault g o = 0) → cellsFault gs os = 0
  | [], _, _ => by unfold cellsFault; rfl
  | _ :: _, [], _ => by unfold cellsFault; rfl
  | g :: gs, o :: os, h => by
    unfold cellsFault
    rw [if_pos (h 0 g o rfl rfl)]
    exact cellsFault_of gs os fun i g' o' h1 h2 => h (i + 1) g' o' (by simpa using h1) (by simpa using h2)
theorem fault_good {W H : Nat} {gs os : List Int} (h : Good W H gs os) : fault W H gs os = 0 := by
  have e : ((W * H : Nat) : Int) = (W : Int) * H := Int.natCast_mul _ _
  have := h.gl; have := h.ol; have := h.w1; have := h.w2; have := h.h1; have := h.h2
  unfold fault
  rw [if_neg (by omega), if_neg (by omega)]
  exact cellsFault_of gs os fun i g o h1 h2 => cellFault_of (h.cell i g o h1 h2)
theorem Good.pos {W H : Nat} {gs os : List Int} (h : Good W H gs os) : 1 ≤ W * H ∧ W * H ≤ 144 := by
  have h1 := Nat.mul_le_mul h.w1 h.h1
  have h2 := Nat.mul_le_mul h.w2 h.h2
  omega
theorem cellsFault_drop (gs os : List Int) (k : Nat) (g o : Int) (hg : gs[k]? = some g) (ho : os[k]? = some o) :
    cellsFault (gs.drop k) (os.drop k) = if cellFault g o = 0 then cellsFault (gs.drop (k + 1)) (os.drop (k + 1)) else cellFault g o := by
  obtain ⟨h1, e1⟩ := List.getElem?_eq_some_iff.1 hg
  obtain ⟨h2, e2⟩ := List.getElem?_eq_some_iff.1 ho
  rw [List.drop_eq_getElem_cons h1, List.drop_eq_getElem_cons h2, e1, e2]
  rfl

/-- the fault of a cell's number. -/
def askFault (F : Int) (n : Nat) (xs : List Int) : Int := if F ≠ 0 then F else if xs.all (fun x => decide (0 ≤ x ∧ x < n)) then 0 else 6

/-- the cells beside one. -/
def near (W H a : Nat) : List Int :=
  (if 0 < a / W then [(a : Int) - W] else []) ++ ((if 0 < a % W then [(a : Int) - 1] else []) ++ ((if a % W + 1 < W then [(a : Int) + 1] else []) ++ (if a / W + 1 < H then [(a : Int) + W] else [])))

/-- how far it is onto a ground. -/
def onto (g : Int) (flies : Bool) : Int := if g = 1 then 0 else if g = 2 then (if flies then 1 else 0) else if g = 3 then (if flies then 1 else 2) else 1
end Go.Proofs.YtkejdkajfnaieaaGreatDoor.Fd

namespace Go.Proofs.YtkejdkajfnaieaaGreatDoor
open Go.RowKit

set_option maxHeartbeats 400000 in
theorem fin_any (x a b : Int) (w : World) :
    Calls Tryz.prog 182 #[.int .i64 x, .int .i64 a, .int .i64 b] w fun e w' => e = .returned (.bool (decide (a ≤ x ∧ x ≤ b))) ∧ w' = w := by
  by_cases h1 : a ≤ x
  · by_cases h2 : x ≤ b
    · go_enter Tryz.func182, Tryz.ntmps182
      go_wp2
      go_ret
      exact ⟨by simp [h1, h2], rfl⟩
    · go_enter Tryz.func182, Tryz.ntmps182
      go_wp2
      go_ret
      exact ⟨by simp; omega, rfl⟩
  · go_enter Tryz.func182, Tryz.ntmps182
    go_wp2
    go_ret
    exact ⟨by simp; omega, rfl⟩
theorem fin_yes (x a b : Int) (w : World) (h1 : a ≤ x) (h2 : x ≤ b) :
    Calls Tryz.prog 182 #[.int .i64 x, .int .i64 a, .int .i64 b] w fun e w' => e = .returned (.bool true) ∧ w' = w :=
  (fin_any x a b w).mono fun e w' ⟨h, hw⟩ => ⟨by rw [h, decide_eq_true ⟨h1, h2⟩], hw⟩
theorem fin_no (x a b : Int) (w : World) (h : x < a ∨ b < x) :
    Calls Tryz.prog 182 #[.int .i64 x, .int .i64 a, .int .i64 b] w fun e w' => e = .returned (.bool false) ∧ w' = w :=
  (fin_any x a b w).mono fun e w' ⟨h', hw⟩ => ⟨by rw [h', decide_eq_false (by omega)], hw⟩

set_option maxHeartbeats 400000 in
theorem cell_any (g o : Int) (w : World) :
    Calls Tryz.prog 183 #[.int .i64 g, .int .i64 o] w fun e w' => ∃ v, e = .returned v ∧ Er v (Fd.cellFault g o) ∧ w' = w := by
  unfold Fd.cellFault
  by_cases h1 : 0 ≤ g ∧ g ≤ 3
  · obtain ⟨h1a, h1b⟩ := h1
    by_cases h2 : 0 ≤ o ∧ o ≤ 1000000
    · obtain ⟨h2a, h2b⟩ := h2
      rw [if_neg (by omega)]
      by_cases h3 : 0 < o
      · by_cases h4 : g = 0
        · subst h4
          rw [if_neg (by omega)]
          go_enter Tryz.func183, Tryz.ntmps183
          go_wp2_with (go_at_call 182; refine (fin_yes _ _ _ _ (by omega) (by omega)).mono ?_; rintro e w' ⟨rfl, rfl⟩)
          go_ret
          exact ⟨_, rfl, Er.nil, rfl⟩
        · rw [if_pos ⟨h3, h4⟩]
          go_enter Tryz.func183, Tryz.ntmps183
          go_wp2_with (go_at_call 182; refine (fin_yes _ _ _ _ (by omega) (by omega)).mono ?_; rintro e w' ⟨rfl, rfl⟩)
          go_ret
          exact ⟨_, rfl, Er.no (by decide), rfl⟩
      · rw [if_neg (by omega)]
        go_enter Tryz.func183, Tryz.ntmps183
        go_wp2_with (go_at_call 182; refine (fin_yes _ _ _ _ (by omega) (by omega)).mono ?_; rintro e w' ⟨rfl, rfl⟩)
        go_ret
        exact ⟨_, rfl, Er.nil, rfl⟩
    · rw [if_pos (by omega)]
      have h2' : o < 0 ∨ 1000000 < o := by omega
      clear h2
      go_enter Tryz.func183, Tryz.ntmps183
      go_wp2_with fail
      refine (fin_yes _ _ _ _ (by omega) (by omega)).mono ?_
      rintro e w' ⟨rfl, rfl⟩
      go_wp2_with fail
      refine (fin_no _ _ _ _ h2').mono ?_
      rintro e w' ⟨rfl, rfl⟩
      go_wp2
      go_ret
      exact ⟨_, rfl, Er.no (by decide), rfl⟩
  · rw [if_pos (by omega)]
    have h1' : g < 0 ∨ 3 < g := by omega
    clear h1
    go_enter Tryz.func183, Tryz.ntmps183
    go_wp2_with fail
    refine (fin_no _ _ _ _ h1').mono ?_
    rintro e w' ⟨rfl, rfl⟩
    go_wp2
    go_ret
    exact ⟨_, rfl, Er.no (by decide), rfl⟩
theorem cell_ok (g o : Int) (w : World) (h : Fd.cellFault g o = 0) :
    Calls Tryz.prog 183 #[.int .i64 g, .int .i64 o] w fun e w' => e = .returned .nilIface ∧ w' = w := by
  refine (cell_any g o w).mono ?_
  rintro e w' ⟨v, rfl, hv, rfl⟩
  rcases hv with ⟨_, rfl⟩ | ⟨hn, _⟩
  · exact ⟨rfl, rfl⟩
  · exact absurd h hn
theorem cell_bad (g o f : Int) (w : World) (h : Fd.cellFault g o = f) (hf : f ≠ 0) :
    Calls Tryz.prog 183 #[.int .i64 g, .int .i64 o] w fun e w' => e = .returned (.iface 97 (.int .i64 f)) ∧ w' = w := by
  refine (cell_any g o w).mono ?_
  rintro e w' ⟨v, rfl, hv, rfl⟩
  rw [h] at hv
  rcases hv with ⟨hn, _⟩ | ⟨_, rfl⟩
  · exact absurd hn hf
  · exact ⟨rfl, rfl⟩
end Go.Proofs.YtkejdkajfnaieaaGreatDoor

namespace Go.Proofs.YtkejdkajfnaieaaGreatDoor
open Go.RowKit
set_option linter.unusedVariables false

/-- v is a field of Ground gs and Ore os. -/
def Fl (w : World) (v : Value) (W H : Int) (gs os : List Int) : Prop := ∃ u1 u2, v = .agg #[.int .i64 W, .int .i64 H, u1, u2] ∧ Ro w u1 gs ∧ Ro w u2 os
theorem Fl.below {w w' : World} {v : Value} {W H : Int} {gs os : List Int} (h : Fl w v W H gs os) (hb : Below w.heap.size w w') : Fl w' v W H gs os := by
  obtain ⟨u1, u2, h1, h2, h3⟩ := h
  exact ⟨u1, u2, h1, h2.below hb, h3.below hb⟩

/-- a field in a box. -/
structure Bf (w : World) (z : Nat) (W H : Int) (u1 u2 : Value) : Prop where
  c0 : w.cell? ⟨z, 0, none⟩ = some (.int .i64 W)
  c1 : w.cell? ⟨z, 1, none⟩ = some (.int .i64 H)
  c2 : w.cell? ⟨z, 2, none⟩ = some u1
  c3 : w.cell? ⟨z, 3, none⟩ = some u2
theorem Bf.lt {w : World} {z : Nat} {W H : Int} {u1 u2 : Value} (h : Bf w z W H u1 u2) : z < w.heap.size := cell_lt h.c0
theorem Bf.below {w w' : World} {z n : Nat} {W H : Int} {u1 u2 : Value} (h : Bf w z W H u1 u2) (hb : Below n w w') (hn : z < n) : Bf w' z W H u1 u2 :=
  ⟨by rw [hb.cell (p := ⟨z, 0, none⟩) hn]; exact h.c0, by rw [hb.cell (p := ⟨z, 1, none⟩) hn]; exact h.c1, by rw [hb.cell (p := ⟨z, 2, none⟩) hn]; exact h.c2, by rw [hb.cell (p := ⟨z, 3, none⟩) hn]; exact h.c3⟩
theorem Bf.drewN {w : World} {z : Nat} {W H : Int} {u1 u2 : Value} (h : Bf w z W H u1 u2) (n : Nat) : Bf (w.drewN n) z W H u1 u2 := h.below (_root_.Go.below_drewN (Below.refl _ _) n) h.lt
theorem Bf.mk' {w : World} {z : Nat} (W H : Int) (u1 u2 : Value) (hz : w.heap.size = z) : Bf (w.alloc (.cells #[.int .i64 W, .int .i64 H, u1, u2] 25)) z W H u1 u2 := by
  subst hz
  exact ⟨by simp, by simp, by simp, by simp⟩

set_option maxHeartbeats 1000000 in
theorem check_cells (a b : Option Addr) (c d : Nat) (W H : Int) (gs os : List Int) (w : World) (w1 : 1 ≤ W) (w2 : W ≤ 12) (h1 : 1 ≤ H) (h2 : H ≤ 12) (hg : (gs.length : Int) = W * H) (ho : (os.length : Int) = W * H)
    (c1 : gs.length ≤ c) (c2 : c ≤ 9223372036854775807) (d1 : os.length ≤ d) (d2 : d ≤ 9223372036854775807) (ha : Cells w a gs) (hb : Cells w b os) :
    Calls Tryz.prog 147 #[.agg #[.int .i64 W, .int .i64 H, .slice a gs.length c, .slice b os.length d]] w fun e w' => ∃ v, e = .returned v ∧ Er v (Fd.cellsFault gs os) ∧ Below w.heap.size w w' := by
  have Ha : Hid (Cells w a gs) := ha
  have Hb : Hid (Cells w b os) := hb
  have hn : W * H ≤ 144 := by
    have := Int.mul_le_mul w2 h2 (by omega) (by omega)
    omega
  have Ho : Hid (os.length = gs.length) := by unfold Hid; omega
  have e1 : W * H = (gs.length : Int) := by omega
  have e2 : os.length = gs.length := Ho.out
  clear ha hb
  rw [e2] at d1 ⊢
  clear hg ho e2
  generalize hw0 : w.alloc (Obj.cells #[.int .i64 W, .int .i64 H, .slice a gs.length c, .slice b gs.length d] 25) = w0
  have B0 : Hid (Below w.heap.size w w0) := by rw [← hw0]; exact (Below.refl _ _).alloc (Nat.le_refl _) _
  have f0 : w0.cell? ⟨w.heap.size, 2, none⟩ = some (.slice a gs.length c) := by rw [← hw0]; simp
  have f1 : w0.cell? ⟨w.heap.size, 3, none⟩ = some (.slice b gs.length d) := by rw [← hw0]; simp
  have Hw : Hid (w.alloc (Obj.cells #[.int .i64 W, .int .i64 H, .slice a gs.length c, .slice b gs.length d] 25) = w0) := hw0
  clear hw0
  have Ca : Hid (Cells w0 a gs) := Ha.out.below B0.out
  have Cb : Hid (Cells w0 b os) := Hb.out.below B0.out
  clear Ha Hb
  go_enter Tryz.func147, Tryz.ntmps147
  go_wp2_with (go_at_call 182; refine (fin_yes _ _ _ _ (by omega) (by omega)).mono ?_; rintro e w' ⟨rfl, rfl⟩)
  rw [Hw.out]
  go_loopw [36] (fun i W' => ∃ (k q : Nat), k ≤ gs.length ∧ i = .int .i64 (k : Nat) ∧ Fd.cellsFault (gs.drop k) (os.drop k) = Fd.cellsFault gs os ∧ W' = w0.drewN q) (fun i _ => gs.length - (intOf i).toNat)
  case atStart => exact ⟨0, 0, Nat.zero_le _, rfl, by simp, rfl⟩
  case round =>
    obtain ⟨k, q, hk, rfl, hf, rfl⟩ := hrel
    have Hf : Hid (Fd.cellsFault (gs.drop k) (os.drop k) = Fd.cellsFault gs os) := hf
    clear hf
    by_cases h0 : k = gs.length
    · subst h0
      go_wp2
      go_ret
      refine ⟨_, rfl, ?_, _root_.Go.below_drewN B0.out q⟩
      rw [← Hf.out, List.drop_of_length_le (Nat.le_refl _)]
      exact Er.nil
    · have hkx : k < gs.length := by omega
      have hky : k < os.length := by rw [Ho.out]; exact hkx
      obtain ⟨x, rfl, -, hx⟩ := Ca.out (by intro h; rw [h] at hkx; simp at hkx)
      obtain ⟨y, rfl, -, hy⟩ := Cb.out (by intro h; rw [h] at hky; simp at hky)
      have cx := hx k gs[k] (List.getElem?_eq_getElem hkx)
      have cy := hy k os[k] (List.getElem?_eq_getElem hky)
      have Te := Fd.cellsFault_drop gs os k gs[k] os[k] (List.getElem?_eq_getElem hkx) (List.getElem?_eq_getElem hky)
      rw [Hf.out] at Te
      have HT : Hid _ := Te
      generalize gs[k] = p at *
      generalize os[k] = r at *
      clear hx hy Te
      have f0q : (w0.drewN q).cell? ⟨w.heap.size, 2, none⟩ = some (.slice (some x) gs.length c) := f0
      have f1q : (w0.drewN q).cell? ⟨w.heap.size, 3, none⟩ = some (.slice (some y) gs.length d) := f1
      have cxq : (w0.drewN q).cell? (x.add k) = some (.int .i64 p) := cx
      have cyq : (w0.drewN q).cell? (y.add k) = some (.int .i64 r) := cy
      have Bq : Hid (∀ n, Below w.heap.size w ((w0.drewN q).drewN n)) := fun n => _root_.Go.below_drewN (_root_.Go.below_drewN B0.out q) n
      have Eq : Hid (∀ n, (w0.drewN q).drewN n = w0.drewN (q + n)) := fun n => by rw [World.drewN_drewN]
      clear cx cy
      generalize w0.drewN q = wq at *
      by_cases hc : Fd.cellFault p r = 0
      · have Hc : Hid (Fd.cellFault p r = 0) := hc
        clear hc
        go_wp2
        go_quiet ((go_at_call 183; exact Calls.quiet_of_same (cell_ok _ _ _ Hc.out)))
        go_wp2
        go_round
        case rel => exact ⟨k + 1, q + nq, by omega, by go_num, by have := HT.out; rw [if_pos Hc.out] at this; exact this.symm, Eq.out _⟩
        case measure => simp [intOf]; omega
      · generalize hff : Fd.cellFault p r = ff at *
        have Hc : Hid (Fd.cellFault p r = ff) := hff
        have Hn : Hid (ff ≠ 0) := hc
        clear hc hff
        go_wp2
        go_quiet ((go_at_call 183; exact Calls.quiet_of_same (cell_bad _ _ _ _ Hc.out Hn.out)))
        go_wp2
        go_ret
        refine ⟨_, rfl, ?_, Bq.out _⟩
        rw [HT.out, if_neg Hn.out]
        exact Er.no Hn.out

set_option maxHeartbeats 1000000 in
theorem check_range (u1 u2 : Value) (W H : Int) (w : World) (h : W < 1 ∨ 12 < W ∨ H < 1 ∨ 12 < H) :
    Calls Tryz.prog 147 #[.agg #[.int .i64 W, .int .i64 H, u1, u2]] w fun e w' => e = .returned (.iface 97 (.int .i64 1)) ∧ Below w.heap.size w w' := by
  by_cases h1 : 1 ≤ W ∧ W ≤ 12
  · obtain ⟨h1a, h1b⟩ := h1
    have h2 : H < 1 ∨ 12 < H := by omega
    clear h
    go_enter Tryz.func147, Tryz.ntmps147
    go_wp2_with fail
    refine (fin_yes _ _ _ _ (by omega) (by omega)).mono ?_
    rintro e w' ⟨rfl, rfl⟩
    go_wp2_with fail
    refine (fin_no _ _ _ _ h2).mono ?_
    rintro e w' ⟨rfl, rfl⟩
    go_wp2
    go_ret
    exact ⟨rfl, (Below.refl _ _).alloc (Nat.le_refl _) _⟩
  · have h2 : W < 1 ∨ 12 < W := by omega
    clear h h1
    go_enter Tryz.func147, Tryz.ntmps147
    go_wp2_with fail
    refine (fin_no _ _ _ _ h2).mono ?_
    rintro e w' ⟨rfl, rfl⟩
    go_wp2
    go_ret
    exact ⟨rfl, (Below.refl _ _).alloc (Nat.le_refl _) _⟩

set_option maxHeartbeats 1000000 in
theorem check_shape (a b : Option Addr) (n m c d : Nat) (W H : Int) (w : World) (w1 : 1 ≤ W) (w2 : W ≤ 12) (h1 : 1 ≤ H) (h2 : H ≤ 12) (h : (n : Int) ≠ W * H ∨ (m : Int) ≠ W * H) :
    Calls Tryz.prog 147 #[.agg #[.int .i64 W, .int .i64 H, .slice a n c, .slice b m d]] w fun e w' => e = .returned (.iface 97 (.int .i64 3)) ∧ Below w.heap.size w w' := by
  have hn : W * H ≤ 144 := by
    have := Int.mul_le_mul w2 h2 (by omega) (by omega)
    omega
  have hp : 0 ≤ W * H := Int.mul_nonneg (by omega) (by omega)
  by_cases e : (n : Int) = W * H
  · have e2 : ¬ (m : Int) = W * H := by omega
    have e' : W * H = (n : Int) := e.symm
    rw [e'] at e2
    clear h e
    go_enter Tryz.func147, Tryz.ntmps147
    go_wp2_with (go_at_call 182; refine (fin_yes _ _ _ _ (by omega) (by omega)).mono ?_; rintro e w' ⟨rfl, rfl⟩)
    go_ret
    exact ⟨rfl, (Below.refl _ _).alloc (Nat.le_refl _) _⟩
  · clear h
    go_enter Tryz.func147, Tryz.ntmps147
    go_wp2_with (go_at_call 182; refine (fin_yes _ _ _ _ (by omega) (by omega)).mono ?_; rintro e w' ⟨rfl, rfl⟩)
    go_ret
    exact ⟨rfl, (Below.refl _ _).alloc (Nat.le_refl _) _⟩

/-- what Check says. -/
theorem check_any (v : Value) (W H : Int) (gs os : List Int) (w : World) (h : Fl w v W H gs os) :
    Calls Tryz.prog 147 #[v] w fun e w' => ∃ u, e = .returned u ∧ Er u (Fd.fault W H gs os) ∧ Below w.heap.size w w' := by
  obtain ⟨u1, u2, rfl, ⟨a, c, rfl, c1, c2, ca⟩, ⟨b, d, rfl, d1, d2, cb⟩⟩ := h
  unfold Fd.fault
  by_cases h1 : W < 1 ∨ 12 < W ∨ H < 1 ∨ 12 < H
  · rw [if_pos h1]
    exact (check_range _ _ W H w h1).mono fun e w' ⟨he, hb⟩ => ⟨_, he, Er.no (by decide), hb⟩
  · rw [if_neg h1]
    by_cases h2 : (gs.length : Int) ≠ W * H ∨ (os.length : Int) ≠ W * H
    · rw [if_pos h2]
      exact (check_shape _ _ _ _ _ _ W H w (by omega) (by omega) (by omega) (by omega) h2).mono fun e w' ⟨he, hb⟩ => ⟨_, he, Er.no (by decide), hb⟩
    · rw [if_neg h2]
      exact check_cells a b c d W H gs os w (by omega) (by omega) (by omega) (by omega) (by omega) (by omega) c1 c2 d1 d2 ca cb
end Go.Proofs.YtkejdkajfnaieaaGreatDoor

namespace Go.Proofs.YtkejdkajfnaieaaGreatDoor
open Go.RowKit
set_option linter.unusedVariables false

set_option maxHeartbeats 400000 in
theorem fplace_any (W a c r : Nat) (w : World) (h1 : 0 < W) (h2 : W ≤ 12) (h3 : a ≤ 144) (hc : a % W = c) (hr : a / W = r) :
    Calls Tryz.prog 230 #[.int .i64 (W : Nat), .int .i64 (a : Nat)] w fun e w' => e = .returned (.tuple #[.int .i64 (c : Nat), .int .i64 (r : Nat)]) ∧ ∃ n, w' = w.drewN n := by
  have hw : ¬ (W : Int) = 0 := by omega
  have e1 : (a : Int) % (W : Int) = (c : Nat) := by rw [← hc]; rfl
  have e2 : (a : Int) / (W : Int) = (r : Nat) := by rw [← hr]; rfl
  have l1 : r ≤ 144 := by rw [← hr]; exact Nat.le_trans (Nat.div_le_self _ _) h3
  clear hc hr
  go_enter Tryz.func230, Tryz.ntmps230
  go_wp2
  go_quiet (fail)
  go_wp2
  go_ret2
  exact ⟨by show Ending.returned (.tuple #[.int .i64 ((a : Int) % W), .int .i64 r]) = _; rw [e1], _, rfl⟩
end Go.Proofs.YtkejdkajfnaieaaGreatDoor

namespace Go.Proofs.YtkejdkajfnaieaaGreatDoor
open Go.RowKit
set_option linter.unusedVariables false

set_option maxHeartbeats 400000 in
theorem along_any (n f t k : Int) (b : Nat) (w : World) (n1 : 0 < n) (n2 : n ≤ 11) (f1 : 0 ≤ f) (f2 : f ≤ 11) (t1 : 0 ≤ t) (t2 : t ≤ 11) (k1 : 0 ≤ k) (k2 : k ≤ n) (hb : w.cell? ⟨b, 0, none⟩ = some (.int .i64 n)) :
    Calls Tryz.prog 246 #[.int .i64 f, .int .i64 t, .int .i64 k, .pointer (some ⟨b, 0, none⟩)] w fun e w' => e = .returned (.int .i64 (Fd.along n f t k)) ∧ w' = w := by
  have b1 : 0 ≤ 2 * f * n := Int.mul_nonneg (by omega) (by omega)
  have b2 : 2 * f * n ≤ 22 * 11 := Int.mul_le_mul (by omega) n2 (by omega) (by omega)
  have b3 : 0 ≤ 2 * f * n + 2 * k * (t - f) + n := by
    rw [Fd.along_num]
    have h1 : 0 ≤ f * (n - k) := Int.mul_nonneg f1 (by omega)
    have h2 : 0 ≤ t * k := Int.mul_nonneg t1 k1
    omega
  have b4 : 2 * f * n + 2 * k * (t - f) + n ≤ 1000 := by
    rw [Fd.along_num]
    have h1 : f * (n - k) ≤ 11 * 11 := Int.mul_le_mul f2 (by omega) (by omega) (by omega)
    have h2 : t * k ≤ 11 * 11 := Int.mul_le_mul t2 (by omega) (by omega) (by omega)
    omega
  go_enter Tryz.func246, Tryz.ntmps246
  go_wp2
  go_ret
  exact ⟨rfl, rfl⟩

theorem max4 (a b c d n : Int) (h : n = max (max a b) (max c d)) (w : World) : (Builtin.max_ #[3, 3, 3, 3] 3 #[.int .i64 a, .int .i64 b, .int .i64 c, .int .i64 d]).run Tryz.prog w = .ok (.int .i64 n) w := by
  simp [Builtin.max_, Builtin.max2]
  congr 1
  omega

set_option maxHeartbeats 1000000 in
theorem line_any (W H a b : Nat) (w : World) (h1 : 0 < W) (h2 : W ≤ 12) (h3 : H ≤ 12) (ha : a < W * H) (hb : b < W * H) :
    Calls Tryz.prog 232 #[.int .i64 (W : Nat), .int .i64 (a : Nat), .int .i64 (b : Nat)] w fun e w' => ∃ v, e = .returned v ∧ Ow w' w.heap.size v (Fd.line W a b) ∧ Below w.heap.size w w' := by
  have hm : W * H ≤ 144 := Nat.mul_le_mul h2 h3
  have hs := Fd.span_le h1 h2 h3 ha hb
  have a1 : a / W < H := Nat.div_lt_of_lt_mul ha
  have a2 : b / W < H := Nat.div_lt_of_lt_mul hb
  have a3 := Nat.mod_lt a h1
  have a4 := Nat.mod_lt b h1
  have hn : Hid (max (max (a % W - b % W) (b % W - a % W)) (max (a / W - b / W) (b / W - a / W)) = Fd.span W a b) := rfl
  have HL : Hid (Fd.line W a b = if Fd.span W a b = 0 then [(a : Int)] else (List.range (Fd.span W a b + 1)).map fun k : Nat => Fd.along (Fd.span W a b) (a / W : Nat) (b / W : Nat) k * W + Fd.along (Fd.span W a b) (a % W : Nat) (b % W : Nat) k) := rfl
  obtain ⟨c, hc⟩ : ∃ c, a % W = c := ⟨_, rfl⟩
  obtain ⟨r, hr⟩ : ∃ r, a / W = r := ⟨_, rfl⟩
  obtain ⟨d, hd⟩ : ∃ c, b % W = c := ⟨_, rfl⟩
  obtain ⟨s, hs'⟩ : ∃ r, b / W = r := ⟨_, rfl⟩
  rw [hc, hr, hd, hs'] at hn HL
  rw [hr] at a1
  rw [hs'] at a2
  rw [hc] at a3
  rw [hd] at a4
  generalize Fd.span W a b = n at *
  have hmax := max4 ((c : Int) - d) (d - c) (r - s) (s - r) n (by have := hn.out; omega)
  have Pa : Hid (a % W = c ∧ a / W = r) := ⟨hc, hr⟩
  have Pb : Hid (b % W = d ∧ b / W = s) := ⟨hd, hs'⟩
  have A1 : a ≤ 144 := by omega
  have B1 : b ≤ 144 := by omega
  have c1 : c ≤ 11 := by omega
  have d1 : d ≤ 11 := by omega
  have r1 : r ≤ 11 := by omega
  have s1 : s ≤ 11 := by omega
  have N1 : Hid (n = max (max (c - d) (d - c)) (max (r - s) (s - r))) := hn.out.symm
  clear hc hr hd hs' hn ha hb a1 a2 a3 a4
  go_enter Tryz.func232, Tryz.ntmps232
  go_wp2_with fail
  refine (fplace_any W a c r _ h1 h2 A1 Pa.out.1 Pa.out.2).mono ?_
  rintro e w1 ⟨rfl, q1, hq1⟩
  have B1' : Hid (Below w.heap.size w w1) := by rw [hq1]; exact _root_.Go.below_drewN (Below.refl _ _) _
  clear hq1
  go_wp2_with fail
  refine (fplace_any W b d s _ h1 h2 B1 Pb.out.1 Pb.out.2).mono ?_
  rintro e w2 ⟨rfl, q2, hq2⟩
  have B2 : Hid (Below w.heap.size w w2) := by rw [hq2]; exact _root_.Go.below_drewN B1'.out _
  clear hq2 B1' Pa Pb
  by_cases h0 : n = 0
  · subst h0
    go_wp2
    go_ret
    refine ⟨_, rfl, ?_, ?_⟩
    · have e := HL.out
      simp only [if_true] at e
      rw [e]
      have hz := B2.out.size
      exact Ow.one (w := w2.alloc _) _ (by simp; omega) (by simp)
    · have hz := B2.out.size
      exact (B2.out.alloc hz _).alloc (by simp; omega) _
  · have n0 : 0 < n := by omega
    have HL' : Hid (Fd.line W a b = (List.range (n + 1)).map fun k : Nat => Fd.along n r s k * W + Fd.along n c d k) := by
      have := HL.out
      rw [if_neg h0] at this
      exact this
    clear HL
    have hb0 : ((n : Int) == 0) = false := by rw [beq_eq_false_iff_ne]; omega
    go_wp2_with fail
    clear hmax h0 hb0
    have Z2 : Hid (w.heap.size ≤ w2.heap.size) := B2.out.size
    have B3 : Hid (Below w.heap.size w (w2.alloc (Obj.cells #[Value.int IntKind.i64 n] 3))) := B2.out.alloc B2.out.size _
    have c3 : Hid ((w2.alloc (Obj.cells #[Value.int IntKind.i64 n] 3)).cell? ⟨w2.heap.size, 0, none⟩ = some (.int .i64 n)) := by unfold Hid; simp
    have z3 : Hid ((w2.alloc (Obj.cells #[Value.int IntKind.i64 n] 3)).heap.size = w2.heap.size + 1) := by unfold Hid; simp
    generalize w2.alloc (Obj.cells #[Value.int IntKind.i64 n] 3) = w3 at *
    go_loopw [13, 47] (fun v i W' => ∃ k : Nat, k ≤ n + 1 ∧ i = .int .i64 (k : Nat) ∧ Ow W' (w2.heap.size + 1) v ((List.range k).map fun k : Nat => Fd.along n r s k * W + Fd.along n c d k) ∧ W'.cell? ⟨w2.heap.size, 0, none⟩ = some (.int .i64 n) ∧ Below w.heap.size w W' ∧ w2.heap.size + 1 ≤ W'.heap.size) (fun _ i _ => n + 1 - (intOf i).toNat)
    case atStart => exact ⟨0, Nat.zero_le _, rfl, Ow.nil _ _, c3, B3, by rw [z3.out]; exact Nat.le_refl _⟩
    case round =>
      obtain ⟨k, hk, rfl, ho, hc, hbl, hz⟩ := hrel
      clear B3 c3 z3
      have O : Hid (Ow wr (w2.heap.size + 1) u13 ((List.range k).map fun k : Nat => Fd.along n r s k * W + Fd.along n c d k)) := ho
      have B : Hid (Below w.heap.size w wr) := hbl
      have Z : Hid (w2.heap.size + 1 ≤ wr.heap.size) := hz
      have C : Hid (wr.cell? ⟨w2.heap.size, 0, none⟩ = some (.int .i64 n)) := hc
      clear ho hbl hz hc
      by_cases h0 : k = n + 1
      · subst h0
        have e1 : ¬ ((n : Int) + 1 < n + 1) := by omega
        go_wp2
        go_ret
        exact ⟨_, rfl, by rw [HL'.out]; exact O.out.mono (by have := Z2.out; omega), B⟩
      · have hkn : k ≤ n := by omega
        have p1 := Fd.along_ge 0 n r s k (by omega) (by omega) (by omega) (by omega) (by omega)
        have p2 := Fd.along_le 11 n r s k (by omega) (by omega) (by omega) (by omega) (by omega)
        have q1 := Fd.along_ge 0 n c d k (by omega) (by omega) (by omega) (by omega) (by omega)
        have q2 := Fd.along_le 11 n c d k (by omega) (by omega) (by omega) (by omega) (by omega)
        have K1 := along_any n r s k w2.heap.size wr (by omega) (by omega) (by omega) (by omega) (by omega) (by omega) (by omega) (by omega) C.out
        have K2 := along_any n c d k w2.heap.size wr (by omega) (by omega) (by omega) (by omega) (by omega) (by omega) (by omega) (by omega) C.out
        have S : Hid (((List.range (k + 1)).map fun k : Nat => Fd.along n r s k * W + Fd.along n c d k) = ((List.range k).map fun k : Nat => Fd.along n r s k * W + Fd.along n c d k) ++ [Fd.along n r s k * W + Fd.along n c d k]) := by
          unfold Hid
          rw [List.range_succ, List.map_append]
          rfl
        generalize Fd.along n r s k = p at *
        generalize Fd.along n c d k = q at *
        have L : Hid (((List.range k).map fun k : Nat => Fd.along n r s k * W + Fd.along n c d k).length = k) := by unfold Hid; simp
        generalize ((List.range k).map fun k : Nat => Fd.along n r s k * W + Fd.along n c d k) = xs at *
        have K1' : Hid (Calls Tryz.prog 246 #[.int .i64 r, .int .i64 s, .int .i64 k, .pointer (some ⟨w2.heap.size, 0, none⟩)] wr fun e w' => e = .returned (.int .i64 p) ∧ w' = wr) := K1
        have K2' : Hid (Calls Tryz.prog 246 #[.int .i64 c, .int .i64 d, .int .i64 k, .pointer (some ⟨w2.heap.size, 0, none⟩)] wr fun e w' => e = .returned (.int .i64 q) ∧ w' = wr) := K2
        clear K1 K2
        have m1 : 0 ≤ p * (W : Int) := Int.mul_nonneg p1 (by omega)
        have m2 : p * (W : Int) ≤ 11 * 12 := Int.mul_le_mul p2 (by omega) (by omega) (by omega)
        go_wp2_with fail
        refine Calls.mono K1'.out ?_
        rintro e w4 ⟨rfl, rfl⟩
        go_wp2_with fail
        refine Calls.mono K2'.out ?_
        rintro e w4 ⟨rfl, rfl⟩
        clear K1' K2'
        go_wp2_with (at_builtin; refine app_int _ rfl _ _ rfl (w2.heap.size + 1) _ xs rfl (O.out.alloc _) ⟨w4.heap.size, 0, none⟩ (p * W + q) rfl (by simp) (by rw [L.out]; omega) (by have := Z.out; simp; omega) ?_)
        intro g cap w5 o5 g5 a5 l5
        have O5 : Hid (Ow w5 (w2.heap.size + 1) (.slice (some ⟨g, 0, none⟩) (xs.length + 1) cap) (xs ++ [p * W + q])) := o5
        have hob : ∀ k, u13.ownBlock = some k → w2.heap.size + 1 ≤ k := fun k hk => (O.out.block k hk).1
        have hne : some w2.heap.size ≠ u13.ownBlock := fun e => by have := hob _ e.symm; omega
        have C5 : Hid (w5.cell? ⟨w2.heap.size, 0, none⟩ = some (.int .i64 n)) := by
          unfold Hid
          have z := Z.out
          rw [g5.cell_far ⟨w2.heap.size, 0, none⟩ (by simp; omega) hne, World.cell?_alloc_past _ _ _ (by show w2.heap.size < w4.heap.size; omega)]
          exact C.out
        have B5 : Hid (Below w.heap.size w w5) := (B.out.alloc B.out.size _).grown g5 (by have := B.out.size; simp; omega) (fun k hk => by have := hob k hk; have := Z2.out; omega)
        have Z5 : Hid (w2.heap.size + 1 ≤ w5.heap.size) := by have := Z.out; have := g5.size; simp at this; unfold Hid; omega
        clear o5 g5 a5 l5 hob hne
        go_wp2
        go_round
        case rel => exact ⟨k + 1, by omega, by go_num, by rw [S.out]; exact O5, C5, B5, Z5⟩
        case measure => simp [intOf]; omega
end Go.Proofs.YtkejdkajfnaieaaGreatDoor

namespace Go.Proofs.YtkejdkajfnaieaaGreatDoor
open Go.RowKit
set_option linter.unusedVariables false

theorem any_snoc {p : Int → Bool} {xs : List Int} {k : Nat} (h : k < xs.length) : (xs.take (k + 1)).any p = ((xs.take k).any p || p xs[k]) := by
  rw [List.take_succ_eq_append_getElem h, List.any_append]
  simp

set_option maxHeartbeats 1000000 in
theorem idx1_any (u q : Value) (xs : List Int) (p : Int → Bool) (w : World) (hu : Ro w u xs)
    (hp : ∀ x ∈ xs, Calls Tryz.prog 224 #[.int .i64 x, q] w fun e w' => e = .returned (.bool (p x)) ∧ w' = w) :
    Calls Tryz.prog 140 #[u, .func (Fn.func 224) #[] #[q]] w fun e w' => ∃ r : Int, e = .returned (.int .i64 r) ∧ decide (0 ≤ r) = xs.any p ∧ w' = w := by
  obtain ⟨a, c, rfl, c1, c2, ca⟩ := hu
  have Ca : Hid (Cells w a xs) := ca
  have Hp : Hid (∀ x ∈ xs, Calls Tryz.prog 224 #[.int .i64 x, q] w fun e w' => e = .returned (.bool (p x)) ∧ w' = w) := hp
  clear ca hp
  go_enter Tryz.func140, Tryz.ntmps140
  go_wp2
  go_loop [8] (fun i => ∃ k : Nat, k ≤ xs.length ∧ i = .int .i64 (k : Nat) ∧ (xs.take k).any p = false) (fun i => xs.length - (intOf i).toNat)
  case atStart => exact ⟨0, Nat.zero_le _, rfl, by simp⟩
  case round =>
    obtain ⟨k, hk, rfl, ht⟩ := hrel
    have Ht : Hid ((xs.take k).any p = false) := ht
    clear ht
    by_cases h0 : k = xs.length
    · subst h0
      go_wp2
      go_ret
      refine ⟨_, rfl, ?_, rfl⟩
      have := Ht.out
      rw [List.take_of_length_le (Nat.le_refl _)] at this
      rw [this]
      decide
    · have hkx : k < xs.length := by omega
      obtain ⟨x, rfl, -, hx⟩ := Ca.out (by intro h; rw [h] at hkx; simp at hkx)
      have cx := hx k xs[k] (List.getElem?_eq_getElem hkx)
      have hc := Hp.out xs[k] (List.getElem_mem hkx)
      have Hs : Hid _ := any_snoc (p := p) hkx
      have Hm : Hid (p xs[k] = true → xs.any p = true) := fun h => List.any_eq_true.2 ⟨_, List.getElem_mem hkx, h⟩
      generalize xs[k] = y at *
      clear hx
      cases hy : p y with
      | true =>
        rw [hy] at hc
        have Hc : Hid (Calls Tryz.prog 224 #[.int .i64 y, q] w fun e w' => e = .returned (.bool true) ∧ w' = w) := hc
        have Hy : Hid (p y = true) := hy
        clear hc hy
        go_wp2_with fail
        refine Calls.mono Hc.out ?_
        rintro e w1 ⟨rfl, rfl⟩
        go_wp2
        go_ret
        exact ⟨_, rfl, by rw [Hm.out Hy.out, decide_eq_true (by omega)], rfl⟩
      | false =>
        rw [hy] at hc
        have Hc : Hid (Calls Tryz.prog 224 #[.int .i64 y, q] w fun e w' => e = .returned (.bool false) ∧ w' = w) := hc
        have Hy : Hid (p y = false) := hy
        clear hc hy
        go_wp2_with fail
        refine Calls.mono Hc.out ?_
        rintro e w1 ⟨rfl, rfl⟩
        go_wp2
        go_round
        case rel => exact ⟨k + 1, by omega, by go_num, by have := Hs.out; rw [Ht.out, Hy.out] at this; exact this⟩
        case measure => simp [intOf]; omega

set_option maxHeartbeats 1000000 in
theorem has1_any (u q : Value) (xs : List Int) (p : Int → Bool) (w : World) (hu : Ro w u xs)
    (hp : ∀ x ∈ xs, Calls Tryz.prog 224 #[.int .i64 x, q] w fun e w' => e = .returned (.bool (p x)) ∧ w' = w) :
    Calls Tryz.prog 153 #[u, .func (Fn.func 224) #[] #[q]] w fun e w' => e = .returned (.bool (xs.any p)) ∧ w' = w := by
  have H := idx1_any u q xs p w hu hp
  have H' : Hid (Calls Tryz.prog 140 #[u, .func (Fn.func 224) #[] #[q]] w fun e w' => ∃ r : Int, e = .returned (.int .i64 r) ∧ decide (0 ≤ r) = xs.any p ∧ w' = w) := H
  clear H hp
  go_enter Tryz.func153, Tryz.ntmps153
  go_wp2_with fail
  refine Calls.mono H'.out ?_
  rintro e w1 ⟨r, rfl, hr, rfl⟩
  have Hr : Hid (decide (0 ≤ r) = xs.any p) := hr
  clear hr
  go_wp2
  go_ret
  exact ⟨by show Ending.returned (.bool (decide (0 ≤ r))) = _; rw [Hr.out], rfl⟩

set_option maxHeartbeats 1000000 in
theorem none_any (x : Int) (b : Nat) (a : Option Addr) (n c : Nat) (w : World) (hb : w.cell? ⟨b, 2, none⟩ = some (.slice a n c)) (hn : n ≤ 9223372036854775807) :
    Calls Tryz.prog 224 #[.int .i64 x, .pointer (some ⟨b, 0, none⟩)] w fun e w' => e = .returned (.bool (!decide (0 ≤ x ∧ x < n))) ∧ w' = w := by
  go_enter Tryz.func224, Tryz.ntmps224
  go_wp2_with (go_at_call 182; refine (fin_any _ _ _ _).mono ?_; rintro e w' ⟨rfl, rfl⟩)
  go_ret
  exact ⟨by show Ending.returned (.bool (!decide (0 ≤ x) || !decide (x ≤ (n : Int) - 1))) = _; rw [show (!decide (0 ≤ x) || !decide (x ≤ (n : Int) - 1)) = !decide (0 ≤ x ∧ x < n) by rw [← Bool.not_and, ← Bool.decide_and]; congr 1; rw [decide_eq_decide]; omega], rfl⟩

set_option maxHeartbeats 1000000 in
theorem ask_any (v u : Value) (W H : Int) (gs os xs : List Int) (w : World) (h : Fl w v W H gs os) (hu : Ro w u xs) :
    Calls Tryz.prog 192 #[v, u] w fun e w' => ∃ u, e = .returned u ∧ Er u (Fd.askFault (Fd.fault W H gs os) gs.length xs) ∧ Below w.heap.size w w' := by
  have F0 : Hid (Fl w v W H gs os) := h
  have U0 : Hid (Ro w u xs) := hu
  obtain ⟨u1, u2, rfl, ⟨a, c, rfl, c1, c2, ca⟩, ⟨b, d, rfl, d1, d2, cb⟩⟩ := h
  clear hu ca cb d1 d2
  generalize hw0 : w.alloc (Obj.cells #[.int .i64 W, .int .i64 H, .slice a gs.length c, .slice b os.length d] 25) = w0
  have B0 : Hid (Below w.heap.size w w0) := by rw [← hw0]; exact (Below.refl _ _).alloc (Nat.le_refl _) _
  have f0 : Hid (w0.cell? ⟨w.heap.size, 2, none⟩ = some (.slice a gs.length c)) := by rw [← hw0]; unfold Hid; simp
  have Z0 : Hid (w.heap.size < w0.heap.size) := by rw [← hw0]; unfold Hid; simp
  have Hw : Hid (w.alloc (Obj.cells #[.int .i64 W, .int .i64 H, .slice a gs.length c, .slice b os.length d] 25) = w0) := hw0
  clear hw0
  go_enter Tryz.func192, Tryz.ntmps192
  go_wp2_with fail
  rw [Hw.out]
  refine (check_any _ W H gs os _ (F0.out.below B0.out)).mono ?_
  rintro e w1 ⟨v1, rfl, hv, hb⟩
  have B1 : Hid (Below w.heap.size w w1) := B0.out.trans (hb.mono B0.out.size)
  have f1 : Hid (w1.cell? ⟨w.heap.size, 2, none⟩ = some (.slice a gs.length c)) := by
    unfold Hid
    rw [hb.cell (p := ⟨w.heap.size, 2, none⟩) Z0.out]
    exact f0.out
  have U1 : Hid (Ro w1 u xs) := U0.out.below B1.out
  clear hb
  rcases hv with ⟨hz, rfl⟩ | ⟨hz, rfl⟩
  · have Hz : Hid (Fd.fault W H gs os = 0) := hz
    clear hz
    have hh := has1_any u (.pointer (some ⟨w.heap.size, 0, none⟩)) xs (fun x => !decide (0 ≤ x ∧ x < gs.length)) w1 U1.out (fun x _ => none_any x _ a gs.length c w1 f1.out (by omega))
    have Ea : Hid (Fd.askFault (Fd.fault W H gs os) gs.length xs = if xs.any (fun x => !decide (0 ≤ x ∧ x < gs.length)) then 6 else 0) := by
      unfold Hid Fd.askFault
      rw [if_neg (by rw [Hz.out]; decide)]
      cases hx : xs.all (fun x => decide (0 ≤ x ∧ x < gs.length)) with
      | true =>
        rw [if_pos rfl, if_neg]
        rw [List.all_eq_true] at hx
        simp only [List.any_eq_true, Bool.not_eq_true', not_exists, not_and]
        intro x hm
        rw [hx x hm]
        decide
      | false =>
        rw [if_neg (by decide), if_pos]
        rw [List.all_eq_false] at hx
        obtain ⟨x, hm, hx⟩ := hx
        exact List.any_eq_true.2 ⟨x, hm, by rw [Bool.not_eq_true] at hx; rw [hx]; rfl⟩
    generalize xs.any (fun x => !decide (0 ≤ x ∧ x < gs.length)) = y at *
    have Hh : Hid (Calls Tryz.prog 153 #[u, .func (Fn.func 224) #[] #[.pointer (some ⟨w.heap.size, 0, none⟩)]] w1 fun e w' => e = .returned (.bool y) ∧ w' = w1) := hh
    clear hh
    cases y with
    | true =>
      go_wp2_with fail
      refine Calls.mono Hh.out ?_
      rintro e w2 ⟨rfl, rfl⟩
      go_wp2
      go_ret
      exact ⟨_, rfl, by rw [Ea.out]; exact Er.no (by decide), B1.out⟩
    | false =>
      go_wp2_with fail
      refine Calls.mono Hh.out ?_
      rintro e w2 ⟨rfl, rfl⟩
      go_wp2
      go_ret
      exact ⟨_, rfl, by rw [Ea.out]; exact Er.nil, B1.out⟩
  · have Hz : Hid (Fd.fault W H gs os ≠ 0) := hz
    clear hz
    have Ea : Hid (Fd.askFault (Fd.fault W H gs os) gs.length xs = Fd.fault W H gs os) := by
      unfold Hid Fd.askFault
      rw [if_pos Hz.out]
    go_wp2
    go_ret
    exact ⟨_, rfl, by rw [Ea.out]; exact Er.no Hz.out, B1.out⟩
end Go.Proofs.YtkejdkajfnaieaaGreatDoor

namespace Go.Proofs.YtkejdkajfnaieaaGreatDoor
open Go.RowKit
set_option linter.unusedVariables false

set_option maxHeartbeats 1000000 in
theorem idx3_any (u q q2 q3 : Value) (xs : List Int) (p : Int → Bool) (w : World) (hu : Ro w u xs)
    (hp : ∀ x ∈ xs, Calls Tryz.prog 231 #[.int .i64 x, q, q2, q3] w fun e w' => e = .returned (.bool (p x)) ∧ w' = w) :
    Calls Tryz.prog 140 #[u, .func (Fn.func 231) #[] #[q, q2, q3]] w fun e w' => ∃ r : Int, e = .returned (.int .i64 r) ∧ decide (0 ≤ r) = xs.any p ∧ w' = w := by
  obtain ⟨a, c, rfl, c1, c2, ca⟩ := hu
  have Ca : Hid (Cells w a xs) := ca
  have Hp : Hid (∀ x ∈ xs, Calls Tryz.prog 231 #[.int .i64 x, q, q2, q3] w fun e w' => e = .returned (.bool (p x)) ∧ w' = w) := hp
  clear ca hp
  go_enter Tryz.func140, Tryz.ntmps140
  go_wp2
  go_loop [8] (fun i => ∃ k : Nat, k ≤ xs.length ∧ i = .int .i64 (k : Nat) ∧ (xs.take k).any p = false) (fun i => xs.length - (intOf i).toNat)
  case atStart => exact ⟨0, Nat.zero_le _, rfl, by simp⟩
  case round =>
    obtain ⟨k, hk, rfl, ht⟩ := hrel
    have Ht : Hid ((xs.take k).any p = false) := ht
    clear ht
    by_cases h0 : k = xs.length
    · subst h0
      go_wp2
      go_ret
      refine ⟨_, rfl, ?_, rfl⟩
      have := Ht.out
      rw [List.take_of_length_le (Nat.le_refl _)] at this
      rw [this]
      decide
    · have hkx : k < xs.length := by omega
      obtain ⟨x, rfl, -, hx⟩ := Ca.out (by intro h; rw [h] at hkx; simp at hkx)
      have cx := hx k xs[k] (List.getElem?_eq_getElem hkx)
      have hc := Hp.out xs[k] (List.getElem_mem hkx)
      have Hs : Hid _ := any_snoc (p := p) hkx
      have Hm : Hid (p xs[k] = true → xs.any p = true) := fun h => List.any_eq_true.2 ⟨_, List.getElem_mem hkx, h⟩
      generalize xs[k] = y at *
      clear hx
      cases hy : p y with
      | true =>
        rw [hy] at hc
        have Hc : Hid (Calls Tryz.prog 231 #[.int .i64 y, q, q2, q3] w fun e w' => e = .returned (.bool true) ∧ w' = w) := hc
        have Hy : Hid (p y = true) := hy
        clear hc hy
        go_wp2_with fail
        refine Calls.mono Hc.out ?_
        rintro e w1 ⟨rfl, rfl⟩
        go_wp2
        go_ret
        exact ⟨_, rfl, by rw [Hm.out Hy.out, decide_eq_true (by omega)], rfl⟩
      | false =>
        rw [hy] at hc
        have Hc : Hid (Calls Tryz.prog 231 #[.int .i64 y, q, q2, q3] w fun e w' => e = .returned (.bool false) ∧ w' = w) := hc
        have Hy : Hid (p y = false) := hy
        clear hc hy
        go_wp2_with fail
        refine Calls.mono Hc.out ?_
        rintro e w1 ⟨rfl, rfl⟩
        go_wp2
        go_round
        case rel => exact ⟨k + 1, by omega, by go_num, by have := Hs.out; rw [Ht.out, Hy.out] at this; exact this⟩
        case measure => simp [intOf]; omega

set_option maxHeartbeats 1000000 in
theorem has3_any (u q q2 q3 : Value) (xs : List Int) (p : Int → Bool) (w : World) (hu : Ro w u xs)
    (hp : ∀ x ∈ xs, Calls Tryz.prog 231 #[.int .i64 x, q, q2, q3] w fun e w' => e = .returned (.bool (p x)) ∧ w' = w) :
    Calls Tryz.prog 153 #[u, .func (Fn.func 231) #[] #[q, q2, q3]] w fun e w' => e = .returned (.bool (xs.any p)) ∧ w' = w := by
  have H := idx3_any u q q2 q3 xs p w hu hp
  have H' : Hid (Calls Tryz.prog 140 #[u, .func (Fn.func 231) #[] #[q, q2, q3]] w fun e w' => ∃ r : Int, e = .returned (.int .i64 r) ∧ decide (0 ≤ r) = xs.any p ∧ w' = w) := H
  clear H hp
  go_enter Tryz.func153, Tryz.ntmps153
  go_wp2_with fail
  refine Calls.mono H'.out ?_
  rintro e w1 ⟨r, rfl, hr, rfl⟩
  have Hr : Hid (decide (0 ≤ r) = xs.any p) := hr
  clear hr
  go_wp2
  go_ret
  exact ⟨by show Ending.returned (.bool (decide (0 ≤ r))) = _; rw [Hr.out], rfl⟩

namespace Fd
/-- does a cell of a line hide what is behind? -/
def hide (gs : List Int) (a b x : Int) : Bool := decide (x ≠ a) && (decide (x ≠ b) && (decide (gs.getD x.toNat 0 = 1) || decide (gs.getD x.toNat 0 = 3)))
end Fd

set_option maxHeartbeats 1000000 in
theorem hides_any (x a b : Int) (ba bb bf : Nat) (y : Addr) (n c : Nat) (gs : List Int) (w : World) (x0 : 0 ≤ x) (x1 : x < n) (hn : gs.length = n) (n2 : n ≤ 144)
    (ha : w.cell? ⟨ba, 0, none⟩ = some (.int .i64 a)) (hb : w.cell? ⟨bb, 0, none⟩ = some (.int .i64 b)) (hf : w.cell? ⟨bf, 2, none⟩ = some (.slice (some y) n c))
    (hg : ∀ i d, gs[i]? = some d → w.cell? (y.add i) = some (.int .i64 d)) :
    Calls Tryz.prog 231 #[.int .i64 x, .pointer (some ⟨ba, 0, none⟩), .pointer (some ⟨bb, 0, none⟩), .pointer (some ⟨bf, 0, none⟩)] w fun e w' => e = .returned (.bool (Fd.hide gs a b x)) ∧ w' = w := by
  obtain ⟨k, rfl⟩ : ∃ k : Nat, x = k := ⟨x.toNat, by omega⟩
  have hk : k < gs.length := by omega
  have hc := hg k gs[k] (List.getElem?_eq_getElem hk)
  have He : Hid (Fd.hide gs a b k = (decide ((k : Int) ≠ a) && (decide ((k : Int) ≠ b) && (decide (gs[k] = 1) || decide (gs[k] = 3))))) := by
    unfold Hid Fd.hide
    rw [Int.toNat_natCast, List.getD_eq_getElem?_getD, List.getElem?_eq_getElem hk]
    rfl
  generalize gs[k] = g at *
  clear hg
  by_cases h1 : (k : Int) = a
  · go_enter Tryz.func231, Tryz.ntmps231
    go_wp2
    go_ret
    exact ⟨by rw [He.out]; simp [h1], rfl⟩
  · by_cases h2 : (k : Int) = b
    · go_enter Tryz.func231, Tryz.ntmps231
      go_wp2
      go_ret
      exact ⟨by rw [He.out]; simp [h2], rfl⟩
    · by_cases h3 : g = 1
      · subst h3
        go_enter Tryz.func231, Tryz.ntmps231
        go_wp2
        go_ret
        exact ⟨by rw [He.out]; simp [h1, h2], rfl⟩
      · by_cases h4 : g = 3
        · subst h4
          go_enter Tryz.func231, Tryz.ntmps231
          go_wp2
          go_ret
          exact ⟨by rw [He.out]; simp [h1, h2], rfl⟩
        · go_enter Tryz.func231, Tryz.ntmps231
          go_wp2
          go_ret
          exact ⟨by rw [He.out]; simp [h1, h2, h3, h4], rfl⟩
end Go.Proofs.YtkejdkajfnaieaaGreatDoor

namespace Go.Proofs.YtkejdkajfnaieaaGreatDoor
open Go.RowKit
set_option linter.unusedVariables false

/-- does one of a kind see from a cell to another one? -/
def seeN (W : Nat) (gs : List Int) (k : KV) (a b : Nat) : Bool := decide (farN W a b ≤ k.n3) && (k.f || !(Fd.line W a b).any (Fd.hide gs a b))
/-- is a unit one of a player that sees a cell? -/
def seeU (ks : List KV) (W : Nat) (gs : List Int) (p : Int) (c : Nat) (u : UnV) : Bool := (u.player == p) && (match ks[u.kind.toNat]? with
  | some k => seeN W gs k u.at_.toNat c
  | none => false)
/-- does a player see a cell? -/
def seesP (ks : List KV) (W : Nat) (gs : List Int) (us : List UnV) (p : Int) (c : Nat) : Bool := us.any (seeU ks W gs p c)
def seenL (ks : List KV) (W : Nat) (X : WV) (p : Int) : List Bool := (List.range X.gs.length).map (seesP ks W X.gs X.us p)
def seersUp (ks : List KV) (W : Nat) (X : WV) (c n : Nat) : List Int := ((List.range n).map (fun i : Nat => (i : Int))).filter (fun p => seesP ks W X.gs X.us p c)
def seersL (ks : List KV) (W : Nat) (X : WV) (c : Nat) : List Int := seersUp ks W X c X.gold.length
/-- 0 at some places, up to one. -/
def zerUp (q : Nat → Bool) (n : Nat) (l : List Int) : List Int := l.mapIdx (fun i x => if decide (i < n) && q i then 0 else x)
def zer (q : Nat → Bool) (l : List Int) : List Int := l.mapIdx (fun i x => if q i then 0 else x)
theorem zerUp_len (q : Nat → Bool) (n : Nat) (l : List Int) : (zerUp q n l).length = l.length := by unfold zerUp; simp
theorem zer_len (q : Nat → Bool) (l : List Int) : (zer q l).length = l.length := by unfold zer; simp
theorem zerUp_zero (q : Nat → Bool) (l : List Int) : zerUp q 0 l = l := by
  unfold zerUp
  apply List.ext_getElem?
  intro i
  simp
theorem zerUp_all (q : Nat → Bool) (l : List Int) : zerUp q l.length l = zer q l := by
  unfold zerUp zer
  apply List.ext_getElem
  · simp
  · intro i h1 h2
    have : i < l.length := by simpa using h1
    simp [this]
theorem zerUp_yes {q : Nat → Bool} {n : Nat} (l : List Int) (h : q n = true) : zerUp q (n + 1) l = (zerUp q n l).set n 0 := by
  unfold zerUp
  apply List.ext_getElem
  · simp
  · intro i h1 h2
    rw [List.getElem_set]
    simp only [List.getElem_mapIdx]
    by_cases e : n = i
    · subst e; simp [h]
    · rw [if_neg e]
      have : decide (i < n + 1) = decide (i < n) := decide_eq_decide.2 (by omega)
      rw [this]
theorem zerUp_no {q : Nat → Bool} {n : Nat} (l : List Int) (h : q n = false) : zerUp q (n + 1) l = zerUp q n l := by
  unfold zerUp
  apply List.ext_getElem
  · simp
  · intro i h1 h2
    simp only [List.getElem_mapIdx]
    by_cases e : n = i
    · subst e; simp [h]
    · have : decide (i < n + 1) = decide (i < n) := decide_eq_decide.2 (by omega)
      rw [this]
theorem seers_next (ks : List KV) (W : Nat) (X : WV) (c n : Nat) : seersUp ks W X c (n + 1) = seersUp ks W X c n ++ (if seesP ks W X.gs X.us (n : Nat) c then [((n : Nat) : Int)] else []) := by
  unfold seersUp
  rw [List.range_succ, List.map_append, List.filter_append]
  cases h : seesP ks W X.gs X.us (n : Nat) c <;> simp [h]
theorem seersUp_len (ks : List KV) (W : Nat) (X : WV) (c n : Nat) : (seersUp ks W X c n).length ≤ n := by
  unfold seersUp
  refine Nat.le_trans (List.length_filter_le _ _) ?_
  simp
/-- the world as a player sees it. -/
def hidU (ks : List KV) (W : Nat) (X : WV) (p : Int) (u : UnV) : Bool := !(u.player == p) && !seesP ks W X.gs X.us p u.at_.toNat
def notJ (p : Int) (j : JbV) : Bool := !(j.player == p)
def viewOf (ks : List KV) (W : Nat) (X : WV) (p : Int) : WV := { X with us := X.us.filter (fun u => !hidU ks W X p u), qs := X.qs.filter (fun j => !notJ p j), gold := zer (fun i => !decide ((i : Int) = p)) X.gold, os := zer (fun i => !seesP ks W X.gs X.us p i) X.os }
theorem seen_len (ks : List KV) (W : Nat) (X : WV) (p : Int) : (seenL ks W X p).length = X.gs.length := by unfold seenL; simp
theorem seen_at (ks : List KV) (W : Nat) (X : WV) (p : Int) {c : Nat} (h : c < X.gs.length) : (seenL ks W X p)[c]? = some (seesP ks W X.gs X.us p c) := by
  unfold seenL
  simp [h]
end Go.Proofs.YtkejdkajfnaieaaGreatDoor

namespace Go.Proofs.YtkejdkajfnaieaaGreatDoor
open Go.RowKit
set_option linter.unusedVariables false

theorem cell_alloc {w : World} {o : Obj} {p : Addr} (h : p.block < w.heap.size) : (w.alloc o).cell? p = w.cell? p := ((Below.refl w.heap.size w).alloc (Nat.le_refl _) o).cell h

/-- the boxes of a call of Sees. -/
structure Bsx (w : World) (z : Nat) (W : Int) (v : Value) (a b : Int) : Prop where
  wide : w.cell? ⟨z, 0, none⟩ = some (.int .i64 W)
  ground : w.cell? ⟨z, 2, none⟩ = some v
  ca : w.cell? ⟨z + 1, 0, none⟩ = some (.int .i64 a)
  cb : w.cell? ⟨z + 1 + 1, 0, none⟩ = some (.int .i64 b)
theorem Bsx.lt {w : World} {z : Nat} {W : Int} {v : Value} {a b : Int} (h : Bsx w z W v a b) : z + 2 < w.heap.size := cell_lt h.cb
theorem Bsx.below {w w' : World} {z n : Nat} {W : Int} {v : Value} {a b : Int} (h : Bsx w z W v a b) (hb : Below n w w') (hn : z + 2 < n) : Bsx w' z W v a b :=
  ⟨by rw [hb.cell (p := ⟨z, 0, none⟩) (by show z < n; omega)]; exact h.wide, by rw [hb.cell (p := ⟨z, 2, none⟩) (by show z < n; omega)]; exact h.ground,
   by rw [hb.cell (p := ⟨z + 1, 0, none⟩) (by show z + 1 < n; omega)]; exact h.ca, by rw [hb.cell (p := ⟨z + 1 + 1, 0, none⟩) (by show z + 1 + 1 < n; omega)]; exact h.cb⟩

set_option maxHeartbeats 1000000 in
theorem Sees_bad (v : Value) (W H : Int) (gs os : List Int) (a b s F : Int) (w : World) (h : Fl w v W H gs os) (hF : Fd.askFault (Fd.fault W H gs os) gs.length [a, b] = F) (h0 : F ≠ 0) :
    Calls Tryz.prog 208 #[v, .int .i64 a, .int .i64 b, .int .i64 s] w fun e w' => e = .returned (.tuple #[.bool false, .iface 97 (.int .i64 F)]) ∧ Below w.heap.size w w' := by
  have F0 : Hid (Fl w v W H gs os) := h
  have HF : Hid (Fd.askFault (Fd.fault W H gs os) gs.length [a, b] = F) := hF
  have H0 : Hid (F ≠ 0) := h0
  obtain ⟨u1, u2, rfl, ⟨a1, c, rfl, c1, c2, ca⟩, ⟨b1, d, rfl, d1, d2, cb⟩⟩ := h
  clear hF h0 ca cb
  go_enter Tryz.func208, Tryz.ntmps208
  go_wp2_with fail
  refine (ask_any _ _ W H gs os [a, b] _ (F0.out.below (((((Below.refl _ _).alloc (Nat.le_refl _) _).alloc (by simp) _).alloc (by simp; omega) _).alloc (by simp; omega) _)) (Ro.lit2 (w := ((w.alloc _).alloc _).alloc _) a b (by simp))).mono ?_
  rintro e w1 ⟨v1, rfl, hv, hb⟩
  have B1 : Hid (Below w.heap.size w w1) := (((((Below.refl _ _).alloc (Nat.le_refl _) _).alloc (by simp) _).alloc (by simp; omega) _).alloc (by simp; omega) _).trans (hb.mono (by simp; omega))
  rw [HF.out] at hv
  clear hb
  rcases hv with ⟨hz, rfl⟩ | ⟨hz, rfl⟩
  · exact absurd hz H0.out
  · clear hz
    go_wp2
    go_ret2
    exact ⟨rfl, B1⟩

theorem ask2_good {W H : Nat} {gs os : List Int} {a b : Nat} (G : Fd.Good W H gs os) (ha : a < W * H) (hb : b < W * H) : Fd.askFault (Fd.fault W H gs os) gs.length [(a : Int), (b : Int)] = 0 := by
  unfold Fd.askFault
  rw [Fd.fault_good G, if_neg (by decide), if_pos]
  rw [G.gl]
  simp
  omega

set_option maxHeartbeats 1000000 in
theorem Sees_range (v : Value) (W H : Nat) (gs os : List Int) (a b : Nat) (s : Int) (w : World) (h : Fl w v W H gs os) (G : Fd.Good W H gs os) (ha : a < W * H) (hb : b < W * H) (hs : s < 0 ∨ 1000000 < s) :
    Calls Tryz.prog 208 #[v, .int .i64 (a : Nat), .int .i64 (b : Nat), .int .i64 s] w fun e w' => e = .returned (.tuple #[.bool false, .iface 97 (.int .i64 1)]) ∧ Below w.heap.size w w' := by
  have F0 : Hid (Fl w v W H gs os) := h
  have HF : Hid (Fd.askFault (Fd.fault W H gs os) gs.length [(a : Int), (b : Int)] = 0) := ask2_good G ha hb
  obtain ⟨u1, u2, rfl, ⟨a1, c, rfl, c1, c2, ca⟩, ⟨b1, d, rfl, d1, d2, cb⟩⟩ := h
  clear ca cb G ha hb
  go_enter Tryz.func208, Tryz.ntmps208
  go_wp2_with fail
  refine (ask_any _ _ W H gs os [(a : Int), (b : Int)] _ (F0.out.below (((((Below.refl _ _).alloc (Nat.le_refl _) _).alloc (by simp) _).alloc (by simp; omega) _).alloc (by simp; omega) _)) (Ro.lit2 (w := ((w.alloc _).alloc _).alloc _) a b (by simp))).mono ?_
  rintro e w1 ⟨v1, rfl, hv, hb⟩
  have B1 : Hid (Below w.heap.size w w1) := (((((Below.refl _ _).alloc (Nat.le_refl _) _).alloc (by simp) _).alloc (by simp; omega) _).alloc (by simp; omega) _).trans (hb.mono (by simp; omega))
  rw [HF.out] at hv
  clear hb
  rcases hv with ⟨hz, rfl⟩ | ⟨hz, rfl⟩
  · clear hz
    go_wp2_with fail
    refine (fin_no _ _ _ _ hs).mono ?_
    rintro e w2 ⟨rfl, rfl⟩
    go_wp2
    go_ret2
    exact ⟨rfl, B1⟩
  · exact absurd rfl hz

set_option maxHeartbeats 2000000 in
theorem Sees_ok (v : Value) (W H : Nat) (gs os : List Int) (a b : Nat) (s : Int) (w : World) (h : Fl w v W H gs os) (G : Fd.Good W H gs os) (ha : a < W * H) (hb : b < W * H) (s0 : 0 ≤ s) (s1 : s ≤ 1000000) :
    Calls Tryz.prog 208 #[v, .int .i64 (a : Nat), .int .i64 (b : Nat), .int .i64 s] w fun e w' => ∃ r, Ma.Sq r ((((a % W : Nat) : Int) - (b % W : Nat)) * (((a % W : Nat) : Int) - (b % W : Nat)) + (((a / W : Nat) : Int) - (b / W : Nat)) * (((a / W : Nat) : Int) - (b / W : Nat))) ∧
      e = .returned (.tuple #[.bool (decide (r ≤ s) && !(Fd.line W a b).any (Fd.hide gs a b)), .nilIface]) ∧ Below w.heap.size w w' := by
  have F0 : Hid (Fl w v W H gs os) := h
  have HG : Hid (Fd.Good W H gs os) := G
  have HA : Hid (a < W * H) := ha
  have HB : Hid (b < W * H) := hb
  have HF : Hid (Fd.askFault (Fd.fault W H gs os) gs.length [(a : Int), (b : Int)] = 0) := ask2_good G ha hb
  have hm := G.pos.2
  have A1 : a ≤ 144 := by omega
  have B1' : b ≤ 144 := by omega
  have W1 : 0 < W := G.w1
  have W2 : W ≤ 12 := G.w2
  have a1' : a / W < H := Nat.div_lt_of_lt_mul ha
  have a2' : b / W < H := Nat.div_lt_of_lt_mul hb
  have a3' := Nat.mod_lt a W1
  have a4' := Nat.mod_lt b W1
  have h2' := G.h2
  obtain ⟨u1, u2, rfl, ⟨a1, c, rfl, c1, c2, ca⟩, ⟨b1, d, rfl, d1, d2, cb⟩⟩ := h
  obtain ⟨y, rfl, -, hg⟩ := ca (by intro e; have h3 := G.gl; have h4 := G.pos; rw [e] at h3; simp only [List.length_nil] at h3; omega)
  have Cg : Hid (∀ i d, gs[i]? = some d → w.cell? (y.add i) = some (.int .i64 d)) := hg
  have yl : Hid (y.block < w.heap.size) := by
    have hn : 0 < gs.length := by have := G.gl; have := G.pos; omega
    have := cell_lt (hg 0 gs[0] (List.getElem?_eq_getElem hn))
    rwa [add_block] at this
  have GL : Hid (gs.length = W * H) := G.gl
  clear cb hg G ha hb
  obtain ⟨p, hp⟩ : ∃ c, a % W = c := ⟨_, rfl⟩
  obtain ⟨q, hq⟩ : ∃ c, b % W = c := ⟨_, rfl⟩
  obtain ⟨m, hm'⟩ : ∃ c, a / W = c := ⟨_, rfl⟩
  obtain ⟨n, hn⟩ : ∃ c, b / W = c := ⟨_, rfl⟩
  rw [hp, hq, hm', hn]
  rw [hm'] at a1'
  rw [hn] at a2'
  rw [hp] at a3'
  rw [hq] at a4'
  have Pa : Hid (a % W = p ∧ a / W = m) := ⟨hp, hm'⟩
  have Pb : Hid (b % W = q ∧ b / W = n) := ⟨hq, hn⟩
  clear hp hq hm' hn
  go_enter Tryz.func208, Tryz.ntmps208
  go_wp2_with fail
  refine (ask_any _ _ W H gs os [(a : Int), (b : Int)] _ (F0.out.below (((((Below.refl _ _).alloc (Nat.le_refl _) _).alloc (by simp) _).alloc (by simp; omega) _).alloc (by simp; omega) _)) (Ro.lit2 (w := ((w.alloc _).alloc _).alloc _) a b (by simp))).mono ?_
  rintro e w1 ⟨v1, rfl, hv, hb⟩
  have B1 : Hid (Below w.heap.size w w1) := (((((Below.refl _ _).alloc (Nat.le_refl _) _).alloc (by simp) _).alloc (by simp; omega) _).alloc (by simp; omega) _).trans (hb.mono (by simp; omega))
  have X1 : Hid (Bsx w1 w.heap.size W (.slice (some y) gs.length c) a b) := by
    refine ⟨?_, ?_, ?_, ?_⟩
    · rw [hb.cell (p := ⟨w.heap.size, 0, none⟩) (by simp; omega), cell_alloc (by simp; omega), cell_alloc (by simp; omega), cell_alloc (by simp), World.cell?_alloc_new]
      rfl
    · rw [hb.cell (p := ⟨w.heap.size, 2, none⟩) (by simp; omega), cell_alloc (by simp; omega), cell_alloc (by simp; omega), cell_alloc (by simp), World.cell?_alloc_new]
      rfl
    · rw [hb.cell (p := ⟨w.heap.size + 1, 0, none⟩) (by simp; try omega), cell_alloc (by simp; try omega), cell_alloc (by simp), World.cell?_alloc_at _ _ _ _ (by simp)]
      rfl
    · rw [hb.cell (p := ⟨w.heap.size + 1 + 1, 0, none⟩) (by simp; try omega), cell_alloc (by simp), World.cell?_alloc_at _ _ _ _ (by simp)]
      rfl
  rw [HF.out] at hv
  clear hb
  rcases hv with ⟨hz, rfl⟩ | ⟨hz, rfl⟩
  · clear hz
    have f1 := X1.out.wide
    have f2 := X1.out.ca
    have f3 := X1.out.cb
    go_wp2_with fail
    refine (fin_yes _ _ _ _ s0 s1).mono ?_
    rintro e w2 ⟨rfl, rfl⟩
    go_wp2_with fail
    refine (fplace_any W a p m _ W1 W2 A1 Pa.out.1 Pa.out.2).mono ?_
    rintro e w3 ⟨rfl, q3, hq3⟩
    have b3 : Below w2.heap.size w2 w3 := by rw [hq3]; exact _root_.Go.below_drewN (Below.refl _ _) _
    have B3 : Hid (Below w.heap.size w w3) := B1.out.trans (b3.mono B1.out.size)
    have X3 : Hid (Bsx w3 w.heap.size W (.slice (some y) gs.length c) a b) := X1.out.below b3 X1.out.lt
    clear hq3 b3 B1 X1 f1 f2 f3
    have f1 := X3.out.wide
    have f2 := X3.out.ca
    have f3 := X3.out.cb
    go_wp2_with fail
    refine (fplace_any W b q n _ W1 W2 B1' Pb.out.1 Pb.out.2).mono ?_
    rintro e w4 ⟨rfl, q4, hq4⟩
    have b4 : Below w3.heap.size w3 w4 := by rw [hq4]; exact _root_.Go.below_drewN (Below.refl _ _) _
    have B4 : Hid (Below w.heap.size w w4) := B3.out.trans (b4.mono B3.out.size)
    have X4 : Hid (Bsx w4 w.heap.size W (.slice (some y) gs.length c) a b) := X3.out.below b4 X3.out.lt
    clear hq4 b4 B3 X3 f1 f2 f3
    go_wp2_with fail
    refine (far_ok p m q n _ ⟨by omega, by omega⟩ ⟨by omega, by omega⟩ ⟨by omega, by omega⟩ ⟨by omega, by omega⟩).mono ?_
    rintro e w5 ⟨r, hr, rfl, rfl⟩
    have R : Hid (Ma.Sq r (((p : Int) - q) * ((p : Int) - q) + ((m : Int) - n) * ((m : Int) - n))) := hr
    clear hr
    by_cases hrs : r ≤ s
    · have f1 := X4.out.wide
      have f2 := X4.out.ca
      have f3 := X4.out.cb
      go_wp2_with fail
      refine (line_any W H a b _ W1 W2 h2' HA.out HB.out).mono ?_
      rintro e w6 ⟨u, rfl, ho, b6⟩
      have B6 : Hid (Below w.heap.size w w6) := B4.out.trans (b6.mono B4.out.size)
      have X6 : Bsx w6 w.heap.size W (.slice (some y) gs.length c) a b := X4.out.below b6 X4.out.lt
      have hh := has3_any u (.pointer (some ⟨w.heap.size + 1, 0, none⟩)) (.pointer (some ⟨w.heap.size + 1 + 1, 0, none⟩)) (.pointer (some ⟨w.heap.size, 0, none⟩)) (Fd.line W a b) (Fd.hide gs a b) w6 ho.ro
        (fun x hx => by
          obtain ⟨k, hk, e⟩ := List.mem_iff_getElem.1 hx
          rw [Fd.line_len] at hk
          have e2 := Fd.line_get (W := W) (a := a) (b := b) (k := k) (by omega)
          rw [List.getElem?_eq_getElem (by rw [Fd.line_len]; omega), e] at e2
          have e3 : ∃ t : Nat, x = t ∧ t < W * H := by
            injection e2 with e2
            by_cases h0 : Fd.span W a b = 0
            · rw [if_pos h0] at e2
              exact ⟨a, e2, HA.out⟩
            · rw [if_neg h0] at e2
              obtain ⟨r', c', -, -, -, -, e4, e5, -⟩ := Fd.spot_in W1 HA.out HB.out (show 0 < Fd.span W a b by omega) (show k ≤ Fd.span W a b by omega)
              exact ⟨_, e2.trans e4, e5⟩
          obtain ⟨t, rfl, ht⟩ := e3
          exact hides_any t a b _ _ _ y gs.length c gs w6 (by omega) (by have := GL.out; omega) rfl (by have := GL.out; omega) X6.ca X6.cb X6.ground
            (fun i d hd => by rw [B6.out.cell (p := y.add i) (by rw [add_block]; exact yl.out)]; exact Cg.out i d hd))
      generalize hbl : (Fd.line W a b).any (Fd.hide gs a b) = bl at *
      have Hbl : Hid ((Fd.line W a b).any (Fd.hide gs a b) = bl) := hbl
      have Hh : Hid (Calls Tryz.prog 153 #[u, .func (Fn.func 231) #[] #[.pointer (some ⟨w.heap.size + 1, 0, none⟩), .pointer (some ⟨w.heap.size + 1 + 1, 0, none⟩), .pointer (some ⟨w.heap.size, 0, none⟩)]] w6 fun e w' => e = .returned (.bool bl) ∧ w' = w6) := hh
      clear hh hbl ho b6 X6 X4 f1 f2 f3
      go_wp2_with fail
      refine Calls.mono Hh.out ?_
      rintro e w7 ⟨rfl, rfl⟩
      have Hrs : Hid (r ≤ s) := hrs
      clear hrs
      go_wp2
      go_ret2
      exact ⟨r, R, by show Ending.returned (.tuple #[.bool (!bl), .nilIface]) = _; rw [decide_eq_true Hrs.out, Bool.true_and, Hbl.out], B6⟩
    · have hrs' : s < r := by omega
      go_wp2
      go_ret2
      exact ⟨r, R, by show Ending.returned (.tuple #[.bool false, .nilIface]) = _; rw [decide_eq_false (by omega), Bool.false_and], B4⟩
  · exact absurd rfl hz
end Go.Proofs.YtkejdkajfnaieaaGreatDoor

namespace Go.Proofs.YtkejdkajfnaieaaGreatDoor
open Go.RowKit
set_option linter.unusedVariables false

theorem info_un : (Tryz.prog.info? 42).map (fun i => (i.zero, i.size, i.bytes)) = some (some (.agg #[.int .i64 0, .int .i64 0, .int .i64 0, .int .i64 0, .int .i64 0, .int .i64 0, .int .i64 0, .int .i64 0]), 8, 64) := by kernel_rfl
def UnV.cs (k : UnV) : List Value := [.int .i64 k.id, .int .i64 k.player, .int .i64 k.kind, .int .i64 k.at_, .int .i64 k.life, .int .i64 k.load, .int .i64 k.task, .int .i64 k.goal]
theorem flat_un : ∀ (ks : List UnV) (i j : Nat) (k : UnV), ks[i]? = some k → j < 8 → (ks.flatMap UnV.cs)[i * 8 + j]? = k.cs[j]?
  | [], i, j, k, h, _ => by simp at h
  | x :: ks, 0, j, k, h, hj => by
    simp at h
    subst h
    rw [List.flatMap_cons, List.getElem?_append_left (by simp [UnV.cs]; omega)]
    simp
  | x :: ks, i + 1, j, k, h, hj => by
    rw [List.flatMap_cons, List.getElem?_append_right (by simp [UnV.cs]; omega)]
    have : (i + 1) * 8 + j - (UnV.cs x).length = i * 8 + j := by simp [UnV.cs]; omega
    rw [this]
    exact flat_un ks i j k (by simpa using h) hj
/-- v is a slice of them, in a block of its own from base on. -/
def Uno (w : World) (base : Nat) (v : Value) (ks : List UnV) : Prop := w.ownsRow base 42 8 v ks.length (ks.flatMap UnV.cs)
theorem Uno.nil (w : World) (base : Nat) : Uno w base (.slice none 0 0) [] := World.ownsRow_nil _ _ _ _
theorem Uno.below {w w' : World} {base : Nat} {v : Value} {ks : List UnV} (h : Uno w base v ks) (hb : Below w.heap.size w w') : Uno w' base v ks :=
  World.ownsRow.kept h (row := none) ⟨hb.os, hb.tape, hb.output, hb.size, fun k hk _ => hb.block k hk⟩ (by cases v.ownBlock <;> simp)
theorem Uno.kept {w w' : World} {base : Nat} {v : Value} {ks : List UnV} {row : Option Nat} (h : Uno w base v ks) (hg : w.grownBy w' row) (hne : v.ownBlock = none ∨ v.ownBlock ≠ row) : Uno w' base v ks := World.ownsRow.kept h hg hne
theorem Uno.alloc {w : World} {base : Nat} {v : Value} {ks : List UnV} (h : Uno w base v ks) (o : Obj) : Uno (w.alloc o) base v ks := World.ownsRow.alloc h o
theorem Uno.block {w : World} {base : Nat} {v : Value} {ks : List UnV} (h : Uno w base v ks) : ∀ k, v.ownBlock = some k → base ≤ k ∧ k < w.heap.size := World.ownsRow.lt h
theorem Uno.mono {w : World} {base base' : Nat} {v : Value} {ks : List UnV} (h : Uno w base v ks) (hb : base' ≤ base) : Uno w base' v ks := by
  refine ⟨h.1, ?_⟩
  rcases h.2 with h1 | ⟨g, cap, cur, h1, h2, h3⟩
  · exact .inl h1
  · exact .inr ⟨g, cap, cur, h1, Nat.le_trans hb h2, h3⟩
theorem Uno.l {w : World} {base : Nat} {v : Value} {ks : List UnV} (h : Uno w base v ks) : Unl w v ks := by
  rcases h.2 with ⟨hv, h0⟩ | ⟨g, cap, cur, hv, hb, hg, h1, h2, h3, h4⟩
  · exact ⟨none, 0, by rw [hv, h0], by omega, by omega, fun hn => absurd (List.length_eq_zero_iff.1 h0) hn⟩
  · refine ⟨_, cap, hv, h1, by unfold maxLen at h2; omega, fun _ => ⟨_, rfl, lt_of_block hg, fun i k hi => ?_⟩⟩
    have hil : i < ks.length := (List.getElem?_eq_some_iff.1 hi).1
    have h5 : w.ownsRow base 42 8 (.slice (some ⟨g, 0, none⟩) ks.length cap) ks.length (ks.flatMap UnV.cs) := by rw [← hv]; exact h
    have hc : ∀ j u, j < 8 → k.cs[j]? = some u → w.cell? ⟨g, i * 8 + j, none⟩ = some u := fun j u hj hu => by
      rw [h5.cellAt (i * 8 + j) (by omega), flat_un ks i j k hi hj, hu]
    rw [Addr.add_lit, Nat.zero_add]
    exact ⟨hc 0 _ (by decide) rfl, hc 1 _ (by decide) rfl, hc 2 _ (by decide) rfl, hc 3 _ (by decide) rfl, hc 4 _ (by decide) rfl, hc 5 _ (by decide) rfl, hc 6 _ (by decide) rfl, hc 7 _ (by decide) rfl⟩
theorem Uno.len {w : World} {base : Nat} {v : Value} {ks : List UnV} (h : Uno w base v ks) : ∃ a c, v = .slice a ks.length c := by
  obtain ⟨a, c, h1, -⟩ := h.l
  exact ⟨a, c, h1⟩

/-- one more. -/
theorem app_un {ops : Array Oper} {rest : List Oper} {o : Oper} {a : Act} {Q : Exit → Act → World → Prop} (w : World) (hgd : o.guard = none) (s x : Operand)
    (ho : o.op = .call { callee := .builtin .append, args := #[s, x], argTypes := #[26, 26] }) (base : Nat) (v : Value) (ks : List UnV) (hs : a.eval s = v) (hown : Uno w base v ks)
    (b : Nat) (d : UnV) (hx : a.eval x = .slice (some ⟨b, 0, none⟩) 1 1) (hd : Unc w ⟨b, 0, none⟩ d) (hl : ks.length ≤ 1000000000) (hbase : base ≤ w.heap.size)
    (h : ∀ g cap w', Uno w' base (.slice (some ⟨g, 0, none⟩) (ks.length + 1) cap) (ks ++ [d]) → w.grownBy w' v.ownBlock → (v.ownBlock = some g ∨ g = w.heap.size) → g < w'.heap.size → wpList Tryz.prog ops Q rest (a.put o.dst (.slice (some ⟨g, 0, none⟩) (ks.length + 1) cap)) w') :
    wpList Tryz.prog ops Q (o :: rest) a w := by
  obtain ⟨i0, hi, hz0, hz1, hz2⟩ := info_parts info_un
  refine wpList_append_lies w hgd s x 26 ho base 42 i0 (.agg #[.int .i64 0, .int .i64 0, .int .i64 0, .int .i64 0, .int .i64 0, .int .i64 0, .int .i64 0, .int .i64 0]) 8 64 Tryz.underlying26 hi hz0 hz1 hz2 rfl (by decide) v ks.length _ hs hown ⟨b, 0, none⟩ 1 1 d.cs hx rfl ?_ ?_ (by decide) (by unfold maxLen; omega) (by omega) hbase _ rfl ?_
  · intro j u hj
    have hjn : j < 8 := (List.getElem?_eq_some_iff.1 hj).1
    rw [Addr.add_lit, Nat.zero_add]
    match j, hjn, hj with
    | 0, _, hj => simp [UnV.cs] at hj; subst hj; exact hd.c0
    | 1, _, hj => simp [UnV.cs] at hj; subst hj; exact hd.c1
    | 2, _, hj => simp [UnV.cs] at hj; subst hj; exact hd.c2
    | 3, _, hj => simp [UnV.cs] at hj; subst hj; exact hd.c3
    | 4, _, hj => simp [UnV.cs] at hj; subst hj; exact hd.c4
    | 5, _, hj => simp [UnV.cs] at hj; subst hj; exact hd.c5
    | 6, _, hj => simp [UnV.cs] at hj; subst hj; exact hd.c6
    | 7, _, hj => simp [UnV.cs] at hj; subst hj; exact hd.c7
  · intro u hu
    simp [UnV.cs] at hu
    rcases hu with rfl | rfl | rfl | rfl | rfl | rfl | rfl | rfl <;> rfl
  · intro g cap w' h1 h2 h3 h4
    refine h g cap w' ?_ h2 h3 h4
    unfold Uno
    rw [List.length_append, List.flatMap_append]
    simpa using h1
end Go.Proofs.YtkejdkajfnaieaaGreatDoor

namespace Go.Proofs.YtkejdkajfnaieaaGreatDoor
open Go.RowKit
set_option linter.unusedVariables false

theorem run_append_no {P : Program} {w : World} (base : Nat) (t ty e : TypeId) (i : TypeInfo) (size : Nat) (ht : P.underlying t = some (.slice e)) (hi : P.info? e = some i)
    (v : Value) (n : Nat) (xs : List Value) (hown : w.ownsRow base e size v n xs) (a : Option Addr) (c : Nat) :
    (Builtin.append_ #[t, t] ty #[v, .slice a 0 c]).run P w = .ok v w := by
  rcases hown.2 with ⟨rfl, rfl⟩ | ⟨g, cap, cur, rfl, _, _, hnc, _⟩
  · cases a <;> simp [Builtin.append_, run_underlying ht, sizeOf, typeInfo, hi, Builtin.lenOf, Builtin.firstCells, loadCells, loadCellsFrom]
  · cases a <;> simp [Builtin.append_, run_underlying ht, sizeOf, typeInfo, hi, Builtin.lenOf, Builtin.firstCells, hnc, storeCells, loadCells, loadCellsFrom]
theorem app_row {ops : Array Oper} {rest : List Oper} {o : Oper} {a : Act} {Q : Exit → Act → World → Prop} (w : World) (hgd : o.guard = none) (s x : Operand)
    (ho : o.op = .call { callee := .builtin .append, args := #[s, x], argTypes := #[23, 23] }) (base : Nat) (v : Value) (xs : List Int) (hs : a.eval s = v) (hown : Ow w base v xs)
    (u : Value) (ys : List Int) (hx : a.eval x = u) (hu : Ro w u ys) (hl : xs.length + ys.length ≤ 1000000000) (hbase : base ≤ w.heap.size)
    (h : ∀ v' w', Ow w' base v' (xs ++ ys) → w.grownBy w' v.ownBlock → (v'.ownBlock = v.ownBlock ∨ v'.ownBlock = some w.heap.size) → wpList Tryz.prog ops Q rest (a.put o.dst v') w') :
    wpList Tryz.prog ops Q (o :: rest) a w := by
  obtain ⟨i0, hi, hz0, hz1, hz2⟩ := info_parts info_int
  obtain ⟨ad, c, rfl, h1, h2, h3⟩ := hu
  by_cases hn : ys = []
  · subst hn
    refine wpList_plain hgd fun K hK => ?_
    have hrun := run_append_no (P := Tryz.prog) (w := w) base 23 o.type 3 i0 1 Tryz.underlying23 hi v xs.length _ hown ad c
    have hx' : a.eval x = .slice ad 0 c := hx
    unfold Oper.wp
    simp [execOp, ho, resolve, invoke, builtin, hs, hx', hrun, Result.andThen]
    exact hK _ _ (h v w (by simpa using hown) (World.grownBy.refl _ _) (.inl rfl))
  · obtain ⟨y, rfl, hy, hc⟩ := h3 hn
    refine wpList_append_lies w hgd s x 23 ho base 3 i0 (.int .i64 0) 1 8 Tryz.underlying23 hi hz0 hz1 hz2 rfl (by decide) v xs.length _ hs hown y ys.length c (ys.map (Value.int .i64)) hx (by simp) ?_ ?_ (List.length_pos_iff.2 hn) (by unfold maxLen; omega) (by omega) hbase _ rfl ?_
    · intro j u hj
      rw [List.getElem?_map] at hj
      cases hd : ys[j]? with
      | none => rw [hd] at hj; cases hj
      | some d => rw [hd] at hj; cases hj; exact hc j d hd
    · exact ints_oneCell _ _
    · intro g cap w' k1 k2 k3 _
      refine h _ w' ?_ k2 ?_
      · unfold Ow
        rw [List.length_append, List.map_append]
        exact k1
      · rcases k3 with k3 | k3
        · exact .inl k3.symm
        · exact .inr (by rw [k3]; rfl)
end Go.Proofs.YtkejdkajfnaieaaGreatDoor

namespace Go.Proofs.YtkejdkajfnaieaaGreatDoor
open Go.RowKit
set_option linter.unusedVariables false

theorem len_un (ks : List UnV) : (ks.flatMap UnV.cs).length = ks.length * 8 := by
  induction ks with
  | nil => rfl
  | cons x l ih => rw [List.flatMap_cons, List.length_append, ih, List.length_cons, Nat.succ_mul, Nat.add_comm]; rfl
theorem cell_un {w : World} {y : Addr} {ks : List UnV} (hc : ∀ (i : Nat) k, ks[i]? = some k → Unc w (y.add (i * 8)) k) (j : Nat) (u : Value) (hj : (ks.flatMap UnV.cs)[j]? = some u) : w.cell? (y.add j) = some u := by
  have hjl : j < ks.length * 8 := by rw [← len_un]; exact (List.getElem?_eq_some_iff.1 hj).1
  obtain ⟨i, r, hr, rfl⟩ : ∃ i r, r < 8 ∧ j = i * 8 + r := ⟨j / 8, j % 8, Nat.mod_lt _ (by decide), by omega⟩
  have hi : i < ks.length := by omega
  obtain ⟨k, hk⟩ : ∃ k, ks[i]? = some k := ⟨_, List.getElem?_eq_getElem hi⟩
  rw [flat_un ks i r k hk hr] at hj
  have h := hc i k hk
  rcases Nat.eq_zero_or_pos r with rfl | hr0
  · simp [UnV.cs] at hj
    subst hj
    exact h.c0
  · have ea : y.add (i * 8 + r) = ⟨(y.add (i * 8)).block, (y.add (i * 8)).off + r, none⟩ := by
      unfold Addr.add
      rw [if_neg (by omega)]
      split <;> simp <;> omega
    rw [ea]
    match r, hr, hr0, hj with
    | 1, _, _, hj => simp [UnV.cs] at hj; subst hj; exact h.c1
    | 2, _, _, hj => simp [UnV.cs] at hj; subst hj; exact h.c2
    | 3, _, _, hj => simp [UnV.cs] at hj; subst hj; exact h.c3
    | 4, _, _, hj => simp [UnV.cs] at hj; subst hj; exact h.c4
    | 5, _, _, hj => simp [UnV.cs] at hj; subst hj; exact h.c5
    | 6, _, _, hj => simp [UnV.cs] at hj; subst hj; exact h.c6
    | 7, _, _, hj => simp [UnV.cs] at hj; subst hj; exact h.c7

theorem app_uns {ops : Array Oper} {rest : List Oper} {o : Oper} {a : Act} {Q : Exit → Act → World → Prop} (w : World) (hgd : o.guard = none) (s x : Operand)
    (ho : o.op = .call { callee := .builtin .append, args := #[s, x], argTypes := #[26, 26] }) (base : Nat) (v : Value) (ks : List UnV) (hs : a.eval s = v) (hown : Uno w base v ks)
    (u : Value) (ys : List UnV) (hx : a.eval x = u) (hu : Unl w u ys) (hl : ks.length + ys.length ≤ 100000000) (hbase : base ≤ w.heap.size)
    (h : ∀ v' w', Uno w' base v' (ks ++ ys) → w.grownBy w' v.ownBlock → (v'.ownBlock = v.ownBlock ∨ v'.ownBlock = some w.heap.size) → wpList Tryz.prog ops Q rest (a.put o.dst v') w') :
    wpList Tryz.prog ops Q (o :: rest) a w := by
  obtain ⟨i0, hi, hz0, hz1, hz2⟩ := info_parts info_un
  obtain ⟨ad, c, rfl, h1, h2, h3⟩ := hu
  by_cases hn : ys = []
  · subst hn
    refine wpList_plain hgd fun K hK => ?_
    have hrun := run_append_no (P := Tryz.prog) (w := w) base 26 o.type 42 i0 8 Tryz.underlying26 hi v ks.length _ hown ad c
    have hx' : a.eval x = .slice ad 0 c := hx
    unfold Oper.wp
    simp [execOp, ho, resolve, invoke, builtin, hs, hx', hrun, Result.andThen]
    exact hK _ _ (h v w (by simpa using hown) (World.grownBy.refl _ _) (.inl rfl))
  · obtain ⟨y, rfl, hy, hc⟩ := h3 hn
    refine wpList_append_lies w hgd s x 26 ho base 42 i0 _ 8 64 Tryz.underlying26 hi hz0 hz1 hz2 rfl (by decide) v ks.length _ hs hown y ys.length c (ys.flatMap UnV.cs) hx (len_un ys) (cell_un hc) ?_ (List.length_pos_iff.2 hn) (by unfold maxLen; omega) (by omega) hbase _ rfl ?_
    · intro u hu
      obtain ⟨k, -, hk⟩ := List.mem_flatMap.1 hu
      simp [UnV.cs] at hk
      rcases hk with rfl | rfl | rfl | rfl | rfl | rfl | rfl | rfl <;> rfl
    · intro g cap w' k1 k2 k3 _
      refine h _ w' ?_ k2 ?_
      · unfold Uno
        rw [List.length_append, List.flatMap_append]
        exact k1
      · rcases k3 with k3 | k3
        · exact .inl k3.symm
        · exact .inr (by rw [k3]; rfl)
end Go.Proofs.YtkejdkajfnaieaaGreatDoor

namespace Go.Proofs.YtkejdkajfnaieaaGreatDoor
open Go.RowKit
set_option linter.unusedVariables false

/-- block g has these units, and more behind them. -/
def Ub (w : World) (g : Nat) (ks : List UnV) (rest : List Value) : Prop := w.heap[g]? = some (.cells (ks.flatMap UnV.cs ++ rest).toArray 42 (0, 0))
theorem Ub.lt {w : World} {g : Nat} {ks : List UnV} {rest : List Value} (h : Ub w g ks rest) : g < w.heap.size := lt_of_block h
theorem Ub.thaw {w : World} {g : Nat} {ks : List UnV} {rest : List Value} (h : Ub w g ks rest) (i : Nat) : w.frozen? ⟨g, i, none⟩ = false := by
  unfold Ub at h
  simp [World.frozen?, h]
theorem Ub.below {w w' : World} {g B : Nat} {ks : List UnV} {rest : List Value} (h : Ub w g ks rest) (hb : Below B w w') (hB : g < B) : Ub w' g ks rest := by
  unfold Ub at *
  rw [hb.block g hB]; exact h
theorem Ub.at_ {w : World} {g : Nat} {ks : List UnV} {rest : List Value} (h : Ub w g ks rest) {i : Nat} {o : UnV} (ho : ks[i]? = some o) {j : Nat} (hj : j < 8) : w.cell? ⟨g, i * 8 + j, none⟩ = o.cs[j]? := by
  unfold Ub at h
  have hi : i < ks.length := (List.getElem?_eq_some_iff.1 ho).1
  simp only [World.cell?, h]
  have e : (ks.flatMap UnV.cs ++ rest).toArray[i * 8 + j]? = o.cs[j]? := by
    rw [List.getElem?_toArray, List.getElem?_append_left (by rw [len_un]; omega), flat_un ks i j o ho hj]
  simp only [e]
  simp
theorem Ub.unc {w : World} {g : Nat} {ks : List UnV} {rest : List Value} (h : Ub w g ks rest) {i : Nat} {o : UnV} (ho : ks[i]? = some o) : Unc w ⟨g, i * 8, none⟩ o :=
  ⟨h.at_ ho (j := 0) (by decide), h.at_ ho (j := 1) (by decide), h.at_ ho (j := 2) (by decide), h.at_ ho (j := 3) (by decide), h.at_ ho (j := 4) (by decide), h.at_ ho (j := 5) (by decide), h.at_ ho (j := 6) (by decide), h.at_ ho (j := 7) (by decide)⟩
theorem uflat_set : ∀ (ks : List UnV) (i : Nat) (o : UnV) (rest : List Value), i < ks.length →
    (ks.set i o).flatMap UnV.cs ++ rest = ((((((((ks.flatMap UnV.cs ++ rest).set (i * 8) (.int .i64 o.id)).set (i * 8 + 1) (.int .i64 o.player)).set (i * 8 + 2) (.int .i64 o.kind)).set (i * 8 + 3) (.int .i64 o.at_)).set (i * 8 + 4) (.int .i64 o.life)).set (i * 8 + 5) (.int .i64 o.load)).set (i * 8 + 6) (.int .i64 o.task)).set (i * 8 + 7) (.int .i64 o.goal)
  | [], i, o, rest, h => by simp at h
  | k :: ks, 0, o, rest, _ => by
    simp [UnV.cs]
  | k :: ks, i + 1, o, rest, h => by
    have ih := uflat_set ks i o rest (by simpa using h)
    rw [show (i + 1) * 8 = i * 8 + 8 by omega, show i * 8 + 8 + 1 = i * 8 + 1 + 8 by omega, show i * 8 + 8 + 2 = i * 8 + 2 + 8 by omega, show i * 8 + 8 + 3 = i * 8 + 3 + 8 by omega, show i * 8 + 8 + 4 = i * 8 + 4 + 8 by omega, show i * 8 + 8 + 5 = i * 8 + 5 + 8 by omega, show i * 8 + 8 + 6 = i * 8 + 6 + 8 by omega, show i * 8 + 8 + 7 = i * 8 + 7 + 8 by omega, List.set_cons_succ, List.flatMap_cons, List.append_assoc, ih, List.flatMap_cons]
    simp [UnV.cs]
theorem Ub.put {w : World} {g : Nat} {ks : List UnV} {rest : List Value} (h : Ub w g ks rest) {i : Nat} (hi : i < ks.length) (o : UnV) :
    Ub ((((((((w.setCell ⟨g, i * 8, none⟩ (.int .i64 o.id)).setCell ⟨g, i * 8 + 1, none⟩ (.int .i64 o.player)).setCell ⟨g, i * 8 + 2, none⟩ (.int .i64 o.kind)).setCell ⟨g, i * 8 + 3, none⟩ (.int .i64 o.at_)).setCell ⟨g, i * 8 + 4, none⟩ (.int .i64 o.life)).setCell ⟨g, i * 8 + 5, none⟩ (.int .i64 o.load)).setCell ⟨g, i * 8 + 6, none⟩ (.int .i64 o.task)).setCell ⟨g, i * 8 + 7, none⟩ (.int .i64 o.goal)) g (ks.set i o) rest := by
  unfold Ub at *
  have h0 := heap_setCell_same w g (i * 8) _ _ (.int .i64 o.id) h
  have h1 := heap_setCell_same _ g (i * 8 + 1) _ _ (.int .i64 o.player) h0
  have h2 := heap_setCell_same _ g (i * 8 + 2) _ _ (.int .i64 o.kind) h1
  have h3 := heap_setCell_same _ g (i * 8 + 3) _ _ (.int .i64 o.at_) h2
  have h4 := heap_setCell_same _ g (i * 8 + 4) _ _ (.int .i64 o.life) h3
  have h5 := heap_setCell_same _ g (i * 8 + 5) _ _ (.int .i64 o.load) h4
  have h6 := heap_setCell_same _ g (i * 8 + 6) _ _ (.int .i64 o.task) h5
  have h7 := heap_setCell_same _ g (i * 8 + 7) _ _ (.int .i64 o.goal) h6
  rw [h7, uflat_set ks i o rest hi]
  simp
theorem ub_below {B g : Nat} {w W : World} {i : Nat} (o : UnV) (h : Below B w W) (hb : B ≤ g) : Below B w ((((((((W.setCell ⟨g, i * 8, none⟩ (.int .i64 o.id)).setCell ⟨g, i * 8 + 1, none⟩ (.int .i64 o.player)).setCell ⟨g, i * 8 + 2, none⟩ (.int .i64 o.kind)).setCell ⟨g, i * 8 + 3, none⟩ (.int .i64 o.at_)).setCell ⟨g, i * 8 + 4, none⟩ (.int .i64 o.life)).setCell ⟨g, i * 8 + 5, none⟩ (.int .i64 o.load)).setCell ⟨g, i * 8 + 6, none⟩ (.int .i64 o.task)).setCell ⟨g, i * 8 + 7, none⟩ (.int .i64 o.goal)) :=
  (((((((h.setCell (p := ⟨g, i * 8, none⟩) hb _).setCell (p := ⟨g, i * 8 + 1, none⟩) hb _).setCell (p := ⟨g, i * 8 + 2, none⟩) hb _).setCell (p := ⟨g, i * 8 + 3, none⟩) hb _).setCell (p := ⟨g, i * 8 + 4, none⟩) hb _).setCell (p := ⟨g, i * 8 + 5, none⟩) hb _).setCell (p := ⟨g, i * 8 + 6, none⟩) hb _).setCell (p := ⟨g, i * 8 + 7, none⟩) hb _
theorem uflat_set3 : ∀ (ks : List UnV) (i : Nat) (o : UnV) (a : Int) (rest : List Value), ks[i]? = some o → (ks.set i { o with at_ := a }).flatMap UnV.cs ++ rest = (ks.flatMap UnV.cs ++ rest).set (i * 8 + 3) (.int .i64 a)
  | [], i, o, a, rest, h => by simp at h
  | k :: ks, 0, o, a, rest, h => by
    simp at h
    subst h
    simp [UnV.cs]
  | k :: ks, i + 1, o, a, rest, h => by
    have ih := uflat_set3 ks i o a rest (by simpa using h)
    rw [show (i + 1) * 8 + 3 = i * 8 + 3 + 8 by omega, List.set_cons_succ, List.flatMap_cons, List.append_assoc, ih, List.flatMap_cons]
    simp [UnV.cs]
theorem Ub.set3 {w : World} {g : Nat} {ks : List UnV} {rest : List Value} (h : Ub w g ks rest) {i : Nat} {o : UnV} (ho : ks[i]? = some o) (a : Int) : Ub (w.setCell ⟨g, i * 8 + 3, none⟩ (.int .i64 a)) g (ks.set i { o with at_ := a }) rest := by
  unfold Ub at *
  have h0 := heap_setCell_same w g (i * 8 + 3) _ _ (.int .i64 a) h
  rw [h0, uflat_set3 ks i o a rest ho]
  simp
theorem uflat_set4 : ∀ (ks : List UnV) (i : Nat) (o : UnV) (a : Int) (rest : List Value), ks[i]? = some o → (ks.set i { o with life := a }).flatMap UnV.cs ++ rest = (ks.flatMap UnV.cs ++ rest).set (i * 8 + 4) (.int .i64 a)
  | [], i, o, a, rest, h => by simp at h
  | k :: ks, 0, o, a, rest, h => by
    simp at h
    subst h
    simp [UnV.cs]
  | k :: ks, i + 1, o, a, rest, h => by
    have ih := uflat_set4 ks i o a rest (by simpa using h)
    rw [show (i + 1) * 8 + 4 = i * 8 + 4 + 8 by omega, List.set_cons_succ, List.flatMap_cons, List.append_assoc, ih, List.flatMap_cons]
    simp [UnV.cs]
theorem Ub.set4 {w : World} {g : Nat} {ks : List UnV} {rest : List Value} (h : Ub w g ks rest) {i : Nat} {o : UnV} (ho : ks[i]? = some o) (a : Int) : Ub (w.setCell ⟨g, i * 8 + 4, none⟩ (.int .i64 a)) g (ks.set i { o with life := a }) rest := by
  unfold Ub at *
  have h0 := heap_setCell_same w g (i * 8 + 4) _ _ (.int .i64 a) h
  rw [h0, uflat_set4 ks i o a rest ho]
  simp
theorem uflat_set5 : ∀ (ks : List UnV) (i : Nat) (o : UnV) (a : Int) (rest : List Value), ks[i]? = some o → (ks.set i { o with load := a }).flatMap UnV.cs ++ rest = (ks.flatMap UnV.cs ++ rest).set (i * 8 + 5) (.int .i64 a)
  | [], i, o, a, rest, h => by simp at h
  | k :: ks, 0, o, a, rest, h => by
    simp at h
    subst h
    simp [UnV.cs]
  | k :: ks, i + 1, o, a, rest, h => by
    have ih := uflat_set5 ks i o a rest (by simpa using h)
    rw [show (i + 1) * 8 + 5 = i * 8 + 5 + 8 by omega, List.set_cons_succ, List.flatMap_cons, List.append_assoc, ih, List.flatMap_cons]
    simp [UnV.cs]
theorem Ub.set5 {w : World} {g : Nat} {ks : List UnV} {rest : List Value} (h : Ub w g ks rest) {i : Nat} {o : UnV} (ho : ks[i]? = some o) (a : Int) : Ub (w.setCell ⟨g, i * 8 + 5, none⟩ (.int .i64 a)) g (ks.set i { o with load := a }) rest := by
  unfold Ub at *
  have h0 := heap_setCell_same w g (i * 8 + 5) _ _ (.int .i64 a) h
  rw [h0, uflat_set5 ks i o a rest ho]
  simp
theorem uflat_set6 : ∀ (ks : List UnV) (i : Nat) (o : UnV) (a : Int) (rest : List Value), ks[i]? = some o → (ks.set i { o with task := a }).flatMap UnV.cs ++ rest = (ks.flatMap UnV.cs ++ rest).set (i * 8 + 6) (.int .i64 a)
  | [], i, o, a, rest, h => by simp at h
  | k :: ks, 0, o, a, rest, h => by
    simp at h
    subst h
    simp [UnV.cs]
  | k :: ks, i + 1, o, a, rest, h => by
    have ih := uflat_set6 ks i o a rest (by simpa using h)
    rw [show (i + 1) * 8 + 6 = i * 8 + 6 + 8 by omega, List.set_cons_succ, List.flatMap_cons, List.append_assoc, ih, List.flatMap_cons]
    simp [UnV.cs]
theorem Ub.set6 {w : World} {g : Nat} {ks : List UnV} {rest : List Value} (h : Ub w g ks rest) {i : Nat} {o : UnV} (ho : ks[i]? = some o) (a : Int) : Ub (w.setCell ⟨g, i * 8 + 6, none⟩ (.int .i64 a)) g (ks.set i { o with task := a }) rest := by
  unfold Ub at *
  have h0 := heap_setCell_same w g (i * 8 + 6) _ _ (.int .i64 a) h
  rw [h0, uflat_set6 ks i o a rest ho]
  simp
theorem uflat_set7 : ∀ (ks : List UnV) (i : Nat) (o : UnV) (a : Int) (rest : List Value), ks[i]? = some o → (ks.set i { o with goal := a }).flatMap UnV.cs ++ rest = (ks.flatMap UnV.cs ++ rest).set (i * 8 + 7) (.int .i64 a)
  | [], i, o, a, rest, h => by simp at h
  | k :: ks, 0, o, a, rest, h => by
    simp at h
    subst h
    simp [UnV.cs]
  | k :: ks, i + 1, o, a, rest, h => by
    have ih := uflat_set7 ks i o a rest (by simpa using h)
    rw [show (i + 1) * 8 + 7 = i * 8 + 7 + 8 by omega, List.set_cons_succ, List.flatMap_cons, List.append_assoc, ih, List.flatMap_cons]
    simp [UnV.cs]
theorem Ub.set7 {w : World} {g : Nat} {ks : List UnV} {rest : List Value} (h : Ub w g ks rest) {i : Nat} {o : UnV} (ho : ks[i]? = some o) (a : Int) : Ub (w.setCell ⟨g, i * 8 + 7, none⟩ (.int .i64 a)) g (ks.set i { o with goal := a }) rest := by
  unfold Ub at *
  have h0 := heap_setCell_same w g (i * 8 + 7) _ _ (.int .i64 a) h
  rw [h0, uflat_set7 ks i o a rest ho]
  simp
/-- a list of its own, as a block. -/
theorem Uno.ub {w : World} {base : Nat} {v : Value} {ks : List UnV} (h : Uno w base v ks) : (v = .slice none 0 0 ∧ ks = []) ∨ ∃ g cap rest, v = .slice (some ⟨g, 0, none⟩) ks.length cap ∧ base ≤ g ∧ ks.length ≤ cap ∧ cap ≤ maxLen ∧ ks.length * 8 + rest.length = cap * 8 ∧ Ub w g ks rest := by
  rcases h.2 with ⟨h1, h2⟩ | ⟨g, cap, cur, h1, h2, h3, h4, h5, h6, h7⟩
  · exact .inl ⟨h1, List.length_eq_zero_iff.1 h2⟩
  · refine .inr ⟨g, cap, cur.toList.drop (ks.length * 8), h1, h2, h4, h5, ?_, ?_⟩
    · have e6 : cur.toList.length = cap * 8 := by simpa using h6
      rw [List.length_drop, e6]
      have : ks.length * 8 ≤ cap * 8 := Nat.mul_le_mul_right _ h4
      omega
    · unfold Ub
      rw [← h7, List.take_append_drop, Array.toArray_toList]
      exact h3
theorem Ub.uno {w : World} {base g cap : Nat} {ks : List UnV} {rest : List Value} (h : Ub w g ks rest) (hb : base ≤ g) (h1 : ks.length ≤ cap) (h2 : cap ≤ maxLen) (h3 : ks.length * 8 + rest.length = cap * 8) : Uno w base (.slice (some ⟨g, 0, none⟩) ks.length cap) ks := by
  refine ⟨len_un ks, .inr ⟨g, cap, _, rfl, hb, h, h1, h2, ?_, ?_⟩⟩
  · simp only [List.size_toArray, List.length_append, len_un]; omega
  · show (ks.flatMap UnV.cs ++ rest).take (ks.length * 8) = _
    rw [List.take_append_of_le_length (by rw [len_un]; exact Nat.le_refl _), List.take_of_length_le (by rw [len_un]; exact Nat.le_refl _)]
/-- the first m of them, and the others behind. -/
theorem Ub.take {w : World} {g : Nat} {ks : List UnV} {rest : List Value} (h : Ub w g ks rest) (m : Nat) : Ub w g (ks.take m) ((ks.drop m).flatMap UnV.cs ++ rest) := by
  unfold Ub at *
  rw [← List.append_assoc, ← List.flatMap_append, List.take_append_drop]
  exact h
end Go.Proofs.YtkejdkajfnaieaaGreatDoor

namespace Go.Proofs.YtkejdkajfnaieaaGreatDoor
open Go.RowKit
set_option linter.unusedVariables false

/-- r is where the first is; -1: there is none. -/
def FstU (p : UnV → Bool) (ks : List UnV) (r : Int) : Prop := (r = -1 ∧ ks.any p = false) ∨ ∃ (k : Nat) (x : UnV), r = k ∧ ks[k]? = some x ∧ p x = true ∧ (ks.take k).any p = false
theorem anyu_next {p : UnV → Bool} {ks : List UnV} {k : Nat} {x : UnV} (h : ks[k]? = some x) : (ks.take (k + 1)).any p = ((ks.take k).any p || p x) := by
  obtain ⟨hi, e⟩ := List.getElem?_eq_some_iff.1 h
  rw [List.take_succ_eq_append_getElem hi, List.any_append, e]
  simp

set_option maxHeartbeats 2000000 in
theorem idxu_any (K : Nat) (eK : ∀ args w, (callFunc K args).run Tryz.prog w = .ok (.enter K args) w) (u : Value) (cs : Array Value) (ks : List UnV) (p : UnV → Bool) (w : World) (hu : Unl w u ks)
    (hp : ∀ W, Below w.heap.size w W → ∀ k : UnV, Calls Tryz.prog K (#[k.val] ++ cs) W fun e w' => e = .returned (.bool (p k)) ∧ Below W.heap.size W w') :
    Calls Tryz.prog 112 #[u, .func (Fn.func K) #[] cs] w fun e w' => ∃ r : Int, e = .returned (.int .i64 r) ∧ FstU p ks r ∧ Below w.heap.size w w' := by
  obtain ⟨a, c, rfl, c1, c2, ca⟩ := hu
  have Ca : Hid (ks ≠ [] → ∃ x, a = some x ∧ x.block < w.heap.size ∧ ∀ (i : Nat) k, ks[i]? = some k → Unc w (x.add (i * 8)) k) := ca
  have Hp : Hid (∀ W, Below w.heap.size w W → ∀ k : UnV, Calls Tryz.prog K (#[k.val] ++ cs) W fun e w' => e = .returned (.bool (p k)) ∧ Below W.heap.size W w') := hp
  clear ca hp
  go_enter Tryz.func112, Tryz.ntmps112
  go_wp2
  go_loopw [8] (fun i W' => ∃ k : Nat, k ≤ ks.length ∧ i = .int .i64 (k : Nat) ∧ (ks.take k).any p = false ∧ Below w.heap.size w W') (fun i _ => ks.length - (intOf i).toNat)
  case atStart => exact ⟨0, Nat.zero_le _, rfl, by simp, Below.refl _ _⟩
  case round =>
    obtain ⟨k, hk, rfl, ht, hb⟩ := hrel
    have Ht : Hid ((ks.take k).any p = false) := ht
    have B : Hid (Below w.heap.size w wr) := hb
    clear ht hb
    by_cases h0 : k = ks.length
    · subst h0
      go_wp2
      go_ret
      refine ⟨_, rfl, .inl ⟨rfl, ?_⟩, B⟩
      have := Ht.out
      rw [List.take_of_length_le (Nat.le_refl _)] at this
      exact this
    · have hkx : k < ks.length := by omega
      obtain ⟨x, rfl, hx1, hx⟩ := Ca.out (by intro h; rw [h] at hkx; simp at hkx)
      obtain ⟨y, hy⟩ : ∃ y, ks[k]? = some y := ⟨_, List.getElem?_eq_getElem hkx⟩
      have Yc := (hx k y hy).below B.out (by rw [add_block]; exact hx1)
      obtain ⟨q0, q1, q2, q3, q4, q5, q6, q7⟩ := Yc
      have hc := Hp.out wr B.out y
      have Hs : Hid _ := anyu_next (p := p) hy
      have Hm : Hid (ks[k]? = some y) := hy
      clear hx hx1 hy
      cases hy : p y with
      | true =>
        rw [hy] at hc
        have Hc : Hid (Calls Tryz.prog K (#[y.val] ++ cs) wr fun e w' => e = .returned (.bool true) ∧ Below wr.heap.size wr w') := hc
        have Hy : Hid (p y = true) := hy
        clear hc hy
        go_wp2_with fail
        refine Calls.mono Hc.out ?_
        rintro e w1 ⟨rfl, b1⟩
        have B1 : Hid (Below w.heap.size w w1) := B.out.trans (b1.mono B.out.size)
        clear b1
        go_wp2
        go_ret
        exact ⟨_, rfl, .inr ⟨k, y, rfl, Hm, Hy, Ht⟩, B1⟩
      | false =>
        rw [hy] at hc
        have Hc : Hid (Calls Tryz.prog K (#[y.val] ++ cs) wr fun e w' => e = .returned (.bool false) ∧ Below wr.heap.size wr w') := hc
        have Hy : Hid (p y = false) := hy
        clear hc hy
        go_wp2_with fail
        refine Calls.mono Hc.out ?_
        rintro e w1 ⟨rfl, b1⟩
        have B1 : Hid (Below w.heap.size w w1) := B.out.trans (b1.mono B.out.size)
        clear b1
        go_wp2
        go_round
        case rel => exact ⟨k + 1, by omega, by go_num, by have := Hs.out; rw [Ht.out, Hy.out] at this; exact this, B1⟩
        case measure => simp [intOf]; omega

theorem FstU.has {p : UnV → Bool} {xs : List UnV} {r : Int} (h : FstU p xs r) : decide (0 ≤ r) = xs.any p := by
  rcases h with ⟨rfl, h⟩ | ⟨k, x, rfl, h1, h2, _⟩
  · rw [h]; decide
  · rw [decide_eq_true (by omega)]
    exact (List.any_eq_true.2 ⟨x, List.mem_of_getElem? h1, h2⟩).symm

set_option maxHeartbeats 1000000 in
theorem hasu_any (K : Nat) (eK : ∀ args w, (callFunc K args).run Tryz.prog w = .ok (.enter K args) w) (u : Value) (cs : Array Value) (ks : List UnV) (p : UnV → Bool) (w : World) (hu : Unl w u ks)
    (hp : ∀ W, Below w.heap.size w W → ∀ k : UnV, Calls Tryz.prog K (#[k.val] ++ cs) W fun e w' => e = .returned (.bool (p k)) ∧ Below W.heap.size W w') :
    Calls Tryz.prog 96 #[u, .func (Fn.func K) #[] cs] w fun e w' => e = .returned (.bool (ks.any p)) ∧ Below w.heap.size w w' := by
  have H' : Hid (Calls Tryz.prog 112 #[u, .func (Fn.func K) #[] cs] w fun e w' => ∃ r : Int, e = .returned (.int .i64 r) ∧ FstU p ks r ∧ Below w.heap.size w w') := idxu_any K eK u cs ks p w hu hp
  clear hp
  go_enter Tryz.func96, Tryz.ntmps96
  go_wp2_with fail
  refine Calls.mono H'.out ?_
  rintro e w1 ⟨r, rfl, hr, q⟩
  have Hr : Hid (decide (0 ≤ r) = ks.any p) := hr.has
  have Q : Hid (Below w.heap.size w w1) := q
  clear hr q
  go_wp2
  go_ret
  exact ⟨by show Ending.returned (.bool (decide (0 ≤ r))) = _; rw [Hr.out], Q⟩
end Go.Proofs.YtkejdkajfnaieaaGreatDoor

namespace Go.Proofs.YtkejdkajfnaieaaGreatDoor
open Go.RowKit
set_option linter.unusedVariables false

set_option maxHeartbeats 2000000 in
theorem idxm_any (K : Nat) (eK : ∀ args w, (callFunc K args).run Tryz.prog w = .ok (.enter K args) w) (u : Value) (cs : Array Value) (ks : List UnV) (p : UnV → Bool) (w : World) (hu : Unl w u ks)
    (hp : ∀ W, Below w.heap.size w W → ∀ k ∈ ks, Calls Tryz.prog K (#[k.val] ++ cs) W fun e w' => e = .returned (.bool (p k)) ∧ Below W.heap.size W w') :
    Calls Tryz.prog 112 #[u, .func (Fn.func K) #[] cs] w fun e w' => ∃ r : Int, e = .returned (.int .i64 r) ∧ FstU p ks r ∧ Below w.heap.size w w' := by
  obtain ⟨a, c, rfl, c1, c2, ca⟩ := hu
  have Ca : Hid (ks ≠ [] → ∃ x, a = some x ∧ x.block < w.heap.size ∧ ∀ (i : Nat) k, ks[i]? = some k → Unc w (x.add (i * 8)) k) := ca
  have Hp : Hid (∀ W, Below w.heap.size w W → ∀ k ∈ ks, Calls Tryz.prog K (#[k.val] ++ cs) W fun e w' => e = .returned (.bool (p k)) ∧ Below W.heap.size W w') := hp
  clear ca hp
  go_enter Tryz.func112, Tryz.ntmps112
  go_wp2
  go_loopw [8] (fun i W' => ∃ k : Nat, k ≤ ks.length ∧ i = .int .i64 (k : Nat) ∧ (ks.take k).any p = false ∧ Below w.heap.size w W') (fun i _ => ks.length - (intOf i).toNat)
  case atStart => exact ⟨0, Nat.zero_le _, rfl, by simp, Below.refl _ _⟩
  case round =>
    obtain ⟨k, hk, rfl, ht, hb⟩ := hrel
    have Ht : Hid ((ks.take k).any p = false) := ht
    have B : Hid (Below w.heap.size w wr) := hb
    clear ht hb
    by_cases h0 : k = ks.length
    · subst h0
      go_wp2
      go_ret
      refine ⟨_, rfl, .inl ⟨rfl, ?_⟩, B⟩
      have := Ht.out
      rw [List.take_of_length_le (Nat.le_refl _)] at this
      exact this
    · have hkx : k < ks.length := by omega
      obtain ⟨x, rfl, hx1, hx⟩ := Ca.out (by intro h; rw [h] at hkx; simp at hkx)
      obtain ⟨y, hy⟩ : ∃ y, ks[k]? = some y := ⟨_, List.getElem?_eq_getElem hkx⟩
      have Yc := (hx k y hy).below B.out (by rw [add_block]; exact hx1)
      obtain ⟨q0, q1, q2, q3, q4, q5, q6, q7⟩ := Yc
      have hc := Hp.out wr B.out y (List.mem_of_getElem? hy)
      have Hs : Hid _ := anyu_next (p := p) hy
      have Hm : Hid (ks[k]? = some y) := hy
      clear hx hx1 hy
      cases hy : p y with
      | true =>
        rw [hy] at hc
        have Hc : Hid (Calls Tryz.prog K (#[y.val] ++ cs) wr fun e w' => e = .returned (.bool true) ∧ Below wr.heap.size wr w') := hc
        have Hy : Hid (p y = true) := hy
        clear hc hy
        go_wp2_with fail
        refine Calls.mono Hc.out ?_
        rintro e w1 ⟨rfl, b1⟩
        have B1 : Hid (Below w.heap.size w w1) := B.out.trans (b1.mono B.out.size)
        clear b1
        go_wp2
        go_ret
        exact ⟨_, rfl, .inr ⟨k, y, rfl, Hm, Hy, Ht⟩, B1⟩
      | false =>
        rw [hy] at hc
        have Hc : Hid (Calls Tryz.prog K (#[y.val] ++ cs) wr fun e w' => e = .returned (.bool false) ∧ Below wr.heap.size wr w') := hc
        have Hy : Hid (p y = false) := hy
        clear hc hy
        go_wp2_with fail
        refine Calls.mono Hc.out ?_
        rintro e w1 ⟨rfl, b1⟩
        have B1 : Hid (Below w.heap.size w w1) := B.out.trans (b1.mono B.out.size)
        clear b1
        go_wp2
        go_round
        case rel => exact ⟨k + 1, by omega, by go_num, by have := Hs.out; rw [Ht.out, Hy.out] at this; exact this, B1⟩
        case measure => simp [intOf]; omega


end Go.Proofs.YtkejdkajfnaieaaGreatDoor

namespace Go.Proofs.YtkejdkajfnaieaaGreatDoor
open Go.RowKit
set_option linter.unusedVariables false

theorem info_jb : (Tryz.prog.info? 104).map (fun i => (i.zero, i.size, i.bytes)) = some (some (.agg #[.int .i64 0, .int .i64 0, .int .i64 0, .int .i64 0]), 4, 32) := by kernel_rfl
def JbV.cs (k : JbV) : List Value := [.int .i64 k.player, .int .i64 k.unit, .int .i64 k.kind, .int .i64 k.left]
theorem flat_jb : ∀ (ks : List JbV) (i j : Nat) (k : JbV), ks[i]? = some k → j < 4 → (ks.flatMap JbV.cs)[i * 4 + j]? = k.cs[j]?
  | [], i, j, k, h, _ => by simp at h
  | x :: ks, 0, j, k, h, hj => by
    simp at h
    subst h
    rw [List.flatMap_cons, List.getElem?_append_left (by simp [JbV.cs]; omega)]
    simp
  | x :: ks, i + 1, j, k, h, hj => by
    rw [List.flatMap_cons, List.getElem?_append_right (by simp [JbV.cs]; omega)]
    have : (i + 1) * 4 + j - (JbV.cs x).length = i * 4 + j := by simp [JbV.cs]; omega
    rw [this]
    exact flat_jb ks i j k (by simpa using h) hj
/-- v is a slice of them, in a block of its own from base on. -/
def Jbo (w : World) (base : Nat) (v : Value) (ks : List JbV) : Prop := w.ownsRow base 104 4 v ks.length (ks.flatMap JbV.cs)
theorem Jbo.nil (w : World) (base : Nat) : Jbo w base (.slice none 0 0) [] := World.ownsRow_nil _ _ _ _
theorem Jbo.below {w w' : World} {base : Nat} {v : Value} {ks : List JbV} (h : Jbo w base v ks) (hb : Below w.heap.size w w') : Jbo w' base v ks :=
  World.ownsRow.kept h (row := none) ⟨hb.os, hb.tape, hb.output, hb.size, fun k hk _ => hb.block k hk⟩ (by cases v.ownBlock <;> simp)
theorem Jbo.kept {w w' : World} {base : Nat} {v : Value} {ks : List JbV} {row : Option Nat} (h : Jbo w base v ks) (hg : w.grownBy w' row) (hne : v.ownBlock = none ∨ v.ownBlock ≠ row) : Jbo w' base v ks := World.ownsRow.kept h hg hne
theorem Jbo.alloc {w : World} {base : Nat} {v : Value} {ks : List JbV} (h : Jbo w base v ks) (o : Obj) : Jbo (w.alloc o) base v ks := World.ownsRow.alloc h o
theorem Jbo.block {w : World} {base : Nat} {v : Value} {ks : List JbV} (h : Jbo w base v ks) : ∀ k, v.ownBlock = some k → base ≤ k ∧ k < w.heap.size := World.ownsRow.lt h
theorem Jbo.mono {w : World} {base base' : Nat} {v : Value} {ks : List JbV} (h : Jbo w base v ks) (hb : base' ≤ base) : Jbo w base' v ks := by
  refine ⟨h.1, ?_⟩
  rcases h.2 with h1 | ⟨g, cap, cur, h1, h2, h3⟩
  · exact .inl h1
  · exact .inr ⟨g, cap, cur, h1, Nat.le_trans hb h2, h3⟩
theorem Jbo.l {w : World} {base : Nat} {v : Value} {ks : List JbV} (h : Jbo w base v ks) : Jbl w v ks := by
  rcases h.2 with ⟨hv, h0⟩ | ⟨g, cap, cur, hv, hb, hg, h1, h2, h3, h4⟩
  · exact ⟨none, 0, by rw [hv, h0], by omega, by omega, fun hn => absurd (List.length_eq_zero_iff.1 h0) hn⟩
  · refine ⟨_, cap, hv, h1, by unfold maxLen at h2; omega, fun _ => ⟨_, rfl, lt_of_block hg, fun i k hi => ?_⟩⟩
    have hil : i < ks.length := (List.getElem?_eq_some_iff.1 hi).1
    have h5 : w.ownsRow base 104 4 (.slice (some ⟨g, 0, none⟩) ks.length cap) ks.length (ks.flatMap JbV.cs) := by rw [← hv]; exact h
    have hc : ∀ j u, j < 4 → k.cs[j]? = some u → w.cell? ⟨g, i * 4 + j, none⟩ = some u := fun j u hj hu => by
      rw [h5.cellAt (i * 4 + j) (by omega), flat_jb ks i j k hi hj, hu]
    rw [Addr.add_lit, Nat.zero_add]
    exact ⟨hc 0 _ (by decide) rfl, hc 1 _ (by decide) rfl, hc 2 _ (by decide) rfl, hc 3 _ (by decide) rfl⟩
theorem Jbo.len {w : World} {base : Nat} {v : Value} {ks : List JbV} (h : Jbo w base v ks) : ∃ a c, v = .slice a ks.length c := by
  obtain ⟨a, c, h1, -⟩ := h.l
  exact ⟨a, c, h1⟩

/-- one more. -/
theorem app_jb {ops : Array Oper} {rest : List Oper} {o : Oper} {a : Act} {Q : Exit → Act → World → Prop} (w : World) (hgd : o.guard = none) (s x : Operand)
    (ho : o.op = .call { callee := .builtin .append, args := #[s, x], argTypes := #[27, 27] }) (base : Nat) (v : Value) (ks : List JbV) (hs : a.eval s = v) (hown : Jbo w base v ks)
    (b : Nat) (d : JbV) (hx : a.eval x = .slice (some ⟨b, 0, none⟩) 1 1) (hd : Jbc w ⟨b, 0, none⟩ d) (hl : ks.length ≤ 1000000000) (hbase : base ≤ w.heap.size)
    (h : ∀ g cap w', Jbo w' base (.slice (some ⟨g, 0, none⟩) (ks.length + 1) cap) (ks ++ [d]) → w.grownBy w' v.ownBlock → (v.ownBlock = some g ∨ g = w.heap.size) → g < w'.heap.size → wpList Tryz.prog ops Q rest (a.put o.dst (.slice (some ⟨g, 0, none⟩) (ks.length + 1) cap)) w') :
    wpList Tryz.prog ops Q (o :: rest) a w := by
  obtain ⟨i0, hi, hz0, hz1, hz2⟩ := info_parts info_jb
  refine wpList_append_lies w hgd s x 27 ho base 104 i0 (.agg #[.int .i64 0, .int .i64 0, .int .i64 0, .int .i64 0]) 4 32 Tryz.underlying27 hi hz0 hz1 hz2 rfl (by decide) v ks.length _ hs hown ⟨b, 0, none⟩ 1 1 d.cs hx rfl ?_ ?_ (by decide) (by unfold maxLen; omega) (by omega) hbase _ rfl ?_
  · intro j u hj
    have hjn : j < 4 := (List.getElem?_eq_some_iff.1 hj).1
    rw [Addr.add_lit, Nat.zero_add]
    match j, hjn, hj with
    | 0, _, hj => simp [JbV.cs] at hj; subst hj; exact hd.c0
    | 1, _, hj => simp [JbV.cs] at hj; subst hj; exact hd.c1
    | 2, _, hj => simp [JbV.cs] at hj; subst hj; exact hd.c2
    | 3, _, hj => simp [JbV.cs] at hj; subst hj; exact hd.c3
  · intro u hu
    simp [JbV.cs] at hu
    rcases hu with rfl | rfl | rfl | rfl <;> rfl
  · intro g cap w' h1 h2 h3 h4
    refine h g cap w' ?_ h2 h3 h4
    unfold Jbo
    rw [List.length_append, List.flatMap_append]
    simpa using h1
end Go.Proofs.YtkejdkajfnaieaaGreatDoor

namespace Go.Proofs.YtkejdkajfnaieaaGreatDoor
open Go.RowKit
set_option linter.unusedVariables false

/-- v is a world whose lists are owned from base on. -/
def Wo (w : World) (base : Nat) (v : Value) (W : WV) : Prop := ∃ u1 u2 u3 u4 u5, v = .agg #[.int .i64 W.turn, .int .i64 W.next, .int .i64 W.wide, .int .i64 W.high, u1, u2, u3, u4, u5] ∧ Ow w base u1 W.gs ∧ Ow w base u2 W.os ∧ Ow w base u3 W.gold ∧ Uno w base u4 W.us ∧ Jbo w base u5 W.qs
theorem Wo.l {w : World} {base : Nat} {v : Value} {W : WV} (h : Wo w base v W) : Wl w v W := by
  obtain ⟨u1, u2, u3, u4, u5, h1, h2, h3, h4, h5, h6⟩ := h
  exact ⟨u1, u2, u3, u4, u5, h1, h2.ro, h3.ro, h4.ro, h5.l, h6.l⟩
theorem Wo.below {w w' : World} {base : Nat} {v : Value} {W : WV} (h : Wo w base v W) (hb : Below w.heap.size w w') : Wo w' base v W := by
  obtain ⟨u1, u2, u3, u4, u5, h1, h2, h3, h4, h5, h6⟩ := h
  exact ⟨u1, u2, u3, u4, u5, h1, h2.below hb, h3.below hb, h4.below hb, h5.below hb, h6.below hb⟩
theorem Wo.mono {w : World} {base base' : Nat} {v : Value} {W : WV} (h : Wo w base v W) (hb : base' ≤ base) : Wo w base' v W := by
  obtain ⟨u1, u2, u3, u4, u5, h1, h2, h3, h4, h5, h6⟩ := h
  exact ⟨u1, u2, u3, u4, u5, h1, h2.mono hb, h3.mono hb, h4.mono hb, h5.mono hb, h6.mono hb⟩
theorem owns_kp {z : Nat} {w w' : World} {base : Nat} {T : TypeId} {size : Nat} {u : Value} {n : Nat} {cs : List Value} (h : w.ownsRow base T size u n cs) (k : Kp z w w') (hz : z < base) : w'.ownsRow base T size u n cs := by
  refine ⟨h.1, ?_⟩
  rcases h.2 with h1 | ⟨g, cap, cur, h1, h2, h3, h4⟩
  · exact .inl h1
  · exact .inr ⟨g, cap, cur, h1, h2, (k.block g (lt_of_block h3) (by omega)).trans h3, h4⟩
theorem Ow.kp {z : Nat} {w w' : World} {base : Nat} {u : Value} {xs : List Int} (h : Ow w base u xs) (k : Kp z w w') (hz : z < base) : Ow w' base u xs := owns_kp h k hz
theorem Uno.kp {z : Nat} {w w' : World} {base : Nat} {u : Value} {xs : List UnV} (h : Uno w base u xs) (k : Kp z w w') (hz : z < base) : Uno w' base u xs := owns_kp h k hz
theorem Jbo.kp {z : Nat} {w w' : World} {base : Nat} {u : Value} {xs : List JbV} (h : Jbo w base u xs) (k : Kp z w w') (hz : z < base) : Jbo w' base u xs := owns_kp h k hz
theorem Wo.kp {z : Nat} {w w' : World} {base : Nat} {v : Value} {W : WV} (h : Wo w base v W) (k : Kp z w w') (hz : z < base) : Wo w' base v W := by
  obtain ⟨u1, u2, u3, u4, u5, h1, h2, h3, h4, h5, h6⟩ := h
  exact ⟨u1, u2, u3, u4, u5, h1, h2.kp k hz, h3.kp k hz, h4.kp k hz, h5.kp k hz, h6.kp k hz⟩
/-- they lie in blocks of their own. -/
def Dif (u v : Value) : Prop := ∀ k, u.ownBlock = some k → v.ownBlock ≠ some k
theorem Dif.symm {u v : Value} (h : Dif u v) : Dif v u := fun k h1 h2 => h k h2 h1
theorem Dif.ne {u v : Value} (h : Dif u v) : u.ownBlock = none ∨ u.ownBlock ≠ v.ownBlock := by
  cases e : u.ownBlock with
  | none => exact .inl rfl
  | some k => exact .inr (fun h2 => h k e h2.symm)
theorem Dif.of {u v : Value} {n : Nat} (hu : ∀ k, u.ownBlock = some k → k < n) (hv : ∀ k, v.ownBlock = some k → n ≤ k) : Dif u v := fun k h1 h2 => by have := hu k h1; have := hv k h2; omega
/-- v is a world whose lists are owned from base on, each in a block of its own. -/
def Wi (w : World) (base : Nat) (v : Value) (W : WV) : Prop := ∃ u1 u2 u3 u4 u5, v = .agg #[.int .i64 W.turn, .int .i64 W.next, .int .i64 W.wide, .int .i64 W.high, u1, u2, u3, u4, u5] ∧ (Ow w base u1 W.gs ∧ Ow w base u2 W.os ∧ Ow w base u3 W.gold ∧ Uno w base u4 W.us ∧ Jbo w base u5 W.qs) ∧ Dif u1 u2 ∧ Dif u1 u3 ∧ Dif u1 u4 ∧ Dif u1 u5 ∧ Dif u2 u3 ∧ Dif u2 u4 ∧ Dif u2 u5 ∧ Dif u3 u4 ∧ Dif u3 u5 ∧ Dif u4 u5
theorem Wi.wo {w : World} {base : Nat} {v : Value} {W : WV} (h : Wi w base v W) : Wo w base v W := by
  obtain ⟨u1, u2, u3, u4, u5, h1, ⟨h2, h3, h4, h5, h6⟩, -⟩ := h
  exact ⟨u1, u2, u3, u4, u5, h1, h2, h3, h4, h5, h6⟩
theorem Wi.mono {w : World} {base base' : Nat} {v : Value} {W : WV} (h : Wi w base v W) (hb : base' ≤ base) : Wi w base' v W := by
  obtain ⟨u1, u2, u3, u4, u5, h1, ⟨h2, h3, h4, h5, h6⟩, hd⟩ := h
  exact ⟨u1, u2, u3, u4, u5, h1, ⟨h2.mono hb, h3.mono hb, h4.mono hb, h5.mono hb, h6.mono hb⟩, hd⟩
theorem Wl.kp {z : Nat} {w a w' : World} {v : Value} {W : WV} (h : Wl a v W) (hb : Below a.heap.size a w) (k : Kp z w w') (hz : a.heap.size ≤ z) : Wl w' v W := h.below (k.below hb hb.size hz)

/-- a world's nine cells, in a block of their own. -/
def Wx (w : World) (z : Nat) (c0 c1 c2 c3 c4 c5 c6 c7 c8 : Value) : Prop := w.heap[z]? = some (.cells #[c0, c1, c2, c3, c4, c5, c6, c7, c8] 29 (0, 0))
theorem Wx.lt {w : World} {z : Nat} {c0 c1 c2 c3 c4 c5 c6 c7 c8 : Value} (h : Wx w z c0 c1 c2 c3 c4 c5 c6 c7 c8) : z < w.heap.size := lt_of_block h
theorem Wx.cells {w : World} {z : Nat} {c0 c1 c2 c3 c4 c5 c6 c7 c8 : Value} (h : Wx w z c0 c1 c2 c3 c4 c5 c6 c7 c8) : w.cell? ⟨z, 0, none⟩ = some c0 ∧ w.cell? ⟨z, 1, none⟩ = some c1 ∧ w.cell? ⟨z, 2, none⟩ = some c2 ∧ w.cell? ⟨z, 3, none⟩ = some c3 ∧ w.cell? ⟨z, 4, none⟩ = some c4 ∧ w.cell? ⟨z, 5, none⟩ = some c5 ∧ w.cell? ⟨z, 6, none⟩ = some c6 ∧ w.cell? ⟨z, 7, none⟩ = some c7 ∧ w.cell? ⟨z, 8, none⟩ = some c8 := by
  unfold Wx at h
  refine ⟨?_, ?_, ?_, ?_, ?_, ?_, ?_, ?_, ?_⟩ <;> simp [World.cell?, h]
theorem Wx.thaw {w : World} {z : Nat} {c0 c1 c2 c3 c4 c5 c6 c7 c8 : Value} (h : Wx w z c0 c1 c2 c3 c4 c5 c6 c7 c8) (i : Nat) : w.frozen? ⟨z, i, none⟩ = false := by
  unfold Wx at h
  simp [World.frozen?, h]
theorem Wx.thaws {w : World} {z : Nat} {c0 c1 c2 c3 c4 c5 c6 c7 c8 : Value} (h : Wx w z c0 c1 c2 c3 c4 c5 c6 c7 c8) : w.frozen? ⟨z, 0, none⟩ = false ∧ w.frozen? ⟨z, 1, none⟩ = false ∧ w.frozen? ⟨z, 2, none⟩ = false ∧ w.frozen? ⟨z, 3, none⟩ = false ∧ w.frozen? ⟨z, 4, none⟩ = false ∧ w.frozen? ⟨z, 5, none⟩ = false ∧ w.frozen? ⟨z, 6, none⟩ = false ∧ w.frozen? ⟨z, 7, none⟩ = false ∧ w.frozen? ⟨z, 8, none⟩ = false := ⟨h.thaw 0, h.thaw 1, h.thaw 2, h.thaw 3, h.thaw 4, h.thaw 5, h.thaw 6, h.thaw 7, h.thaw 8⟩
theorem Wx.new {w : World} {z : Nat} (c0 c1 c2 c3 c4 c5 c6 c7 c8 : Value) (hz : w.heap.size = z) : Wx (w.alloc (.cells #[c0, c1, c2, c3, c4, c5, c6, c7, c8] 29)) z c0 c1 c2 c3 c4 c5 c6 c7 c8 := by
  subst hz
  exact heap_alloc_new _ _
theorem Wx.below {w w' : World} {z n : Nat} {c0 c1 c2 c3 c4 c5 c6 c7 c8 : Value} (h : Wx w z c0 c1 c2 c3 c4 c5 c6 c7 c8) (hb : Below n w w') (hn : z < n) : Wx w' z c0 c1 c2 c3 c4 c5 c6 c7 c8 := (hb.block z hn).trans h
theorem Wx.kp {w w' : World} {z y : Nat} {c0 c1 c2 c3 c4 c5 c6 c7 c8 : Value} (h : Wx w z c0 c1 c2 c3 c4 c5 c6 c7 c8) (k : Kp y w w') (hn : z ≠ y) : Wx w' z c0 c1 c2 c3 c4 c5 c6 c7 c8 := (k.block z h.lt hn).trans h
theorem Wx.drew {w : World} {z : Nat} {c0 c1 c2 c3 c4 c5 c6 c7 c8 : Value} (h : Wx w z c0 c1 c2 c3 c4 c5 c6 c7 c8) : Wx w.drew z c0 c1 c2 c3 c4 c5 c6 c7 c8 := h
theorem Wx.set0 {w : World} {z : Nat} {c0 c1 c2 c3 c4 c5 c6 c7 c8 : Value} (h : Wx w z c0 c1 c2 c3 c4 c5 c6 c7 c8) (u : Value) : Wx (w.setCell ⟨z, 0, none⟩ u) z u c1 c2 c3 c4 c5 c6 c7 c8 := by
  exact heap_setCell_same w z 0 _ _ u h
theorem Wx.set1 {w : World} {z : Nat} {c0 c1 c2 c3 c4 c5 c6 c7 c8 : Value} (h : Wx w z c0 c1 c2 c3 c4 c5 c6 c7 c8) (u : Value) : Wx (w.setCell ⟨z, 1, none⟩ u) z c0 u c2 c3 c4 c5 c6 c7 c8 := by
  exact heap_setCell_same w z 1 _ _ u h
theorem Wx.set2 {w : World} {z : Nat} {c0 c1 c2 c3 c4 c5 c6 c7 c8 : Value} (h : Wx w z c0 c1 c2 c3 c4 c5 c6 c7 c8) (u : Value) : Wx (w.setCell ⟨z, 2, none⟩ u) z c0 c1 u c3 c4 c5 c6 c7 c8 := by
  exact heap_setCell_same w z 2 _ _ u h
theorem Wx.set3 {w : World} {z : Nat} {c0 c1 c2 c3 c4 c5 c6 c7 c8 : Value} (h : Wx w z c0 c1 c2 c3 c4 c5 c6 c7 c8) (u : Value) : Wx (w.setCell ⟨z, 3, none⟩ u) z c0 c1 c2 u c4 c5 c6 c7 c8 := by
  exact heap_setCell_same w z 3 _ _ u h
theorem Wx.set4 {w : World} {z : Nat} {c0 c1 c2 c3 c4 c5 c6 c7 c8 : Value} (h : Wx w z c0 c1 c2 c3 c4 c5 c6 c7 c8) (u : Value) : Wx (w.setCell ⟨z, 4, none⟩ u) z c0 c1 c2 c3 u c5 c6 c7 c8 := by
  exact heap_setCell_same w z 4 _ _ u h
theorem Wx.set5 {w : World} {z : Nat} {c0 c1 c2 c3 c4 c5 c6 c7 c8 : Value} (h : Wx w z c0 c1 c2 c3 c4 c5 c6 c7 c8) (u : Value) : Wx (w.setCell ⟨z, 5, none⟩ u) z c0 c1 c2 c3 c4 u c6 c7 c8 := by
  exact heap_setCell_same w z 5 _ _ u h
theorem Wx.set6 {w : World} {z : Nat} {c0 c1 c2 c3 c4 c5 c6 c7 c8 : Value} (h : Wx w z c0 c1 c2 c3 c4 c5 c6 c7 c8) (u : Value) : Wx (w.setCell ⟨z, 6, none⟩ u) z c0 c1 c2 c3 c4 c5 u c7 c8 := by
  exact heap_setCell_same w z 6 _ _ u h
theorem Wx.set7 {w : World} {z : Nat} {c0 c1 c2 c3 c4 c5 c6 c7 c8 : Value} (h : Wx w z c0 c1 c2 c3 c4 c5 c6 c7 c8) (u : Value) : Wx (w.setCell ⟨z, 7, none⟩ u) z c0 c1 c2 c3 c4 c5 c6 u c8 := by
  exact heap_setCell_same w z 7 _ _ u h
theorem Wx.set8 {w : World} {z : Nat} {c0 c1 c2 c3 c4 c5 c6 c7 c8 : Value} (h : Wx w z c0 c1 c2 c3 c4 c5 c6 c7 c8) (u : Value) : Wx (w.setCell ⟨z, 8, none⟩ u) z c0 c1 c2 c3 c4 c5 c6 c7 u := by
  exact heap_setCell_same w z 8 _ _ u h
theorem Wx.put {w : World} {z : Nat} {c0 c1 c2 c3 c4 c5 c6 c7 c8 : Value} (h : Wx w z c0 c1 c2 c3 c4 c5 c6 c7 c8) (e0 e1 e2 e3 e4 e5 e6 e7 e8 : Value) : Wx (((((((((w.setCell ⟨z, 0, none⟩ e0).setCell ⟨z, 1, none⟩ e1).setCell ⟨z, 2, none⟩ e2).setCell ⟨z, 3, none⟩ e3).setCell ⟨z, 4, none⟩ e4).setCell ⟨z, 5, none⟩ e5).setCell ⟨z, 6, none⟩ e6).setCell ⟨z, 7, none⟩ e7).setCell ⟨z, 8, none⟩ e8) z e0 e1 e2 e3 e4 e5 e6 e7 e8 := (((((((((h.set0 e0).set1 e1).set2 e2).set3 e3).set4 e4).set5 e5).set6 e6).set7 e7).set8 e8)
theorem put_kp (w : World) (z : Nat) (e0 e1 e2 e3 e4 e5 e6 e7 e8 : Value) : Kp z w (((((((((w.setCell ⟨z, 0, none⟩ e0).setCell ⟨z, 1, none⟩ e1).setCell ⟨z, 2, none⟩ e2).setCell ⟨z, 3, none⟩ e3).setCell ⟨z, 4, none⟩ e4).setCell ⟨z, 5, none⟩ e5).setCell ⟨z, 6, none⟩ e6).setCell ⟨z, 7, none⟩ e7).setCell ⟨z, 8, none⟩ e8) :=
  ((((((((Kp.set w 0 e0).trans (Kp.set _ 1 e1)).trans (Kp.set _ 2 e2)).trans (Kp.set _ 3 e3)).trans (Kp.set _ 4 e4)).trans (Kp.set _ 5 e5)).trans (Kp.set _ 6 e6)).trans (Kp.set _ 7 e7)).trans (Kp.set _ 8 e8)
/-- lists that may be copied. -/
structure WLen (W : WV) : Prop where
  g : W.gs.length ≤ 100000000
  o : W.os.length ≤ 100000000
  p : W.gold.length ≤ 100000000
  u : W.us.length ≤ 100000000
  q : W.qs.length ≤ 100000000
end Go.Proofs.YtkejdkajfnaieaaGreatDoor

