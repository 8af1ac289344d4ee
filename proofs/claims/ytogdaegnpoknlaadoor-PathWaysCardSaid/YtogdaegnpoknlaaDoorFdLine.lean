/- Lines of cells: plain mathematics. -/
namespace Go.Proofs.YtogdaegnpoknlaaDoor.Fd

/-- a column, or row, of a line. -/
def along (n f t k : Int) : Int := (2 * f * n + 2 * k * (t - f) + n) / (2 * n)

theorem along_num (n f t k : Int) : 2 * f * n + 2 * k * (t - f) + n = (f * (n - k) + t * k) * 2 + n := by
  rw [Int.mul_sub, Int.mul_sub, Int.add_mul, Int.sub_mul, Int.mul_assoc 2 f n, Int.mul_assoc 2 k t, Int.mul_assoc 2 k f, Int.mul_comm k t, Int.mul_comm k f]
  omega
theorem mix_le (lo f t x y : Int) (hx : 0 ≤ x) (hy : 0 ≤ y) (hf : lo ≤ f) (ht : lo ≤ t) : lo * (x + y) ≤ f * x + t * y := by
  rw [Int.mul_add]
  have := Int.mul_le_mul_of_nonneg_right hf hx
  have := Int.mul_le_mul_of_nonneg_right ht hy
  omega
theorem mix_ge (hi f t x y : Int) (hx : 0 ≤ x) (hy : 0 ≤ y) (hf : f ≤ hi) (ht : t ≤ hi) : f * x + t * y ≤ hi * (x + y) := by
  rw [Int.mul_add]
  have := Int.mul_le_mul_of_nonneg_right hf hx
  have := Int.mul_le_mul_of_nonneg_right ht hy
  omega
theorem along_ge (lo n f t k : Int) (h0 : 0 ≤ k) (h1 : k ≤ n) (hn : 0 < n) (hf : lo ≤ f) (ht : lo ≤ t) : lo ≤ along n f t k := by
  unfold along
  rw [along_num, Int.le_ediv_iff_mul_le (by omega)]
  have h := mix_le lo f t (n - k) k (by omega) h0 hf ht
  rw [show n - k + k = n by omega] at h
  have e : lo * (2 * n) = lo * n * 2 := by rw [← Int.mul_assoc, Int.mul_comm lo 2, Int.mul_assoc, Int.mul_comm]
  omega
theorem along_le (hi n f t k : Int) (h0 : 0 ≤ k) (h1 : k ≤ n) (hn : 0 < n) (hf : f ≤ hi) (ht : t ≤ hi) : along n f t k ≤ hi := by
  unfold along
  rw [along_num]
  have h := mix_ge hi f t (n - k) k (by omega) h0 hf ht
  rw [show n - k + k = n by omega] at h
  have e : (hi + 1) * (2 * n) = hi * n * 2 + 2 * n := by rw [Int.add_mul, ← Int.mul_assoc, Int.mul_comm hi 2, Int.mul_assoc, Int.mul_comm 2 (hi * n)]; omega
  have : ((f * (n - k) + t * k) * 2 + n) / (2 * n) < hi + 1 := by
    rw [Int.ediv_lt_iff_lt_mul (by omega)]
    omega
  omega
theorem along_zero (n f t : Int) (hn : 0 < n) : along n f t 0 = f := by
  unfold along
  rw [show 2 * f * n + 2 * 0 * (t - f) + n = n + f * (2 * n) by rw [← Int.mul_assoc, Int.mul_comm f 2]; omega, Int.add_mul_ediv_right _ _ (by omega), Int.ediv_eq_zero_of_lt (by omega) (by omega)]
  omega
theorem along_end (n f t : Int) (hn : 0 < n) : along n f t n = t := by
  unfold along
  rw [along_num, show n - n = 0 by omega, Int.mul_zero, show (0 + t * n) * 2 + n = n + t * (2 * n) by rw [← Int.mul_assoc, Int.mul_comm t 2, Int.mul_assoc]; omega, Int.add_mul_ediv_right _ _ (by omega), Int.ediv_eq_zero_of_lt (by omega) (by omega)]
  omega
theorem along_up (n f k : Int) (hn : 0 < n) : along n f (f + n) k = f + k := by
  unfold along
  rw [show f + n - f = n by omega, show 2 * f * n + 2 * k * n + n = n + (f + k) * (2 * n) by rw [Int.add_mul, ← Int.mul_assoc f, ← Int.mul_assoc k, Int.mul_comm f 2, Int.mul_comm k 2]; omega, Int.add_mul_ediv_right _ _ (by omega), Int.ediv_eq_zero_of_lt (by omega) (by omega)]
  omega
theorem along_down (n f k : Int) (hn : 0 < n) : along n f (f - n) k = f - k := by
  unfold along
  rw [show f - n - f = -n by omega, show 2 * f * n + 2 * k * (-n) + n = n + (f - k) * (2 * n) by rw [Int.sub_mul, ← Int.mul_assoc f, ← Int.mul_assoc k, Int.mul_comm f 2, Int.mul_comm k 2, Int.mul_neg]; omega, Int.add_mul_ediv_right _ _ (by omega), Int.ediv_eq_zero_of_lt (by omega) (by omega)]
  omega
theorem div_step (x d m : Int) (hm : 0 < m) (h1 : -m ≤ d) (h2 : d ≤ m) : -1 ≤ (x + d) / m - x / m ∧ (x + d) / m - x / m ≤ 1 := by
  have e1 : (x + m) / m = x / m + 1 := Int.add_ediv_of_dvd_right (Int.dvd_refl m) |>.trans (by rw [Int.ediv_self (by omega)])
  have e2 : (x + -m) / m = x / m + -1 := (Int.add_ediv_of_dvd_right (Int.dvd_neg.2 (Int.dvd_refl m))).trans (by rw [Int.neg_ediv_of_dvd (Int.dvd_refl m), Int.ediv_self (by omega)])
  have l1 : (x + d) / m ≤ (x + m) / m := Int.ediv_le_ediv hm (by omega)
  have l2 : (x + -m) / m ≤ (x + d) / m := Int.ediv_le_ediv hm (by omega)
  omega
theorem along_step (n f t k : Int) (hn : 0 < n) (h1 : -n ≤ t - f) (h2 : t - f ≤ n) : -1 ≤ along n f t (k + 1) - along n f t k ∧ along n f t (k + 1) - along n f t k ≤ 1 := by
  unfold along
  have e : 2 * f * n + 2 * (k + 1) * (t - f) + n = 2 * f * n + 2 * k * (t - f) + n + 2 * (t - f) := by
    rw [Int.mul_add 2 k 1, Int.add_mul]; omega
  rw [e]
  exact div_step _ _ _ (by omega) (by omega) (by omega)

/-- the greater of both distances. -/
def span (W a b : Nat) : Nat := max (max (a % W - b % W) (b % W - a % W)) (max (a / W - b / W) (b / W - a / W))
/-- the k-th cell of a line. -/
def spot (W a b : Nat) (k : Nat) : Int := along (span W a b) (a / W : Nat) (b / W : Nat) k * W + along (span W a b) (a % W : Nat) (b % W : Nat) k
def line (W a b : Nat) : List Int := if span W a b = 0 then [(a : Int)] else (List.range (span W a b + 1)).map (spot W a b)

theorem span_zero {W a b : Nat} (h : span W a b = 0) : a = b := by
  unfold span at h
  have h1 : a % W = b % W := by omega
  have h2 : a / W = b / W := by omega
  rw [← Nat.div_add_mod a W, ← Nat.div_add_mod b W, h1, h2]
theorem span_le {W H a b : Nat} (hW : 0 < W) (w2 : W ≤ 12) (h2 : H ≤ 12) (ha : a < W * H) (hb : b < W * H) : span W a b ≤ 11 := by
  have h3 : a / W < H := Nat.div_lt_of_lt_mul ha
  have h4 : b / W < H := Nat.div_lt_of_lt_mul hb
  have h5 := Nat.mod_lt a hW
  have h6 := Nat.mod_lt b hW
  unfold span
  generalize a / W = x at *
  generalize b / W = y at *
  generalize a % W = u at *
  generalize b % W = v at *
  omega

/-- where a cell of a line lies. -/
theorem spot_in {W H a b k : Nat} (hW : 0 < W) (ha : a < W * H) (hb : b < W * H) (hn : 0 < span W a b) (hk : k ≤ span W a b) :
    ∃ r c : Nat, along (span W a b) (a / W : Nat) (b / W : Nat) k = r ∧ along (span W a b) (a % W : Nat) (b % W : Nat) k = c ∧ r < H ∧ c < W ∧ spot W a b k = ((r * W + c : Nat) : Int) ∧ r * W + c < W * H ∧ (r * W + c) % W = c ∧ (r * W + c) / W = r := by
  have h3 : a / W < H := Nat.div_lt_of_lt_mul ha
  have h4 : b / W < H := Nat.div_lt_of_lt_mul hb
  have h5 := Nat.mod_lt a hW
  have h6 := Nat.mod_lt b hW
  have n1 : (0 : Int) ≤ (a / W : Nat) := Int.natCast_nonneg _
  have n2 : (0 : Int) ≤ (b / W : Nat) := Int.natCast_nonneg _
  have r1 := along_ge 0 (span W a b) (a / W : Nat) (b / W : Nat) k (by omega) (by omega) (by omega) (by omega) (by omega)
  have r2 := along_le (H - 1) (span W a b) (a / W : Nat) (b / W : Nat) k (by omega) (by omega) (by omega) (by omega) (by omega)
  have c1 := along_ge 0 (span W a b) (a % W : Nat) (b % W : Nat) k (by omega) (by omega) (by omega) (by omega) (by omega)
  have c2 := along_le (W - 1) (span W a b) (a % W : Nat) (b % W : Nat) k (by omega) (by omega) (by omega) (by omega) (by omega)
  refine ⟨(along (span W a b) (a / W : Nat) (b / W : Nat) k).toNat, (along (span W a b) (a % W : Nat) (b % W : Nat) k).toNat, by omega, by omega, by omega, by omega, ?_, ?_, ?_, ?_⟩
  · unfold spot
    rw [Int.natCast_add, Int.natCast_mul, Int.toNat_of_nonneg r1, Int.toNat_of_nonneg c1]
  · have h := Nat.mul_le_mul_right W (show (along (span W a b) (a / W : Nat) (b / W : Nat) k).toNat + 1 ≤ H by omega)
    rw [Nat.add_mul, Nat.mul_comm H W] at h
    omega
  · rw [Nat.add_comm, Nat.add_mul_mod_self_right, Nat.mod_eq_of_lt (by omega)]
  · rw [Nat.add_comm, Nat.add_mul_div_right _ _ hW, Nat.div_eq_of_lt (by omega)]
    omega
theorem spot_zero {W a b : Nat} (hn : 0 < span W a b) : spot W a b 0 = a := by
  unfold spot
  have e := along_zero (span W a b) (a / W : Nat) (b / W : Nat) (by omega)
  have e' := along_zero (span W a b) (a % W : Nat) (b % W : Nat) (by omega)
  rw [show (((0 : Nat) : Nat) : Int) = 0 from rfl, e, e', ← Int.natCast_mul, ← Int.natCast_add, Nat.mul_comm, Nat.div_add_mod]
theorem spot_end {W a b : Nat} (hn : 0 < span W a b) : spot W a b (span W a b) = b := by
  unfold spot
  have e := along_end (span W a b) (a / W : Nat) (b / W : Nat) (by omega)
  have e' := along_end (span W a b) (a % W : Nat) (b % W : Nat) (by omega)
  rw [e, e', ← Int.natCast_mul, ← Int.natCast_add, Nat.mul_comm, Nat.div_add_mod]

/-- on the way that is the longer one a line goes one by one. -/
theorem along_major (W a b : Nat) (hn : 0 < span W a b) :
    (∀ k : Int, along (span W a b) (a % W : Nat) (b % W : Nat) k = (a % W : Nat) + k) ∨ (∀ k : Int, along (span W a b) (a % W : Nat) (b % W : Nat) k = (a % W : Nat) - k) ∨
    (∀ k : Int, along (span W a b) (a / W : Nat) (b / W : Nat) k = (a / W : Nat) + k) ∨ (∀ k : Int, along (span W a b) (a / W : Nat) (b / W : Nat) k = (a / W : Nat) - k) := by
  have h : ((b % W : Nat) : Int) = (a % W : Nat) + (span W a b : Nat) ∨ ((b % W : Nat) : Int) = (a % W : Nat) - (span W a b : Nat) ∨ ((b / W : Nat) : Int) = (a / W : Nat) + (span W a b : Nat) ∨ ((b / W : Nat) : Int) = (a / W : Nat) - (span W a b : Nat) := by
    unfold span
    omega
  rcases h with h | h | h | h
  · left; intro k; rw [h]; exact along_up _ _ k (by omega)
  · right; left; intro k; rw [h]; exact along_down _ _ k (by omega)
  · right; right; left; intro k; rw [h]; exact along_up _ _ k (by omega)
  · right; right; right; intro k; rw [h]; exact along_down _ _ k (by omega)

/-- a line goes by steps. -/
theorem spot_step {W H a b k : Nat} (hW : 0 < W) (ha : a < W * H) (hb : b < W * H) (hn : 0 < span W a b) (hk : k + 1 ≤ span W a b) :
    ∃ p q : Nat, spot W a b k = p ∧ spot W a b (k + 1) = q ∧ p < W * H ∧ q < W * H ∧ -1 ≤ ((q % W : Nat) : Int) - (p % W : Nat) ∧ ((q % W : Nat) : Int) - (p % W : Nat) ≤ 1 ∧ -1 ≤ ((q / W : Nat) : Int) - (p / W : Nat) ∧ ((q / W : Nat) : Int) - (p / W : Nat) ≤ 1 ∧
      ¬ (((q % W : Nat) : Int) - (p % W : Nat) = 0 ∧ ((q / W : Nat) : Int) - (p / W : Nat) = 0) := by
  obtain ⟨r, c, er, ec, hr, hc, es, hl, hm, hd⟩ := spot_in hW ha hb hn (show k ≤ span W a b by omega)
  obtain ⟨r', c', er', ec', hr', hc', es', hl', hm', hd'⟩ := spot_in hW ha hb hn hk
  refine ⟨r * W + c, r' * W + c', es, es', hl, hl', ?_⟩
  rw [hm, hm', hd, hd']
  have s1 := along_step (span W a b) (a / W : Nat) (b / W : Nat) k (by omega) (by unfold span; omega) (by unfold span; omega)
  have s2 := along_step (span W a b) (a % W : Nat) (b % W : Nat) k (by omega) (by unfold span; omega) (by unfold span; omega)
  have ek : ((k + 1 : Nat) : Int) = (k : Int) + 1 := by omega
  rw [ek] at er' ec'
  rw [er', er] at s1
  rw [ec', ec] at s2
  refine ⟨s2.1, s2.2, s1.1, s1.2, ?_⟩
  rcases along_major W a b hn with m | m | m | m
  · have := m k; have := m (k + 1); omega
  · have := m k; have := m (k + 1); omega
  · have := m k; have := m (k + 1); omega
  · have := m k; have := m (k + 1); omega
/-- what is between is neither end. -/
theorem spot_inner {W H a b k : Nat} (hW : 0 < W) (ha : a < W * H) (hb : b < W * H) (hn : 0 < span W a b) (h0 : 0 < k) (hk : k < span W a b) : spot W a b k ≠ a ∧ spot W a b k ≠ b := by
  obtain ⟨r, c, er, ec, hr, hc, es, hl, hm, hd⟩ := spot_in hW ha hb hn (show k ≤ span W a b by omega)
  have e0 : ∀ k : Int, ((k = 0 ∨ k = span W a b) → ∃ p : Nat, (k = 0 → p = a) ∧ (k = span W a b → p = b) ∧ along (span W a b) (a / W : Nat) (b / W : Nat) k = (p / W : Nat) ∧ along (span W a b) (a % W : Nat) (b % W : Nat) k = (p % W : Nat)) := by
    rintro k (rfl | rfl)
    · exact ⟨a, fun _ => rfl, fun h => by omega, along_zero _ _ _ (by omega), along_zero _ _ _ (by omega)⟩
    · exact ⟨b, fun h => by omega, fun _ => rfl, along_end _ _ _ (by omega), along_end _ _ _ (by omega)⟩
  rw [es]
  have hA := along_zero (span W a b) (a / W : Nat) (b / W : Nat) (by omega)
  have hA' := along_zero (span W a b) (a % W : Nat) (b % W : Nat) (by omega)
  have hB := along_end (span W a b) (a / W : Nat) (b / W : Nat) (by omega)
  have hB' := along_end (span W a b) (a % W : Nat) (b % W : Nat) (by omega)
  constructor
  · intro e
    have e : r * W + c = a := by omega
    rw [e] at hm hd
    rcases along_major W a b hn with m | m | m | m
    all_goals have := m k; have := m 0; omega
  · intro e
    have e : r * W + c = b := by omega
    rw [e] at hm hd
    rcases along_major W a b hn with m | m | m | m
    all_goals have := m k; have := m (span W a b); omega
theorem line_len (W a b : Nat) : (line W a b).length = span W a b + 1 := by
  unfold line
  split
  · rename_i h; rw [h]; rfl
  · simp
theorem line_get {W a b k : Nat} (hk : k ≤ span W a b) : (line W a b)[k]? = some (if span W a b = 0 then (a : Int) else spot W a b k) := by
  unfold line
  split
  · have : k = 0 := by omega
    subst this
    rfl
  · simp only [List.getElem?_map]
    rw [List.getElem?_range (by omega)]
    rfl
end Go.Proofs.YtogdaegnpoknlaaDoor.Fd
