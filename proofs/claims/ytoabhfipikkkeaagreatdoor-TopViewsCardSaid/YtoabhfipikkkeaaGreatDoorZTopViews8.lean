/- Plain mathematics on integers: roots, floors, signs. No program stands in it. · How far two cells are: plain mathematics. · Fight: how far two cells are, who is safe of whom, who is struck: plain mathematics. · Fight: who is struck is near. Plain mathematics. · Fight: all strike at once: plain mathematics. · fight.apart, and target's three functions. · fight.target's three functions; cmp.Or of two numbers. · fight.target and fight.Target: whom a unit strikes. · fight.Target. · fight.strike: what Life they lose. · fight.strike where nobody is. · Jobs in a block that may be written. · slices.IndexFunc and slices.DeleteFunc of jobs. · fight.Fight's two functions; strike of any list of one's own. · fight.Fight: all strike at once; who has no Life left is gone. · Fight: behind a fight a world is right; what the events tell. Plain mathematics. -/
import Derived.KernelRfl
import Derived.Test.YtoabhfipikkkeaaGreatDoorRows
import Derived.WalkKit
import Derived.WalkSpells
import Derived.WalkLawsBesides
import Derived.Test.YtoabhfipikkkeaaGreatDoorZTopViews7
import Derived.Test.YtoabhfipikkkeaaGreatDoorZTopViews6
import Derived.Test.YtoabhfipikkkeaaGreatDoorZTopViews2
import Derived.Test.YtoabhfipikkkeaaGreatDoorZTopViews1
import Derived.Test.YtoabhfipikkkeaaGreatDoorZTopViews3
import Derived.Test.YtoabhfipikkkeaaGreatDoorZTopViews5
import Derived.BigQuiet
import Derived.LoopN
import Derived.Laws.CopyRow
import Derived.Lib.SliceRun
import Derived.Deep.DeepCutAuto
namespace Go.Proofs.YtoabhfipikkkeaaGreatDoor.Ma

/-- r is the root of n, rounded down. -/
def Sq (r n : Int) : Prop := 0 ≤ r ∧ r * r ≤ n ∧ n < (r + 1) * (r + 1)

def pw (k : Nat) : Int := 2 ^ k

theorem pw_zero : pw 0 = 1 := rfl
theorem pw_succ (k : Nat) : pw (k + 1) = 2 * pw k := by unfold pw; rw [Int.pow_succ]; omega
theorem pw_pos (k : Nat) : 1 ≤ pw k := by
  induction k with
  | zero => rw [pw_zero]; omega
  | succ k ih => rw [pw_succ]; omega
theorem pw_mono (a b : Nat) (h : a ≤ b) : pw a ≤ pw b := by
  induction b with
  | zero => have : a = 0 := by omega
            subst this; exact Int.le_refl _
  | succ b ih =>
    by_cases e : a = b + 1
    · subst e; exact Int.le_refl _
    · have := ih (by omega)
      have p := pw_pos b
      rw [pw_succ]; omega
theorem pw_32 : pw 32 = 4294967296 := by unfold pw; decide

theorem mul_mono (a b : Int) (h0 : 0 ≤ a) (h : a ≤ b) : a * a ≤ b * b :=
  Int.mul_le_mul h h h0 (by omega)

theorem sq_expand (r d : Int) : (r + d) * (r + d) = r * r + 2 * (r * d) + d * d := by
  rw [Int.add_mul, Int.mul_add, Int.mul_add, Int.mul_comm d r]; omega

theorem lt_of_sq (a b : Int) (h0 : 0 ≤ b) (h : a * a < b * b) : a < b := by
  by_cases hc : a < b
  · exact hc
  · have := mul_mono b a h0 (by omega)
    omega

theorem le_of_sq (a b : Int) (h0 : 0 ≤ b) (h : a * a ≤ b * b) : a ≤ b := by
  have e := sq_expand b 1
  have : a < b + 1 := lt_of_sq a (b + 1) (by omega) (by omega)
  omega

theorem sq_uniq (r s n : Int) (h : Sq r n) (k : Sq s n) : r = s := by
  obtain ⟨h0, h1, h2⟩ := h
  obtain ⟨k0, k1, k2⟩ := k
  have a := lt_of_sq r (s + 1) (by omega) (by omega)
  have b := lt_of_sq s (r + 1) (by omega) (by omega)
  omega

theorem sq_self (m : Int) (h : 0 ≤ m) : Sq m (m * m) := by
  have e := sq_expand m 1
  exact ⟨h, Int.le_refl _, by omega⟩

/-- a root of an int is below this. -/
theorem root_small (r n : Int) (h : r * r ≤ n) (hn : n ≤ 9223372036854775807) : r ≤ 3037000499 := by
  have := lt_of_sq r 3037000500 (by omega) (by omega)
  omega

theorem test_iff (x n : Int) (hx : 0 < x) : x ≤ n / x ↔ x * x ≤ n := Int.le_ediv_iff_mul_le hx

end Go.Proofs.YtoabhfipikkkeaaGreatDoor.Ma

namespace Go.Proofs.YtoabhfipikkkeaaGreatDoor
open Go.RowKit

set_option maxHeartbeats 400000 in
theorem root_neg (n : Int) (w : World) (h : n < 0) :
    Calls Tryz.prog 201 #[.int .i64 n] w fun e w' => e = .returned (.tuple #[.int .i64 0, .iface 99 (.int .i64 1)]) ∧ w' = w := by
  go_enter Tryz.func201, Tryz.ntmps201
  go_wp2
  go_ret2
  exact ⟨rfl, rfl⟩

theorem half_pw (k : Nat) : Ma.pw (k + 1) / 2 = Ma.pw k := by rw [Ma.pw_succ]; omega

set_option maxHeartbeats 400000 in
theorem root_any (n : Int) (w : World) (h0 : 0 ≤ n) (h1 : n ≤ 9223372036854775807) :
    Calls Tryz.prog 201 #[.int .i64 n] w fun e w' => ∃ r, Ma.Sq r n ∧ e = .returned (.tuple #[.int .i64 r, .nilIface]) ∧ w' = w := by
  go_enter Tryz.func201, Tryz.ntmps201
  go_wp2
  go_loop [4, 5] (fun root bit => ∃ (k : Nat) (r b : Int), k ≤ 32 ∧ root = .int .i64 r ∧ bit = .int .i64 b ∧ b = Ma.pw k / 2 ∧ 0 ≤ r ∧ r * r ≤ n ∧ n < (r + Ma.pw k) * (r + Ma.pw k)) (fun _ bit => (intOf bit).toNat)
  case atStart => exact ⟨32, 0, 2147483648, by omega, rfl, rfl, by rw [Ma.pw_32]; omega, by omega, by omega, by rw [Ma.pw_32]; omega⟩
  case round =>
    obtain ⟨k, r, b, hk, rfl, rfl, hb, hr, hl, hu⟩ := hrel
    by_cases hz : k = 0
    · subst hz
      have hb0 : b = 0 := by rw [hb, Ma.pw_zero]; omega
      subst hb0
      clear hb
      rw [Ma.pw_zero] at hu
      go_wp2
      go_ret2
      exact ⟨r, ⟨hr, hl, hu⟩, rfl, rfl⟩
    · obtain ⟨j, rfl⟩ : ∃ j, k = j + 1 := ⟨k - 1, by omega⟩
      have hp := Ma.pw_pos j
      have hq := Ma.pw_mono j 31 (by omega)
      have e31 : Ma.pw 31 = 2147483648 := by unfold Ma.pw; decide
      rw [e31] at hq
      clear e31
      rw [half_pw] at hb
      rw [Ma.pw_succ] at hu
      have hb1 : 0 < b := by omega
      have hb2 : b ≤ 2147483648 := by omega
      have hr2 := Ma.root_small r n hl h1
      have hsum : r + 2 * Ma.pw j = r + b + b := by omega
      rw [hsum] at hu
      clear hsum
      have Hb : Hid (b = Ma.pw j) := hb
      have HH : Hid (b / 2 = Ma.pw j / 2) := by rw [hb]; rfl
      clear hb hp hq
      have Hu : Hid (n < (r + b + b) * (r + b + b)) := hu
      have Hl : Hid (r * r ≤ n) := hl
      clear hu hl
      by_cases ht : r + b ≤ n / (r + b)
      · have Ht : Hid ((r + b) * (r + b) ≤ n) := (Ma.test_iff (r + b) n (by omega)).1 ht
        go_wp2
        go_round
        case rel => exact ⟨j, r + b, b / 2, by omega, rfl, rfl, HH, by omega, Ht, by rw [← Hb]; exact Hu⟩
        case measure => simp [intOf]; omega
      · have Ht : Hid (n < (r + b) * (r + b)) := by
          have := mt (Ma.test_iff (r + b) n (by omega)).2 ht
          unfold Hid; omega
        go_wp2
        go_round
        case rel => exact ⟨j, r, b / 2, by omega, rfl, rfl, HH, by omega, Hl, by rw [← Hb]; exact Ht⟩
        case measure => simp [intOf]; omega

end Go.Proofs.YtoabhfipikkkeaaGreatDoor

namespace Go.Proofs.YtoabhfipikkkeaaGreatDoor
open Go.RowKit

def In6 (x : Int) : Prop := -1000000 ≤ x ∧ x ≤ 1000000

section
variable (a b c d : Int) (w : World)
theorem idx0 : (Instr.index 259 (.agg #[.int .i64 a, .int .i64 b, .int .i64 c, .int .i64 d]) (.int .i64 0)).run Tryz.prog w = .ok (.int .i64 a) w := by kernel_rfl
theorem idx1 : (Instr.index 259 (.agg #[.int .i64 a, .int .i64 b, .int .i64 c, .int .i64 d]) (.int .i64 1)).run Tryz.prog w = .ok (.int .i64 b) w := by kernel_rfl
theorem idx2 : (Instr.index 259 (.agg #[.int .i64 a, .int .i64 b, .int .i64 c, .int .i64 d]) (.int .i64 2)).run Tryz.prog w = .ok (.int .i64 c) w := by kernel_rfl
theorem idx3 : (Instr.index 259 (.agg #[.int .i64 a, .int .i64 b, .int .i64 c, .int .i64 d]) (.int .i64 3)).run Tryz.prog w = .ok (.int .i64 d) w := by kernel_rfl
end

theorem sqb (x : Int) (h1 : -2000000 ≤ x) (h2 : x ≤ 2000000) : 0 ≤ x * x ∧ x * x ≤ 4000000000000 := by
  rcases Int.le_total 0 x with h | h
  · exact ⟨Int.mul_nonneg h h, Ma.mul_mono x 2000000 h h2⟩
  · have e : x * x = (-x) * (-x) := by rw [Int.neg_mul_neg]
    rw [e]
    exact ⟨Int.mul_nonneg (by omega) (by omega), Ma.mul_mono (-x) 2000000 (by omega) (by omega)⟩

set_option maxHeartbeats 400000 in
theorem far_ok (a b c d : Int) (w : World) (ha : In6 a) (hb : In6 b) (hc : In6 c) (hd : In6 d) :
    Calls Tryz.prog 167 #[.int .i64 a, .int .i64 b, .int .i64 c, .int .i64 d] w fun e w' => ∃ r, Ma.Sq r ((a - c) * (a - c) + (b - d) * (b - d)) ∧ e = .returned (.tuple #[.int .i64 r, .nilIface]) ∧ w' = w := by
  obtain ⟨ha1, ha2⟩ := ha
  obtain ⟨hb1, hb2⟩ := hb
  obtain ⟨hc1, hc2⟩ := hc
  obtain ⟨hd1, hd2⟩ := hd
  have i0 := idx0 a b c d
  have i1 := idx1 a b c d
  have i2 := idx2 a b c d
  have i3 := idx3 a b c d
  go_enter Tryz.func167, Tryz.ntmps167
  go_wp2
  go_loop [19] (fun i => ∃ k : Nat, k ≤ 4 ∧ i = .int .i64 k) (fun i => 4 - (intOf i).toNat)
  case atStart => exact ⟨0, by omega, rfl⟩
  case round =>
    obtain ⟨k, hk, rfl⟩ := hrel
    match k, hk with
    | 0, _ =>
      go_wp2_with (go_at_call 200; refine (within_yes _ _ _ (by omega) (by omega) (by omega) (by omega)).mono ?_; rintro e w' ⟨rfl, rfl⟩)
      go_round
      case rel => exact ⟨1, by omega, rfl⟩
      case measure => simp [intOf]
    | 1, _ =>
      go_wp2_with (go_at_call 200; refine (within_yes _ _ _ (by omega) (by omega) (by omega) (by omega)).mono ?_; rintro e w' ⟨rfl, rfl⟩)
      go_round
      case rel => exact ⟨2, by omega, rfl⟩
      case measure => simp [intOf]
    | 2, _ =>
      go_wp2_with (go_at_call 200; refine (within_yes _ _ _ (by omega) (by omega) (by omega) (by omega)).mono ?_; rintro e w' ⟨rfl, rfl⟩)
      go_round
      case rel => exact ⟨3, by omega, rfl⟩
      case measure => simp [intOf]
    | 3, _ =>
      go_wp2_with (go_at_call 200; refine (within_yes _ _ _ (by omega) (by omega) (by omega) (by omega)).mono ?_; rintro e w' ⟨rfl, rfl⟩)
      go_round
      case rel => exact ⟨4, by omega, rfl⟩
      case measure => simp [intOf]
    | 4, _ =>
      have s1 := sqb (a - c) (by omega) (by omega)
      have s2 := sqb (b - d) (by omega) (by omega)
      obtain ⟨s10, s11⟩ := s1
      obtain ⟨s20, s21⟩ := s2
      go_wp2_with (go_at_call 201; refine (root_any _ _ (by omega) (by omega)).mono ?_; rintro e w' ⟨r, hr, rfl, rfl⟩)
      go_ret2
      exact ⟨r, hr, rfl, rfl⟩

end Go.Proofs.YtoabhfipikkkeaaGreatDoor

namespace Go.Proofs.YtoabhfipikkkeaaGreatDoor
set_option linter.unusedVariables false

/-- the greatest number up to k whose square is not above n. -/
def rt : Nat → Int → Int
  | 0, _ => 0
  | k + 1, n => if ((k : Int) + 1) * ((k : Int) + 1) ≤ n then (k : Int) + 1 else rt k n
theorem rt_eq : ∀ (k : Nat) (r n : Int), Ma.Sq r n → r ≤ k → rt k n = r
  | 0, r, n, h, hk => by
    have := h.1
    show (0 : Int) = r
    omega
  | k + 1, r, n, h, hk => by
    unfold rt
    split
    · rename_i hc
      have := Ma.lt_of_sq ((k : Int) + 1) (r + 1) (by have := h.1; omega) (by have := h.2.2; omega)
      omega
    · rename_i hc
      have := Ma.lt_of_sq r ((k : Int) + 1) (by omega) (by have := h.2.1; omega)
      exact rt_eq k r n h (by omega)
theorem rt_ge : ∀ (k : Nat) (n : Int), 0 ≤ rt k n ∧ rt k n ≤ k
  | 0, n => by unfold rt; omega
  | k + 1, n => by
    unfold rt
    have := rt_ge k n
    split <;> omega
/-- how far two cells of a field are. -/
def farN (W a b : Nat) : Int := rt 200 ((((a % W : Nat) : Int) - ((b % W : Nat) : Int)) * (((a % W : Nat) : Int) - ((b % W : Nat) : Int)) + (((a / W : Nat) : Int) - ((b / W : Nat) : Int)) * (((a / W : Nat) : Int) - ((b / W : Nat) : Int)))
theorem farN_ge (W a b : Nat) : 0 ≤ farN W a b ∧ farN W a b ≤ 200 := rt_ge 200 _
theorem sq_abs_le (x : Int) (m : Int) (h1 : -m ≤ x) (h2 : x ≤ m) : x * x ≤ m * m := by
  rcases Int.le_total 0 x with h | h
  · exact Ma.mul_mono x m h h2
  · have e : x * x = (-x) * (-x) := by rw [Int.neg_mul_neg]
    rw [e]
    exact Ma.mul_mono (-x) m (by omega) (by omega)
theorem farN_eq {W a b : Nat} {r : Int} (hW : W ≤ 12) (ha : a ≤ 144) (hb : b ≤ 144) (hW0 : 0 < W)
    (h : Ma.Sq r ((((a % W : Nat) : Int) - ((b % W : Nat) : Int)) * (((a % W : Nat) : Int) - ((b % W : Nat) : Int)) + (((a / W : Nat) : Int) - ((b / W : Nat) : Int)) * (((a / W : Nat) : Int) - ((b / W : Nat) : Int)))) : farN W a b = r := by
  unfold farN
  refine rt_eq 200 r _ h ?_
  have a1 := Nat.mod_lt a hW0
  have b1 := Nat.mod_lt b hW0
  have a2 := Nat.div_le_self a W
  have b2 := Nat.div_le_self b W
  generalize a / W = x at *
  generalize b / W = y at *
  generalize a % W = x' at *
  generalize b % W = y' at *
  have s1 := sq_abs_le ((x' : Int) - (y' : Int)) 12 (by omega) (by omega)
  have s2 := sq_abs_le ((x : Int) - (y : Int)) 144 (by omega) (by omega)
  have := h.2.1
  exact Ma.le_of_sq r 200 (by omega) (by omega)

theorem small_in6 {n : Nat} (h : n ≤ 144) : In6 (n : Nat) := ⟨by omega, by omega⟩
end Go.Proofs.YtoabhfipikkkeaaGreatDoor

namespace Go.Proofs.YtoabhfipikkkeaaGreatDoor
set_option linter.unusedVariables false

/-- how far a unit is from another one. -/
def farU (W : Nat) (u o : UnV) : Int := farN W u.at_.toNat o.at_.toNat
/-- one whom a unit does not strike. -/
def safeU (W : Nat) (u : UnV) (rng : Int) (o : UnV) : Bool := (o.player == u.player) || decide (rng < farU W u o)
/-- those that it may strike. -/
def foesU (W : Nat) (u : UnV) (rng : Int) (us : List UnV) : List UnV := us.filter (fun o => !safeU W u rng o)
/-- who comes first. -/
def keyU (W : Nat) (u o : UnV) : Int := farU W u o * 2000000 + o.life
def soonU (W : Nat) (u a b : UnV) : Int := if farU W u a - farU W u b = 0 then a.life - b.life else farU W u a - farU W u b
theorem soon_key {W : Nat} {u a b : UnV} (ha : 0 ≤ a.life ∧ a.life ≤ 1000000) (hb : 0 ≤ b.life ∧ b.life ≤ 1000000) : soonU W u a b < 0 ↔ keyU W u a < keyU W u b := by
  unfold soonU keyU
  have h1 := farN_ge W u.at_.toNat a.at_.toNat
  have h2 := farN_ge W u.at_.toNat b.at_.toNat
  unfold farU
  split <;> omega
/-- whom a unit strikes. -/
def TgSays (W : Nat) (u : UnV) (k : KV) (us : List UnV) (t : Int) : Prop :=
  (k.n1 = 0 ∧ t = -1) ∨ (k.n1 ≠ 0 ∧ foesU W u k.n2 us = [] ∧ t = -1)
  ∨ (k.n1 ≠ 0 ∧ ∃ x0 tl, foesU W u k.n2 us = x0 :: tl ∧ FstU (fun o => o.id == (minU (keyU W u) x0 tl).id) us t)
theorem minU_le (d : UnV → Int) : ∀ (l : List UnV) (m : UnV), ∀ x ∈ m :: l, d (minU d m l) ≤ d x
  | [], m, x, hx => by simp at hx; subst hx; exact Int.le_refl _
  | y :: l, m, x, hx => by
    show d (minU d (if d y < d m then y else m) l) ≤ d x
    have h0 := minU_le d l (if d y < d m then y else m) (if d y < d m then y else m) (by simp)
    rcases List.mem_cons.1 hx with rfl | hx
    · split at h0 <;> rename_i hc
      · rw [if_pos hc]; omega
      · rw [if_neg hc]; exact h0
    · rcases List.mem_cons.1 hx with rfl | hx
      · split at h0 <;> rename_i hc
        · rw [if_pos hc]; exact h0
        · rw [if_neg hc]; omega
      · exact minU_le d l _ x (List.mem_cons_of_mem _ hx)
end Go.Proofs.YtoabhfipikkkeaaGreatDoor

namespace Go.Proofs.YtoabhfipikkkeaaGreatDoor
set_option linter.unusedVariables false

/-- who is struck. -/
theorem tg_who {ks : List KV} {X : WV} (h : WRight ks X) {W : Nat} {u : UnV} {k : KV} {t : Int} (ht : TgSays W u k X.us t) :
    (t = -1 ∧ (k.n1 = 0 ∨ foesU W u k.n2 X.us = [])) ∨ (k.n1 ≠ 0 ∧ ∃ (tn : Nat) (x : UnV) (x0 : UnV) (tl : List UnV), t = tn ∧ X.us[tn]? = some x ∧ foesU W u k.n2 X.us = x0 :: tl ∧ x = minU (keyU W u) x0 tl) := by
  rcases ht with ⟨h1, h2⟩ | ⟨-, h1, h2⟩ | ⟨h1, x0, tl, h2, h3⟩
  · exact .inl ⟨h2, .inl h1⟩
  · exact .inl ⟨h2, .inr h1⟩
  · have hm := minU_mem (keyU W u) tl x0
    rw [← h2] at hm
    have hm' := (List.mem_filter.1 hm).1
    obtain ⟨j, hj⟩ := List.mem_iff_getElem?.1 hm'
    rcases h3 with ⟨-, h3⟩ | ⟨tn, x, rfl, hx, hid, -⟩
    · have := List.any_eq_false.1 h3 _ hm'
      simp at this
    · have hid' : x.id = (minU (keyU W u) x0 tl).id := by simpa using hid
      have := id_one h hx hj hid'
      subst this
      rw [hx] at hj
      injection hj with hj
      exact .inr ⟨h1, tn, x, x0, tl, rfl, hx, h2, hj⟩
/-- of others the least way. -/
def LeastU (W : Nat) (u : UnV) (l : List UnV) (least : Int) : Prop :=
  (least = -1 ∧ ∀ x ∈ l, x.player = u.player) ∨ (∃ x ∈ l, x.player ≠ u.player ∧ least = farU W u x ∧ ∀ y ∈ l, y.player ≠ u.player → farU W u x ≤ farU W u y)
theorem LeastU.ge {W : Nat} {u : UnV} {l : List UnV} {least : Int} (h : LeastU W u l least) : -1 ≤ least ∧ least ≤ 200 := by
  rcases h with ⟨h, -⟩ | ⟨x, -, -, h, -⟩
  · omega
  · have := farN_ge W u.at_.toNat x.at_.toNat
    unfold farU at h
    omega
theorem LeastU.own {W : Nat} {u y : UnV} {l : List UnV} {least : Int} (h : LeastU W u l least) (hy : y.player = u.player) : LeastU W u (l ++ [y]) least := by
  rcases h with ⟨h1, h2⟩ | ⟨x, hx, h1, h2, h3⟩
  · refine .inl ⟨h1, fun z hz => ?_⟩
    rcases List.mem_append.1 hz with hz | hz
    · exact h2 z hz
    · simp at hz; subst hz; exact hy
  · refine .inr ⟨x, List.mem_append_left _ hx, h1, h2, fun z hz hn => ?_⟩
    rcases List.mem_append.1 hz with hz | hz
    · exact h3 z hz hn
    · simp at hz; subst hz; exact absurd hy hn
theorem LeastU.new {W : Nat} {u y : UnV} {l : List UnV} {least : Int} (h : LeastU W u l least) (hy : y.player ≠ u.player) (hl : least < 0 ∨ farU W u y < least) : LeastU W u (l ++ [y]) (farU W u y) := by
  refine .inr ⟨y, by simp, hy, rfl, fun z hz hn => ?_⟩
  rcases List.mem_append.1 hz with hz | hz
  · rcases h with ⟨h1, h2⟩ | ⟨x, hx, h1, h2, h3⟩
    · exact absurd (h2 z hz) hn
    · have := h3 z hz hn
      have := farN_ge W u.at_.toNat x.at_.toNat
      unfold farU at *
      omega
  · simp at hz; subst hz; exact Int.le_refl _
theorem LeastU.keep {W : Nat} {u y : UnV} {l : List UnV} {least : Int} (h : LeastU W u l least) (hl : ¬ least < 0) (hf : ¬ farU W u y < least) : LeastU W u (l ++ [y]) least := by
  rcases h with ⟨h1, h2⟩ | ⟨x, hx, h1, h2, h3⟩
  · omega
  · refine .inr ⟨x, List.mem_append_left _ hx, h1, h2, fun z hz hn => ?_⟩
    rcases List.mem_append.1 hz with hz | hz
    · exact h3 z hz hn
    · simp at hz; subst hz; omega
theorem foe_iff {W : Nat} {u : UnV} {rng : Int} {us : List UnV} {x : UnV} : x ∈ foesU W u rng us ↔ x ∈ us ∧ x.player ≠ u.player ∧ farU W u x ≤ rng := by
  unfold foesU
  rw [List.mem_filter]
  unfold safeU
  simp
/-- none is struck: none is near. -/
theorem near_none {W : Nat} {u : UnV} {k : KV} {us : List UnV} {least : Int} (h : LeastU W u us least) (hn : k.n1 = 0 ∨ foesU W u k.n2 us = []) : k.n1 = 0 ∨ least < 0 ∨ k.n2 < least := by
  rcases hn with hn | hn
  · exact .inl hn
  · rcases h with ⟨h1, -⟩ | ⟨x, hx, h1, h2, -⟩
    · exact .inr (.inl (by omega))
    · refine .inr (.inr ?_)
      by_cases hc : k.n2 < least
      · exact hc
      · have : x ∈ foesU W u k.n2 us := foe_iff.2 ⟨hx, h1, by omega⟩
        rw [hn] at this; cases this
theorem near_some {W : Nat} {u : UnV} {rng : Int} {us : List UnV} {least : Int} {x0 : UnV} {tl : List UnV} (h : LeastU W u us least) (hl : ∀ x ∈ us, 0 ≤ x.life ∧ x.life ≤ 1000000) (hf : foesU W u rng us = x0 :: tl) : farU W u (minU (keyU W u) x0 tl) = least := by
  have hm := minU_mem (keyU W u) tl x0
  rw [← hf] at hm
  obtain ⟨m1, m2, m3⟩ := foe_iff.1 hm
  rcases h with ⟨-, h2⟩ | ⟨x, hx, h1, h2, h3⟩
  · exact absurd (h2 _ m1) m2
  · have a1 := h3 _ m1 m2
    have hxf : x ∈ foesU W u rng us := foe_iff.2 ⟨hx, h1, by omega⟩
    rw [hf] at hxf
    have a2 := minU_le (keyU W u) tl x0 x hxf
    have a3 := hl x hx
    have a4 := hl _ m1
    generalize minU (keyU W u) x0 tl = m at *
    unfold keyU at a2
    omega
end Go.Proofs.YtoabhfipikkkeaaGreatDoor

namespace Go.Proofs.YtoabhfipikkkeaaGreatDoor
set_option linter.unusedVariables false

/-- where the first of which p holds stands, else -1. -/
def fsti (p : UnV → Bool) : List UnV → Int
  | [] => -1
  | x :: l => if p x then 0 else if fsti p l = -1 then -1 else fsti p l + 1
theorem fsti_fst (p : UnV → Bool) : ∀ l, FstU p l (fsti p l)
  | [] => .inl ⟨rfl, rfl⟩
  | x :: l => by
    unfold fsti
    cases hp : p x with
    | true => exact .inr ⟨0, x, by simp, rfl, hp, rfl⟩
    | false =>
      rw [if_neg (by simp)]
      rcases fsti_fst p l with ⟨h1, h2⟩ | ⟨k, y, h1, h2, h3, h4⟩
      · rw [if_pos h1]
        exact .inl ⟨rfl, by rw [List.any_cons, hp, h2]; rfl⟩
      · rw [if_neg (by omega)]
        exact .inr ⟨k + 1, y, by omega, by rw [List.getElem?_cons_succ]; exact h2, h3, by rw [List.take_succ_cons, List.any_cons, hp, h4]; rfl⟩
/-- whom a unit of a kind strikes. -/
def tgt (W : Nat) (u : UnV) (k : KV) (us : List UnV) : Int :=
  if k.n1 = 0 then -1 else match foesU W u k.n2 us with
    | [] => -1
    | x0 :: tl => fsti (fun o => o.id == (minU (keyU W u) x0 tl).id) us
theorem tg_eq {W : Nat} {u : UnV} {k : KV} {us : List UnV} {t : Int} (h : TgSays W u k us t) : t = tgt W u k us := by
  unfold tgt
  rcases h with ⟨h1, h2⟩ | ⟨h1, h2, h3⟩ | ⟨h1, x0, tl, h2, h3⟩
  · rw [if_pos h1]; exact h2
  · rw [if_neg h1, h2]; exact h3
  · rw [if_neg h1, h2]
    exact h3.one (fsti_fst _ _)
def tgtOf (ks : List KV) (W : Nat) (us : List UnV) (u : UnV) : Int := match ks[u.kind.toNat]? with
  | none => -1
  | some k => tgt W u k us
def hitOf (ks : List KV) (u : UnV) : Int := match ks[u.kind.toNat]? with
  | none => 0
  | some k => k.n1
/-- one strikes. -/
def stk (ks : List KV) (W : Nat) (us : List UnV) (s : List Int × List EvV) (u : UnV) : List Int × List EvV :=
  if tgtOf ks W us u = -1 then s else (s.1.set (tgtOf ks W us u).toNat (s.1.getD (tgtOf ks W us u).toNat 0 + hitOf ks u), s.2 ++ [⟨2, u.id, (us[(tgtOf ks W us u).toNat]?.map UnV.id).getD 0⟩])
def strikes (ks : List KV) (W : Nat) (us l : List UnV) : List Int × List EvV := l.foldl (stk ks W us) (List.replicate us.length 0, [])
theorem strikes_next {ks : List KV} {W : Nat} {us l : List UnV} {n : Nat} {u : UnV} (h : l[n]? = some u) : strikes ks W us (l.take (n + 1)) = stk ks W us (strikes ks W us (l.take n)) u := by
  obtain ⟨hi, e⟩ := List.getElem?_eq_some_iff.1 h
  unfold strikes
  rw [List.take_succ_eq_append_getElem hi, List.foldl_append, e]
  rfl
theorem stk_len {ks : List KV} {W : Nat} {us : List UnV} {s : List Int × List EvV} {u : UnV} : (stk ks W us s u).1.length = s.1.length := by
  unfold stk
  split
  · rfl
  · simp
theorem strikes_len {ks : List KV} {W : Nat} {us : List UnV} : ∀ (l : List UnV) (s : List Int × List EvV), (l.foldl (stk ks W us) s).1.length = s.1.length
  | [], s => rfl
  | u :: l, s => by
    rw [List.foldl_cons, strikes_len l, stk_len]
theorem strikes_len' {ks : List KV} {W : Nat} {us l : List UnV} : (strikes ks W us l).1.length = us.length := by
  unfold strikes
  rw [strikes_len]
  simp
/-- numbers from 0 to m. -/
def Upto (m : Int) (l : List Int) : Prop := ∀ x ∈ l, 0 ≤ x ∧ x ≤ m
theorem Upto.at_ {m : Int} {l : List Int} (h : Upto m l) (hm : 0 ≤ m) (i : Nat) : 0 ≤ l.getD i 0 ∧ l.getD i 0 ≤ m := by
  rw [List.getD_eq_getElem?_getD]
  cases hi : l[i]? with
  | none => simp; omega
  | some x => simp; exact h x (List.mem_of_getElem? hi)
theorem stk_upto {ks : List KV} {W : Nat} {us : List UnV} {s : List Int × List EvV} {u : UnV} {m : Int} (hm : 0 ≤ m) (h : Upto m s.1) (hh : 0 ≤ hitOf ks u ∧ hitOf ks u ≤ 1000) : Upto (m + 1000) (stk ks W us s u).1 := by
  unfold stk
  split
  · intro x hx
    have := h x hx
    omega
  · intro x hx
    have h0 := h.at_ hm (tgtOf ks W us u).toNat
    rcases List.mem_or_eq_of_mem_set hx with hx | hx
    · have := h x hx
      omega
    · omega
theorem hit_in {ks : List KV} (h : Kd.kindsFault (ks.map KV.k) = 0) (u : UnV) : 0 ≤ hitOf ks u ∧ hitOf ks u ≤ 1000 := by
  unfold hitOf
  split
  · omega
  · rename_i k hk
    have := kind_nums h (List.mem_of_getElem? hk)
    omega
theorem strikes_upto {ks : List KV} {W : Nat} {us : List UnV} (h : Kd.kindsFault (ks.map KV.k) = 0) : ∀ (n : Nat), n ≤ us.length → Upto (1000 * (n : Int)) (strikes ks W us (us.take n)).1
  | 0, _ => by
    intro x hx
    have : x ∈ List.replicate us.length (0 : Int) := hx
    have := List.eq_of_mem_replicate this
    omega
  | n + 1, hn => by
    obtain ⟨u, hu⟩ : ∃ u, us[n]? = some u := ⟨_, List.getElem?_eq_getElem (by omega)⟩
    rw [strikes_next hu]
    have h9 := strikes_upto (ks := ks) (W := W) (us := us) h n (by omega)
    have h8 := stk_upto (W := W) (us := us) (m := 1000 * (n : Int)) (by omega) h9 (hit_in h u)
    intro x hx
    have := h8 x hx
    omega
/-- those that are struck. -/
def hurt (us : List UnV) (lost : List Int) : List UnV := us.zipWith (fun u n => { u with life := u.life - n }) lost
def hurtN (us : List UnV) (lost : List Int) (n : Nat) : List UnV := hurt (us.take n) (lost.take n) ++ us.drop n
theorem hurtN_zero (us : List UnV) (lost : List Int) : hurtN us lost 0 = us := by simp [hurtN, hurt]
theorem hurtN_all {us : List UnV} {lost : List Int} (hl : lost.length = us.length) : hurtN us lost us.length = hurt us lost := by
  unfold hurtN
  rw [List.take_of_length_le (Nat.le_refl _), List.take_of_length_le (by omega), List.drop_of_length_le (Nat.le_refl _), List.append_nil]
theorem hurt_len {us : List UnV} {lost : List Int} (hl : lost.length = us.length) : (hurt us lost).length = us.length := by
  unfold hurt
  rw [List.length_zipWith, hl, Nat.min_self]
theorem hurtN_len {us : List UnV} {lost : List Int} {n : Nat} (hl : lost.length = us.length) (hn : n ≤ us.length) : (hurtN us lost n).length = us.length := by
  unfold hurtN
  rw [List.length_append, hurt_len (by simp [hl]), List.length_take, List.length_drop]
  omega
theorem hurtN_at {us : List UnV} {lost : List Int} {n : Nat} {u : UnV} (hl : lost.length = us.length) (hu : us[n]? = some u) : (hurtN us lost n)[n]? = some u := by
  have hn : n < us.length := (List.getElem?_eq_some_iff.1 hu).1
  unfold hurtN
  have h1 : (hurt (us.take n) (lost.take n)).length = n := by rw [hurt_len (by simp [hl]), List.length_take]; omega
  rw [List.getElem?_append_right (by omega), h1, Nat.sub_self, List.getElem?_drop, Nat.add_zero]
  exact hu
theorem hurtN_next {us : List UnV} {lost : List Int} {n : Nat} {u : UnV} {x : Int} (hl : lost.length = us.length) (hu : us[n]? = some u) (hx : lost[n]? = some x) : (hurtN us lost n).set n { u with life := u.life - x } = hurtN us lost (n + 1) := by
  obtain ⟨hn, e1⟩ := List.getElem?_eq_some_iff.1 hu
  obtain ⟨hn2, e2⟩ := List.getElem?_eq_some_iff.1 hx
  have h1 : (hurt (us.take n) (lost.take n)).length = n := by rw [hurt_len (by simp [hl]), List.length_take]; omega
  unfold hurtN
  rw [List.set_append_right _ _ (by omega), h1, Nat.sub_self, List.drop_eq_getElem_cons hn, List.set_cons_zero]
  rw [List.take_succ_eq_append_getElem hn, List.take_succ_eq_append_getElem hn2, e1, e2]
  unfold hurt
  rw [List.zipWith_append (by simp [hl])]
  simp
theorem hurt_at {us : List UnV} {lost : List Int} {n : Nat} {u : UnV} {x : Int} (hu : us[n]? = some u) (hx : lost[n]? = some x) : (hurt us lost)[n]? = some { u with life := u.life - x } := by
  unfold hurt
  rw [List.getElem?_zipWith, hu, hx]
end Go.Proofs.YtoabhfipikkkeaaGreatDoor

namespace Go.Proofs.YtoabhfipikkkeaaGreatDoor
open Go.RowKit
set_option linter.unusedVariables false

set_option maxRecDepth 100000 in
set_option maxHeartbeats 2000000 in
theorem apart_any (H : Int) (u1 u2 : Value) (Wn a b : Nat) (w : World) (h1 : 0 < Wn) (h2 : Wn ≤ 12) (ha : a ≤ 144) (hb : b ≤ 144) :
    Calls Tryz.prog 180 #[.agg #[.int .i64 (Wn : Nat), .int .i64 H, u1, u2], .int .i64 (a : Nat), .int .i64 (b : Nat)] w fun e w' => e = .returned (.int .i64 (farN Wn a b)) ∧ Below w.heap.size w w' := by
  obtain ⟨ca, hca⟩ : ∃ n, a % Wn = n := ⟨_, rfl⟩
  obtain ⟨ra, hra⟩ : ∃ n, a / Wn = n := ⟨_, rfl⟩
  obtain ⟨cb, hcb⟩ : ∃ n, b % Wn = n := ⟨_, rfl⟩
  obtain ⟨rb, hrb⟩ : ∃ n, b / Wn = n := ⟨_, rfl⟩
  have hw : ¬ (Wn : Int) = 0 := by omega
  have e1 : (a : Int) % (Wn : Int) = (ca : Nat) := by rw [← hca]; rfl
  have e2 : (a : Int) / (Wn : Int) = (ra : Nat) := by rw [← hra]; rfl
  have e3 : (b : Int) % (Wn : Int) = (cb : Nat) := by rw [← hcb]; rfl
  have e4 : (b : Int) / (Wn : Int) = (rb : Nat) := by rw [← hrb]; rfl
  have l1 : ra ≤ 144 := by rw [← hra]; exact Nat.le_trans (Nat.div_le_self _ _) ha
  have l2 : rb ≤ 144 := by rw [← hrb]; exact Nat.le_trans (Nat.div_le_self _ _) hb
  have l3 : ca ≤ 144 := by rw [← hca]; exact Nat.le_trans (Nat.mod_le _ _) ha
  have l4 : cb ≤ 144 := by rw [← hcb]; exact Nat.le_trans (Nat.mod_le _ _) hb
  have FR : Hid (∀ r, Ma.Sq r (((ca : Int) - (cb : Nat)) * ((ca : Int) - (cb : Nat)) + ((ra : Int) - (rb : Nat)) * ((ra : Int) - (rb : Nat))) → farN Wn a b = r) := by
    intro r hr
    refine farN_eq h2 ha hb h1 ?_
    rw [hca, hra, hcb, hrb]
    exact hr
  have FO : Hid (∀ W, Calls Tryz.prog 167 #[.int .i64 (ca : Nat), .int .i64 (ra : Nat), .int .i64 (cb : Nat), .int .i64 (rb : Nat)] W fun e w' => e = .returned (.tuple #[.int .i64 (farN Wn a b), .nilIface]) ∧ w' = W) := fun W => by
    refine (far_ok _ _ _ _ W (small_in6 l3) (small_in6 l1) (small_in6 l4) (small_in6 l2)).mono ?_
    rintro e w' ⟨r, hr, rfl, rfl⟩
    rw [FR.out r hr]
    exact ⟨rfl, rfl⟩
  clear hca hra hcb hrb FR
  have B0 : Hid (Below w.heap.size w (w.alloc (Obj.cells #[.int .i64 (Wn : Nat), .int .i64 H, u1, u2] 25))) := (Below.refl _ _).alloc (Nat.le_refl _) _
  have c0 : (w.alloc (Obj.cells #[.int .i64 (Wn : Nat), .int .i64 H, u1, u2] 25)).cell? ⟨w.heap.size, 0, none⟩ = some (.int .i64 (Wn : Nat)) := by simp
  obtain ⟨f, hf⟩ : ∃ f, farN Wn a b = f := ⟨_, rfl⟩
  rw [hf] at FO ⊢
  clear hf
  go_enter Tryz.func180, Tryz.ntmps180
  go_upto_region 1 with fail
  generalize (w.alloc (Obj.cells #[.int .i64 (Wn : Nat), .int .i64 H, u1, u2] 25)) = w0 at *
  go_quiet ((go_at_call 167; exact Calls.quiet_of_same (FO.out _)))
  go_wp2
  go_ret
  exact ⟨rfl, ⟨B0.out.os, B0.out.tape, B0.out.output, B0.out.size, B0.out.block⟩⟩
end Go.Proofs.YtoabhfipikkkeaaGreatDoor

namespace Go.Proofs.YtoabhfipikkkeaaGreatDoor
open Go.RowKit
set_option linter.unusedVariables false

theorem or2_any (x y : Int) (b : Nat) (w : World) (h0 : w.cell? ⟨b, 0, none⟩ = some (.int .i64 x)) (h1 : w.cell? ⟨b, 1, none⟩ = some (.int .i64 y)) :
    Calls Tryz.prog 171 #[.slice (some ⟨b, 0, none⟩) 2 2] w fun e w' => e = .returned (.int .i64 (if x = 0 then y else x)) ∧ w' = w := by
  by_cases hx : x = 0
  · subst hx
    by_cases hy : y = 0
    · subst hy
      go_enter Tryz.func171, Tryz.ntmps171
      go_wp2
      refine wp_loop_rounds 3 ?_
      rw [rounds_succ]
      go_wp2
      rw [rounds_succ]
      go_wp2
      rw [rounds_succ]
      go_wp2
      go_ret
      exact ⟨rfl, rfl⟩
    · have hyb : (y == 0) = false := beq_eq_false_iff_ne.2 hy
      go_enter Tryz.func171, Tryz.ntmps171
      go_wp2
      refine wp_loop_rounds 2 ?_
      rw [rounds_succ]
      go_wp2
      rw [rounds_succ]
      go_wp2
      go_ret
      exact ⟨by simp, rfl⟩
  · have hxb : (x == 0) = false := beq_eq_false_iff_ne.2 hx
    go_enter Tryz.func171, Tryz.ntmps171
    go_wp2
    refine wp_loop_rounds 1 ?_
    rw [rounds_succ]
    go_wp2
    go_ret
    exact ⟨by simp, rfl⟩

/-- a cell of a field. -/
def InF (u : UnV) : Prop := 0 ≤ u.at_ ∧ u.at_ ≤ 144
/-- target's boxes: the world, the unit. -/
structure Tb (w : World) (bw bu : Nat) (X : WV) (u1 u2 u3 u4 u5 : Value) (u : UnV) : Prop where
  x : Bw w bw X u1 u2 u3 u4 u5
  u : Unc w ⟨bu, 0, none⟩ u
theorem Tb.below {w V : World} {bw bu n : Nat} {X : WV} {u1 u2 u3 u4 u5 : Value} {u : UnV} (h : Tb w bw bu X u1 u2 u3 u4 u5 u) (hb : Below n w V) (h1 : bw < n) (h2 : bu < n) : Tb V bw bu X u1 u2 u3 u4 u5 u :=
  ⟨h.x.below hb h1, h.u.below hb h2⟩
set_option maxRecDepth 100000 in
set_option maxHeartbeats 2000000 in
theorem far_fg (X : WV) (u o : UnV) (Wn bw bu : Nat) (u1 u2 u3 u4 u5 : Value) (w : World) (hT : Tb w bw bu X u1 u2 u3 u4 u5 u) (hW : X.wide = (Wn : Nat)) (h1 : 0 < Wn) (h2 : Wn ≤ 12) (hu : InF u) (ho : InF o) :
    Calls Tryz.prog 179 #[o.val, .pointer (some ⟨bw, 0, none⟩), .pointer (some ⟨bu, 0, none⟩)] w fun e w' => e = .returned (.int .i64 (farU Wn u o)) ∧ Below w.heap.size w w' := by
  obtain ⟨an, han⟩ : ∃ n : Nat, u.at_ = n := ⟨u.at_.toNat, by have := hu.1; omega⟩
  obtain ⟨cn, hcn⟩ : ∃ n : Nat, o.at_ = n := ⟨o.at_.toNat, by have := ho.1; omega⟩
  have FU : Hid (farU Wn u o = farN Wn an cn) := by unfold Hid farU; rw [han, hcn]; rfl
  have LL : Hid (0 < Wn ∧ Wn ≤ 12 ∧ an ≤ 144 ∧ cn ≤ 144) := ⟨h1, h2, by have := hu.2; omega, by have := ho.2; omega⟩
  have HE : Hid (u.at_ = (an : Nat) ∧ o.at_ = (cn : Nat) ∧ X.wide = (Wn : Nat)) := ⟨han, hcn, hW⟩
  have T0 : Hid (Tb w bw bu X u1 u2 u3 u4 u5 u) := hT
  have B0 : Hid (Below w.heap.size w (w.alloc (Obj.cells #[.int .i64 o.id, .int .i64 o.player, .int .i64 o.kind, .int .i64 o.at_, .int .i64 o.life, .int .i64 o.load, .int .i64 o.task, .int .i64 o.goal] 63))) := (Below.refl _ _).alloc (Nat.le_refl _) _
  have O0 : Hid (Unc (w.alloc (Obj.cells #[.int .i64 o.id, .int .i64 o.player, .int .i64 o.kind, .int .i64 o.at_, .int .i64 o.life, .int .i64 o.load, .int .i64 o.task, .int .i64 o.goal] 63)) ⟨w.heap.size, 0, none⟩ o) := Unc.mk' o rfl
  clear hT han hcn hW h1 h2 hu ho
  unfold UnV.val
  go_enter Tryz.func179, Tryz.ntmps179
  go_upto_region 1 with fail
  generalize (w.alloc (Obj.cells #[.int .i64 o.id, .int .i64 o.player, .int .i64 o.kind, .int .i64 o.at_, .int .i64 o.life, .int .i64 o.load, .int .i64 o.task, .int .i64 o.goal] 63)) = w0 at *
  have T1 := T0.out.below B0.out T0.out.x.lt T0.out.u.lt
  obtain ⟨x0, x1, x2, x3, x4, x5, x6, x7, x8⟩ := T1.x
  obtain ⟨y0, y1, y2, y3, y4, y5, y6, y7⟩ := T1.u
  obtain ⟨q0, q1, q2, q3, q4, q5, q6, q7⟩ := O0.out
  rw [HE.out.1] at y3
  rw [HE.out.2.1] at q3
  rw [HE.out.2.2] at x2
  clear T1
  go_wp2_with fail
  refine (apart_any _ _ _ Wn an cn w0 LL.out.1 LL.out.2.1 LL.out.2.2.1 LL.out.2.2.2).mono ?_
  rintro e w1 ⟨rfl, hb⟩
  have B1 : Hid (Below w.heap.size w w1) := B0.out.trans (hb.mono B0.out.size)
  clear hb x0 x1 x2 x3 x4 x5 x6 x7 x8 y0 y1 y2 y3 y4 y5 y6 y7 q0 q1 q2 q3 q4 q5 q6 q7
  obtain ⟨f, hf⟩ : ∃ f, farN Wn an cn = f := ⟨_, rfl⟩
  rw [hf] at FU ⊢
  clear hf
  go_wp2
  go_ret
  exact ⟨by rw [FU.out]; rfl, B1.out⟩

set_option maxRecDepth 100000 in
set_option maxHeartbeats 4000000 in
theorem safe_fg (X : WV) (u o : UnV) (Wn bw bu bf bk : Nat) (rng : Int) (u1 u2 u3 u4 u5 : Value) (w : World) (hT : Tb w bw bu X u1 u2 u3 u4 u5 u) (hF : w.cell? ⟨bf, 0, none⟩ = some (.func (Fn.func 179) #[] #[.pointer (some ⟨bw, 0, none⟩), .pointer (some ⟨bu, 0, none⟩)])) (hK : w.cell? ⟨bk, 3, none⟩ = some (.int .i64 rng)) (hW : X.wide = (Wn : Nat)) (h1 : 0 < Wn) (h2 : Wn ≤ 12) (hu : InF u) (ho : InF o) :
    Calls Tryz.prog 181 #[o.val, .pointer (some ⟨bu, 0, none⟩), .pointer (some ⟨bf, 0, none⟩), .pointer (some ⟨bk, 0, none⟩)] w fun e w' => e = .returned (.bool (safeU Wn u rng o)) ∧ Below w.heap.size w w' := by
  have T0 : Hid (Tb w bw bu X u1 u2 u3 u4 u5 u) := hT
  have GG : Hid (X.wide = (Wn : Nat) ∧ 0 < Wn ∧ Wn ≤ 12 ∧ InF u ∧ InF o) := ⟨hW, h1, h2, hu, ho⟩
  have CF : Hid (w.cell? ⟨bf, 0, none⟩ = some (.func (Fn.func 179) #[] #[.pointer (some ⟨bw, 0, none⟩), .pointer (some ⟨bu, 0, none⟩)]) ∧ w.cell? ⟨bk, 3, none⟩ = some (.int .i64 rng) ∧ bf < w.heap.size ∧ bk < w.heap.size) := ⟨hF, hK, cell_lt hF, cell_lt hK⟩
  have B0 : Hid (Below w.heap.size w (w.alloc (Obj.cells #[.int .i64 o.id, .int .i64 o.player, .int .i64 o.kind, .int .i64 o.at_, .int .i64 o.life, .int .i64 o.load, .int .i64 o.task, .int .i64 o.goal] 63))) := (Below.refl _ _).alloc (Nat.le_refl _) _
  have O0 : Hid (Unc (w.alloc (Obj.cells #[.int .i64 o.id, .int .i64 o.player, .int .i64 o.kind, .int .i64 o.at_, .int .i64 o.life, .int .i64 o.load, .int .i64 o.task, .int .i64 o.goal] 63)) ⟨w.heap.size, 0, none⟩ o) := Unc.mk' o rfl
  have CB : Hid (∀ V, Below w.heap.size w V → Unc V ⟨w.heap.size, 0, none⟩ o → (V.cell? ⟨w.heap.size, 1, none⟩ = some (.int .i64 o.player) ∧ V.cell? ⟨bu, 1, none⟩ = some (.int .i64 u.player) ∧ V.cell? ⟨bf, 0, none⟩ = some (.func (Fn.func 179) #[] #[.pointer (some ⟨bw, 0, none⟩), .pointer (some ⟨bu, 0, none⟩)]) ∧ V.cell? ⟨bk, 3, none⟩ = some (.int .i64 rng) ∧ Unc V ⟨w.heap.size, 0, none⟩ o ∧ Tb V bw bu X u1 u2 u3 u4 u5 u)) := fun V hb h0 =>
    ⟨by have := h0.c1; rw [Nat.zero_add] at this; exact this, by have := (T0.out.u.below hb T0.out.u.lt).c1; rw [Nat.zero_add] at this; exact this, by rw [hb.cell (p := ⟨bf, 0, none⟩) CF.out.2.2.1]; exact CF.out.1, by rw [hb.cell (p := ⟨bk, 3, none⟩) CF.out.2.2.2]; exact CF.out.2.1, h0, T0.out.below hb T0.out.x.lt T0.out.u.lt⟩
  clear hT hF hK hW h1 h2 hu ho
  unfold UnV.val
  go_enter Tryz.func181, Tryz.ntmps181
  go_upto_region 1 with fail
  generalize (w.alloc (Obj.cells #[.int .i64 o.id, .int .i64 o.player, .int .i64 o.kind, .int .i64 o.at_, .int .i64 o.life, .int .i64 o.load, .int .i64 o.task, .int .i64 o.goal] 63)) = w0 at *
  by_cases hp : o.player = u.player
  · have S1 : Hid (safeU Wn u rng o = true) := by unfold Hid safeU; rw [hp]; simp
    obtain ⟨d1, d2, d3, d4, ⟨q0, q1, q2, q3, q4, q5, q6, q7⟩, -⟩ := CB.out w0 B0.out O0.out
    rw [hp] at d1 q1
    go_quiet (fail)
    go_wp2
    go_ret
    exact ⟨by rw [S1.out]; rfl, ⟨B0.out.os, B0.out.tape, B0.out.output, B0.out.size, B0.out.block⟩⟩
  · have hp' : (o.player == u.player) = false := by rw [beq_eq_false_iff_ne]; exact hp
    have S1 : Hid (safeU Wn u rng o = decide (rng < farU Wn u o)) := by unfold Hid safeU; rw [hp']; rfl
    clear hp
    refine wp_region_two [(true, 0), (true, 1), (true, 2), (true, 3), (true, 4), (true, 5), (true, 6), (true, 7), (true, 9), (true, 10), (false, 8)] [(true, 11), (true, 12), (false, 13)] (fun V => (V.cell? ⟨w.heap.size, 1, none⟩ = some (.int .i64 o.player) ∧ V.cell? ⟨bu, 1, none⟩ = some (.int .i64 u.player) ∧ V.cell? ⟨bf, 0, none⟩ = some (.func (Fn.func 179) #[] #[.pointer (some ⟨bw, 0, none⟩), .pointer (some ⟨bu, 0, none⟩)]) ∧ V.cell? ⟨bk, 3, none⟩ = some (.int .i64 rng) ∧ Unc V ⟨w.heap.size, 0, none⟩ o ∧ Tb V bw bu X u1 u2 u3 u4 u5 u)) (by kernel_rfl) (by kernel_rfl) (by kernel_rfl) (by decide +kernel) (by decide +kernel) (CB.out _ B0.out.drew (O0.out.below ((Below.refl _ _).drew) O0.out.lt)) ?_
    have B1 : Hid (Below w.heap.size w { w0 with drawn := w0.drawn + 1 }) := B0.out.drew
    have O1 : Hid (Unc { w0 with drawn := w0.drawn + 1 } ⟨w.heap.size, 0, none⟩ o) := O0.out.below ((Below.refl _ _).drew) O0.out.lt
    generalize ({ w0 with drawn := w0.drawn + 1 } : World) = w1 at *
    clear B0 O0
    refine headT_read rfl (.pointer (some ⟨w.heap.size, 1, none⟩)) (by go_simp) (fun V hV => by go_simp) ?_
    go_simp
    refine headT_read rfl (.int .i64 o.player) (by go_simp) (fun V hV => by obtain ⟨d1, d2, d3, d4, ⟨q0, q1, q2, q3, q4, q5, q6, q7⟩, -⟩ := hV; go_simp) ?_
    go_simp
    refine headT_read rfl (.pointer (some ⟨bu, 1, none⟩)) (by go_simp) (fun V hV => by go_simp) ?_
    go_simp
    refine headT_read rfl (.int .i64 u.player) (by go_simp) (fun V hV => by obtain ⟨d1, d2, d3, d4, ⟨q0, q1, q2, q3, q4, q5, q6, q7⟩, -⟩ := hV; go_simp) ?_
    go_simp
    refine headT_read rfl (.bool false) (by go_simp) (fun V hV => by go_simp) ?_
    go_simp
    refine headT_read rfl (.bool false) (by go_simp) (fun V hV => by go_simp) ?_
    go_simp
    refine headT_read rfl (.func (Fn.func 179) #[] #[.pointer (some ⟨bw, 0, none⟩), .pointer (some ⟨bu, 0, none⟩)]) (by go_simp) (fun V hV => by obtain ⟨d1, d2, d3, d4, ⟨q0, q1, q2, q3, q4, q5, q6, q7⟩, -⟩ := hV; go_simp) ?_
    go_simp
    refine headT_read rfl (.agg #[.int .i64 o.id, .int .i64 o.player, .int .i64 o.kind, .int .i64 o.at_, .int .i64 o.life, .int .i64 o.load, .int .i64 o.task, .int .i64 o.goal]) (by go_simp) (fun V hV => by obtain ⟨d1, d2, d3, d4, ⟨q0, q1, q2, q3, q4, q5, q6, q7⟩, -⟩ := hV; go_simp) ?_
    go_simp
    refine headT_read rfl (.pointer (some ⟨bk, 3, none⟩)) (by go_simp) (fun V hV => by go_simp) ?_
    go_simp
    refine headT_read rfl (.int .i64 rng) (by go_simp) (fun V hV => by obtain ⟨d1, d2, d3, d4, ⟨q0, q1, q2, q3, q4, q5, q6, q7⟩, -⟩ := hV; go_simp) ?_
    go_simp
    refine headT_call rfl 179 (#[o.val] ++ #[.pointer (some ⟨bw, 0, none⟩), .pointer (some ⟨bu, 0, none⟩)]) (by go_simp) (by go_simp; rfl) ?_
    refine (far_fg X u o Wn bw bu _ _ _ _ _ w1 (T0.out.below B1.out T0.out.x.lt T0.out.u.lt) GG.out.1 GG.out.2.1 GG.out.2.2.1 GG.out.2.2.2.1 GG.out.2.2.2.2).mono ?_
    rintro e w2 ⟨rfl, hb⟩
    have B2 : Hid (Below w.heap.size w w2) := B1.out.trans (hb.mono B1.out.size)
    refine ⟨_, rfl, CB.out _ B2.out (O1.out.below hb O1.out.lt), ?_⟩
    clear hb B1 O1
    go_simp
    obtain ⟨t, ht⟩ : ∃ t, farU Wn u o = t := ⟨_, rfl⟩
    rw [ht] at S1 ⊢
    clear ht
    refine sched_read rfl (.bool (decide (rng < t))) (by go_simp) (fun V hV => by go_simp) ?_
    go_simp
    refine sched_read rfl (.bool (decide (rng < t))) (by go_simp) (fun V hV => by go_simp) ?_
    go_simp
    refine sched_value rfl (.bool (decide (rng < t))) w2 (by go_simp) (by go_simp) trivial ?_
    go_simp
    unfold wpSched
    go_wp2
    go_ret
    exact ⟨by rw [S1.out]; rfl, B2.out⟩

set_option maxRecDepth 100000 in
set_option maxHeartbeats 4000000 in
theorem soon_fg (X : WV) (u a b : UnV) (Wn bw bu bf : Nat) (u1 u2 u3 u4 u5 : Value) (w : World) (hT : Tb w bw bu X u1 u2 u3 u4 u5 u) (hF : w.cell? ⟨bf, 0, none⟩ = some (.func (Fn.func 179) #[] #[.pointer (some ⟨bw, 0, none⟩), .pointer (some ⟨bu, 0, none⟩)])) (hW : X.wide = (Wn : Nat)) (h1 : 0 < Wn) (h2 : Wn ≤ 12) (hu : InF u) (ha : InF a) (hb : InF b) (la : 0 ≤ a.life ∧ a.life ≤ 1000000) (lb : 0 ≤ b.life ∧ b.life ≤ 1000000) :
    Calls Tryz.prog 183 #[a.val, b.val, .pointer (some ⟨bf, 0, none⟩)] w fun e w' => e = .returned (.int .i64 (soonU Wn u a b)) ∧ Below w.heap.size w w' := by
  have T0 : Hid (Tb w bw bu X u1 u2 u3 u4 u5 u) := hT
  have GG : Hid (X.wide = (Wn : Nat) ∧ 0 < Wn ∧ Wn ≤ 12 ∧ InF u ∧ InF a ∧ InF b) := ⟨hW, h1, h2, hu, ha, hb⟩
  have CF : Hid (w.cell? ⟨bf, 0, none⟩ = some (.func (Fn.func 179) #[] #[.pointer (some ⟨bw, 0, none⟩), .pointer (some ⟨bu, 0, none⟩)]) ∧ bf < w.heap.size) := ⟨hF, cell_lt hF⟩
  have wl : IntKind.i64.wrap (a.life - b.life) = a.life - b.life := by rw [IntKind.wrap_i64]; omega
  have wf : IntKind.i64.wrap (farU Wn u a - farU Wn u b) = farU Wn u a - farU Wn u b := by
    have g1 := farN_ge Wn u.at_.toNat a.at_.toNat
    have g2 := farN_ge Wn u.at_.toNat b.at_.toNat
    unfold farU
    rw [IntKind.wrap_i64]; omega
  have B0 : Hid (Below w.heap.size w ((w.alloc (Obj.cells #[.int .i64 a.id, .int .i64 a.player, .int .i64 a.kind, .int .i64 a.at_, .int .i64 a.life, .int .i64 a.load, .int .i64 a.task, .int .i64 a.goal] 63)).alloc (Obj.cells #[.int .i64 b.id, .int .i64 b.player, .int .i64 b.kind, .int .i64 b.at_, .int .i64 b.life, .int .i64 b.load, .int .i64 b.task, .int .i64 b.goal] 63))) := ((Below.refl _ _).alloc (Nat.le_refl _) _).alloc (by simp) _
  have A0 : Hid (Unc ((w.alloc (Obj.cells #[.int .i64 a.id, .int .i64 a.player, .int .i64 a.kind, .int .i64 a.at_, .int .i64 a.life, .int .i64 a.load, .int .i64 a.task, .int .i64 a.goal] 63)).alloc (Obj.cells #[.int .i64 b.id, .int .i64 b.player, .int .i64 b.kind, .int .i64 b.at_, .int .i64 b.life, .int .i64 b.load, .int .i64 b.task, .int .i64 b.goal] 63)) ⟨w.heap.size, 0, none⟩ a) := (Unc.mk' a rfl).below ((Below.refl _ _).alloc (Nat.le_refl _) _) (by simp)
  have V0 : Hid (Unc ((w.alloc (Obj.cells #[.int .i64 a.id, .int .i64 a.player, .int .i64 a.kind, .int .i64 a.at_, .int .i64 a.life, .int .i64 a.load, .int .i64 a.task, .int .i64 a.goal] 63)).alloc (Obj.cells #[.int .i64 b.id, .int .i64 b.player, .int .i64 b.kind, .int .i64 b.at_, .int .i64 b.life, .int .i64 b.load, .int .i64 b.task, .int .i64 b.goal] 63)) ⟨w.heap.size + 1, 0, none⟩ b) := Unc.mk' b (by simp)
  have CB : Hid (∀ V, Below w.heap.size w V → Unc V ⟨w.heap.size, 0, none⟩ a → Unc V ⟨w.heap.size + 1, 0, none⟩ b → (V.cell? ⟨bf, 0, none⟩ = some (.func (Fn.func 179) #[] #[.pointer (some ⟨bw, 0, none⟩), .pointer (some ⟨bu, 0, none⟩)]) ∧ Unc V ⟨w.heap.size, 0, none⟩ a ∧ Unc V ⟨w.heap.size + 1, 0, none⟩ b ∧ V.cell? ⟨w.heap.size, 4, none⟩ = some (.int .i64 a.life) ∧ V.cell? ⟨w.heap.size + 1, 4, none⟩ = some (.int .i64 b.life))) := fun V hb h0 h1 =>
    ⟨by rw [hb.cell (p := ⟨bf, 0, none⟩) CF.out.2]; exact CF.out.1, h0, h1, by have := h0.c4; rw [Nat.zero_add] at this; exact this, by have := h1.c4; rw [Nat.zero_add] at this; exact this⟩
  clear hT hF hW h1 h2 hu ha hb la lb
  unfold UnV.val
  go_enter Tryz.func183, Tryz.ntmps183
  go_upto_region 1 with fail
  generalize ((w.alloc (Obj.cells #[.int .i64 a.id, .int .i64 a.player, .int .i64 a.kind, .int .i64 a.at_, .int .i64 a.life, .int .i64 a.load, .int .i64 a.task, .int .i64 a.goal] 63)).alloc (Obj.cells #[.int .i64 b.id, .int .i64 b.player, .int .i64 b.kind, .int .i64 b.at_, .int .i64 b.life, .int .i64 b.load, .int .i64 b.task, .int .i64 b.goal] 63)) = w0 at *
  refine wp_region_two [(true, 0), (true, 1), (true, 3), (true, 4), (true, 7), (true, 8), (true, 9), (true, 10), (true, 11), (false, 2), (false, 5), (true, 6), (false, 12), (false, 13)] [(false, 14)] (fun V => (V.cell? ⟨bf, 0, none⟩ = some (.func (Fn.func 179) #[] #[.pointer (some ⟨bw, 0, none⟩), .pointer (some ⟨bu, 0, none⟩)]) ∧ Unc V ⟨w.heap.size, 0, none⟩ a ∧ Unc V ⟨w.heap.size + 1, 0, none⟩ b ∧ V.cell? ⟨w.heap.size, 4, none⟩ = some (.int .i64 a.life) ∧ V.cell? ⟨w.heap.size + 1, 4, none⟩ = some (.int .i64 b.life))) (by kernel_rfl) (by kernel_rfl) (by kernel_rfl) (by decide +kernel) (by decide +kernel) (CB.out _ B0.out.drew (A0.out.below ((Below.refl _ _).drew) A0.out.lt) (V0.out.below ((Below.refl _ _).drew) V0.out.lt)) ?_
  have B1 : Hid (Below w.heap.size w { w0 with drawn := w0.drawn + 1 }) := B0.out.drew
  have A1 : Hid (Unc { w0 with drawn := w0.drawn + 1 } ⟨w.heap.size, 0, none⟩ a) := A0.out.below ((Below.refl _ _).drew) A0.out.lt
  have V1 : Hid (Unc { w0 with drawn := w0.drawn + 1 } ⟨w.heap.size + 1, 0, none⟩ b) := V0.out.below ((Below.refl _ _).drew) V0.out.lt
  generalize ({ w0 with drawn := w0.drawn + 1 } : World) = w1 at *
  clear B0 A0 V0
  refine headT_read rfl (.func (Fn.func 179) #[] #[.pointer (some ⟨bw, 0, none⟩), .pointer (some ⟨bu, 0, none⟩)]) (by go_simp) (fun V hV => by obtain ⟨d1, ⟨q0, q1, q2, q3, q4, q5, q6, q7⟩, ⟨r0, r1, r2, r3, r4, r5, r6, r7⟩, d2, d3⟩ := hV; go_simp) ?_
  go_simp
  refine headT_read rfl (.agg #[.int .i64 a.id, .int .i64 a.player, .int .i64 a.kind, .int .i64 a.at_, .int .i64 a.life, .int .i64 a.load, .int .i64 a.task, .int .i64 a.goal]) (by go_simp) (fun V hV => by obtain ⟨d1, ⟨q0, q1, q2, q3, q4, q5, q6, q7⟩, ⟨r0, r1, r2, r3, r4, r5, r6, r7⟩, d2, d3⟩ := hV; go_simp) ?_
  go_simp
  refine headT_read rfl (.func (Fn.func 179) #[] #[.pointer (some ⟨bw, 0, none⟩), .pointer (some ⟨bu, 0, none⟩)]) (by go_simp) (fun V hV => by obtain ⟨d1, ⟨q0, q1, q2, q3, q4, q5, q6, q7⟩, ⟨r0, r1, r2, r3, r4, r5, r6, r7⟩, d2, d3⟩ := hV; go_simp) ?_
  go_simp
  refine headT_read rfl (.agg #[.int .i64 b.id, .int .i64 b.player, .int .i64 b.kind, .int .i64 b.at_, .int .i64 b.life, .int .i64 b.load, .int .i64 b.task, .int .i64 b.goal]) (by go_simp) (fun V hV => by obtain ⟨d1, ⟨q0, q1, q2, q3, q4, q5, q6, q7⟩, ⟨r0, r1, r2, r3, r4, r5, r6, r7⟩, d2, d3⟩ := hV; go_simp) ?_
  go_simp
  refine headT_read rfl (.pointer (some ⟨w.heap.size, 4, none⟩)) (by go_simp) (fun V hV => by go_simp) ?_
  go_simp
  refine headT_read rfl (.int .i64 a.life) (by go_simp) (fun V hV => by obtain ⟨d1, ⟨q0, q1, q2, q3, q4, q5, q6, q7⟩, ⟨r0, r1, r2, r3, r4, r5, r6, r7⟩, d2, d3⟩ := hV; go_simp) ?_
  go_simp
  refine headT_read rfl (.pointer (some ⟨w.heap.size + 1, 4, none⟩)) (by go_simp) (fun V hV => by go_simp) ?_
  go_simp
  refine headT_read rfl (.int .i64 b.life) (by go_simp) (fun V hV => by obtain ⟨d1, ⟨q0, q1, q2, q3, q4, q5, q6, q7⟩, ⟨r0, r1, r2, r3, r4, r5, r6, r7⟩, d2, d3⟩ := hV; go_simp) ?_
  go_simp
  refine headT_read rfl (.int .i64 (a.life - b.life)) (by go_simp) (fun V hV => by go_simp) ?_
  go_simp
  refine headT_call rfl 179 (#[a.val] ++ #[.pointer (some ⟨bw, 0, none⟩), .pointer (some ⟨bu, 0, none⟩)]) (by go_simp) (by go_simp; rfl) ?_
  refine (far_fg X u a Wn bw bu _ _ _ _ _ w1 (T0.out.below B1.out T0.out.x.lt T0.out.u.lt) GG.out.1 GG.out.2.1 GG.out.2.2.1 GG.out.2.2.2.1 GG.out.2.2.2.2.1).mono ?_
  rintro e w2 ⟨rfl, hb⟩
  have B2 : Hid (Below w.heap.size w w2) := B1.out.trans (hb.mono B1.out.size)
  have A2 : Hid (Unc w2 ⟨w.heap.size, 0, none⟩ a) := A1.out.below hb A1.out.lt
  have V2 : Hid (Unc w2 ⟨w.heap.size + 1, 0, none⟩ b) := V1.out.below hb V1.out.lt
  refine ⟨_, rfl, CB.out _ B2.out A2.out V2.out, ?_⟩
  clear hb B1 A1 V1
  go_simp
  refine headT_call rfl 179 (#[b.val] ++ #[.pointer (some ⟨bw, 0, none⟩), .pointer (some ⟨bu, 0, none⟩)]) (by go_simp) (by go_simp; rfl) ?_
  refine (far_fg X u b Wn bw bu _ _ _ _ _ w2 (T0.out.below B2.out T0.out.x.lt T0.out.u.lt) GG.out.1 GG.out.2.1 GG.out.2.2.1 GG.out.2.2.2.1 GG.out.2.2.2.2.2).mono ?_
  rintro e w3 ⟨rfl, hb⟩
  have B3 : Hid (Below w.heap.size w w3) := B2.out.trans (hb.mono B2.out.size)
  have A3 : Hid (Unc w3 ⟨w.heap.size, 0, none⟩ a) := A2.out.below hb A2.out.lt
  have V3 : Hid (Unc w3 ⟨w.heap.size + 1, 0, none⟩ b) := V2.out.below hb V2.out.lt
  refine ⟨_, rfl, CB.out _ B3.out A3.out V3.out, ?_⟩
  clear hb B2 A2 V2
  go_simp
  obtain ⟨fa, hfa⟩ : ∃ t, farU Wn u a = t := ⟨_, rfl⟩
  obtain ⟨fb, hfb⟩ : ∃ t, farU Wn u b = t := ⟨_, rfl⟩
  have SO : Hid (soonU Wn u a b = if fa - fb = 0 then a.life - b.life else fa - fb) := by unfold Hid soonU; rw [hfa, hfb]
  rw [hfa, hfb] at wf
  rw [hfa, hfb]
  clear hfa hfb
  refine headT_read rfl (.int .i64 (fa - fb)) (by go_simp) (fun V hV => by go_simp) ?_
  go_simp
  have BA : Hid (Below w3.heap.size w3 (w3.alloc (Obj.cells #[.int .i64 (fa - fb), .int .i64 (a.life - b.life)] 3))) := (Below.refl _ _).alloc (Nat.le_refl _) _
  have s0 : (w3.alloc (Obj.cells #[.int .i64 (fa - fb), .int .i64 (a.life - b.life)] 3)).cell? ⟨w3.heap.size, 0, none⟩ = some (.int .i64 (fa - fb)) := by simp
  have s1 : (w3.alloc (Obj.cells #[.int .i64 (fa - fb), .int .i64 (a.life - b.life)] 3)).cell? ⟨w3.heap.size, 1, none⟩ = some (.int .i64 (a.life - b.life)) := by simp
  refine headT_value rfl (.slice (some ⟨w3.heap.size, 0, none⟩) 2 2) (w3.alloc (Obj.cells #[.int .i64 (fa - fb), .int .i64 (a.life - b.life)] 3)) (by go_simp) (by go_simp) (CB.out _ (B3.out.trans (BA.out.mono B3.out.size)) (A3.out.below BA.out A3.out.lt) (V3.out.below BA.out V3.out.lt)) ?_
  go_simp
  generalize (w3.alloc (Obj.cells #[.int .i64 (fa - fb), .int .i64 (a.life - b.life)] 3)) = w4 at *
  have B4 : Hid (Below w.heap.size w w4) := B3.out.trans (BA.out.mono B3.out.size)
  have A4 : Hid (Unc w4 ⟨w.heap.size, 0, none⟩ a) := A3.out.below BA.out A3.out.lt
  have V4 : Hid (Unc w4 ⟨w.heap.size + 1, 0, none⟩ b) := V3.out.below BA.out V3.out.lt
  refine headT_call rfl 171 #[.slice (some ⟨w3.heap.size, 0, none⟩) 2 2] (by go_simp) (by go_simp) ?_
  refine (or2_any _ _ _ w4 s0 s1).mono ?_
  rintro e w5 ⟨rfl, rfl⟩
  refine ⟨_, rfl, CB.out _ B4.out A4.out V4.out, ?_⟩
  rw [← SO.out]
  obtain ⟨t, ht⟩ : ∃ t, soonU Wn u a b = t := ⟨_, rfl⟩
  have ST : Hid (soonU Wn u a b = t) := ht
  rw [ht]
  clear ht SO s0 s1 BA
  go_simp
  refine sched_value rfl (.int .i64 t) w5 (by go_simp) (by go_simp) trivial ?_
  go_simp
  unfold wpSched
  go_wp2
  go_ret
  exact ⟨by rw [ST.out]; rfl, B4.out⟩
end Go.Proofs.YtoabhfipikkkeaaGreatDoor

namespace Go.Proofs.YtoabhfipikkkeaaGreatDoor
open Go.RowKit
set_option linter.unusedVariables false

theorem field_id (m : UnV) (W : World) : (Instr.field 63 (.agg #[.int .i64 m.id, .int .i64 m.player, .int .i64 m.kind, .int .i64 m.at_, .int .i64 m.life, .int .i64 m.load, .int .i64 m.task, .int .i64 m.goal]) 0).run Tryz.prog W = .ok (.int .i64 m.id) W := by kernel_rfl
set_option maxRecDepth 100000 in
set_option maxHeartbeats 4000000 in
theorem target_any (vk vw : Value) (ks : List KV) (X : WV) (u : UnV) (Wn : Nat) (k : KV) (w : World) (hk : Kl w vk ks) (hw : Wl w vw X) (e1 : X.wide = (Wn : Nat)) (h1 : 0 < Wn) (h2 : Wn ≤ 12) (hl : X.us.length ≤ 1000000)
    (hu : InF u) (hk0 : 0 ≤ u.kind) (hk' : ks[u.kind.toNat]? = some k) (hus : ∀ h ∈ X.us, InF h ∧ 0 ≤ h.life ∧ h.life ≤ 1000000) :
    Calls Tryz.prog 147 #[vk, vw, u.val] w fun e w' => ∃ t, e = .returned (.int .i64 t) ∧ TgSays Wn u k X.us t ∧ Below w.heap.size w w' := by
  obtain ⟨kn, hkn⟩ : ∃ n : Nat, u.kind = n := ⟨u.kind.toNat, by omega⟩
  have hkk : ks[kn]? = some k := by rw [hkn, Int.toNat_natCast] at hk'; exact hk'
  have hkl : kn < ks.length := (List.getElem?_eq_some_iff.1 hkk).1
  have H : Hid (Wl w vw X) := hw
  have GD : Hid (X.wide = (Wn : Nat) ∧ 0 < Wn ∧ Wn ≤ 12 ∧ InF u ∧ X.us.length ≤ 1000000 ∧ ∀ h ∈ X.us, InF h ∧ 0 ≤ h.life ∧ h.life ≤ 1000000) := ⟨e1, h1, h2, hu, hl, hus⟩
  obtain ⟨p1, q1, p2, q2, p3, q3, p4, q4, p5, q5, rfl⟩ := wl_shape9 hw
  obtain ⟨pk, qk, rfl, ck1, ck2, kc⟩ := hk
  obtain ⟨xk, rfl, hxl, hxc⟩ := kc (by intro h; subst h; simp at hkl)
  have KK : Hid (Kc w (xk.add (kn * 11)) k ∧ (xk.add (kn * 11)).block < w.heap.size) := ⟨hxc kn k hkk, by rw [add_block]; exact hxl⟩
  have HE : Hid (u.kind = (kn : Nat)) := hkn
  clear hw e1 h1 h2 hl hu hk0 hk' hus hkn kc hxc hxl hkk
  unfold UnV.val
  go_enter Tryz.func147, Tryz.ntmps147
  go_upto_region 1 with fail
  have B0 : Hid (Below w.heap.size w ((w.alloc (Obj.cells #[.int .i64 X.turn, .int .i64 X.next, .int .i64 X.wide, .int .i64 X.high, .slice p1 X.gs.length q1, .slice p2 X.os.length q2, .slice p3 X.gold.length q3, .slice p4 X.us.length q4, .slice p5 X.qs.length q5] 29)).alloc (Obj.cells #[.int .i64 u.id, .int .i64 u.player, .int .i64 u.kind, .int .i64 u.at_, .int .i64 u.life, .int .i64 u.load, .int .i64 u.task, .int .i64 u.goal] 63))) := ((Below.refl _ _).alloc (Nat.le_refl _) _).alloc (by simp) _
  have T0 : Hid (Tb ((w.alloc (Obj.cells #[.int .i64 X.turn, .int .i64 X.next, .int .i64 X.wide, .int .i64 X.high, .slice p1 X.gs.length q1, .slice p2 X.os.length q2, .slice p3 X.gold.length q3, .slice p4 X.us.length q4, .slice p5 X.qs.length q5] 29)).alloc (Obj.cells #[.int .i64 u.id, .int .i64 u.player, .int .i64 u.kind, .int .i64 u.at_, .int .i64 u.life, .int .i64 u.load, .int .i64 u.task, .int .i64 u.goal] 63)) w.heap.size (w.heap.size + 1) X (.slice p1 X.gs.length q1) (.slice p2 X.os.length q2) (.slice p3 X.gold.length q3) (.slice p4 X.us.length q4) (.slice p5 X.qs.length q5) u) := ⟨(Bw.mk' X _ _ _ _ _ rfl).below ((Below.refl _ _).alloc (Nat.le_refl _) _) (by simp), Unc.mk' u (by simp)⟩
  have Z0 : Hid (((w.alloc (Obj.cells #[.int .i64 X.turn, .int .i64 X.next, .int .i64 X.wide, .int .i64 X.high, .slice p1 X.gs.length q1, .slice p2 X.os.length q2, .slice p3 X.gold.length q3, .slice p4 X.us.length q4, .slice p5 X.qs.length q5] 29)).alloc (Obj.cells #[.int .i64 u.id, .int .i64 u.player, .int .i64 u.kind, .int .i64 u.at_, .int .i64 u.life, .int .i64 u.load, .int .i64 u.task, .int .i64 u.goal] 63)).heap.size = w.heap.size + 2) := by unfold Hid; simp
  generalize ((w.alloc (Obj.cells #[.int .i64 X.turn, .int .i64 X.next, .int .i64 X.wide, .int .i64 X.high, .slice p1 X.gs.length q1, .slice p2 X.os.length q2, .slice p3 X.gold.length q3, .slice p4 X.us.length q4, .slice p5 X.qs.length q5] 29)).alloc (Obj.cells #[.int .i64 u.id, .int .i64 u.player, .int .i64 u.kind, .int .i64 u.at_, .int .i64 u.life, .int .i64 u.load, .int .i64 u.task, .int .i64 u.goal] 63)) = w0 at *
  obtain ⟨z0, z1, z2, z3, z4, z5, z6, z7, z8, z9, z10⟩ := KK.out.1.below B0.out KK.out.2
  obtain ⟨y0, y1, y2, y3, y4, y5, y6, y7⟩ := T0.out.u
  rw [HE.out] at y2
  go_upto_region 2 with fail
  have BK : Hid (Below w0.heap.size w0 (w0.alloc (Obj.cells #[.string k.b, .int .i64 k.n0, .int .i64 k.n1, .int .i64 k.n2, .int .i64 k.n3, .int .i64 k.n4, .int .i64 k.n5, .int .i64 k.n6, .int .i64 k.n7, .bool k.f, .bool k.t] 80))) := (Below.refl _ _).alloc (Nat.le_refl _) _
  have K1 : Hid (Kc (w0.alloc (Obj.cells #[.string k.b, .int .i64 k.n0, .int .i64 k.n1, .int .i64 k.n2, .int .i64 k.n3, .int .i64 k.n4, .int .i64 k.n5, .int .i64 k.n6, .int .i64 k.n7, .bool k.f, .bool k.t] 80)) ⟨w.heap.size + 2, 0, none⟩ k) := kind_new k Z0.out
  have Z1 : Hid ((w0.alloc (Obj.cells #[.string k.b, .int .i64 k.n0, .int .i64 k.n1, .int .i64 k.n2, .int .i64 k.n3, .int .i64 k.n4, .int .i64 k.n5, .int .i64 k.n6, .int .i64 k.n7, .bool k.f, .bool k.t] 80)).heap.size = w.heap.size + 3) := by have := Z0.out; unfold Hid; simp; omega
  rw [Z0.out]
  generalize (w0.alloc (Obj.cells #[.string k.b, .int .i64 k.n0, .int .i64 k.n1, .int .i64 k.n2, .int .i64 k.n3, .int .i64 k.n4, .int .i64 k.n5, .int .i64 k.n6, .int .i64 k.n7, .bool k.f, .bool k.t] 80)) = w1 at *
  have B1 : Hid (Below w.heap.size w w1) := B0.out.trans (BK.out.mono B0.out.size)
  have T1 : Hid (Tb w1 (w.heap.size) (w.heap.size + 1) X (.slice p1 X.gs.length q1) (.slice p2 X.os.length q2) (.slice p3 X.gold.length q3) (.slice p4 X.us.length q4) (.slice p5 X.qs.length q5) u) := T0.out.below BK.out T0.out.x.lt T0.out.u.lt
  clear z0 z1 z2 z3 z4 z5 z6 z7 z8 z9 z10 y0 y1 y2 y3 y4 y5 y6 y7 B0 BK T0 Z0
  have c2 : w1.cell? ⟨w.heap.size + 2, 2, none⟩ = some (.int .i64 k.n1) := by have := K1.out.c2; rw [Nat.zero_add] at this; exact this
  by_cases h0 : k.n1 = 0
  · have N1 : Hid (k.n1 = 0) := h0
    rw [h0] at c2
    go_wp2
    go_ret
    exact ⟨-1, rfl, .inl ⟨N1.out, rfl⟩, B1.out⟩
  have N1 : Hid (k.n1 ≠ 0) := h0
  have h0' : (k.n1 == 0) = false := by rw [beq_eq_false_iff_ne]; exact h0
  clear h0
  have sf : ∀ (a : Addr) (f : Fn) (x y : Array Value) (w : World) (m : Mode), (store a (.func f x y) m).run Tryz.prog w = stored Tryz.prog w a (.func f x y) m := fun a f x y w m => run_store _ w a _ m rfl
  go_upto_region 5 with fail
  clear sf
  have BF : Hid (Below w1.heap.size w1 (w1.alloc (Obj.cells #[.func (Fn.func 179) #[] #[.pointer (some ⟨w.heap.size, 0, none⟩), .pointer (some ⟨w.heap.size + 1, 0, none⟩)]] 234))) := (Below.refl _ _).alloc (Nat.le_refl _) _
  have F2 : Hid ((w1.alloc (Obj.cells #[.func (Fn.func 179) #[] #[.pointer (some ⟨w.heap.size, 0, none⟩), .pointer (some ⟨w.heap.size + 1, 0, none⟩)]] 234)).cell? ⟨w.heap.size + 3, 0, none⟩ = some (.func (Fn.func 179) #[] #[.pointer (some ⟨w.heap.size, 0, none⟩), .pointer (some ⟨w.heap.size + 1, 0, none⟩)])) := cell_of_new Z1.out rfl
  have Z2 : Hid (w.heap.size + 3 < (w1.alloc (Obj.cells #[.func (Fn.func 179) #[] #[.pointer (some ⟨w.heap.size, 0, none⟩), .pointer (some ⟨w.heap.size + 1, 0, none⟩)]] 234)).heap.size) := by have := Z1.out; unfold Hid; simp; omega
  rw [Z1.out]
  generalize (w1.alloc (Obj.cells #[.func (Fn.func 179) #[] #[.pointer (some ⟨w.heap.size, 0, none⟩), .pointer (some ⟨w.heap.size + 1, 0, none⟩)]] 234)) = w2 at *
  have B2 : Hid (Below w.heap.size w w2) := B1.out.trans (BF.out.mono B1.out.size)
  have T2 : Hid (Tb w2 (w.heap.size) (w.heap.size + 1) X (.slice p1 X.gs.length q1) (.slice p2 X.os.length q2) (.slice p3 X.gold.length q3) (.slice p4 X.us.length q4) (.slice p5 X.qs.length q5) u) := T1.out.below BF.out T1.out.x.lt T1.out.u.lt
  have K2 : Hid (w2.cell? ⟨w.heap.size + 2, 3, none⟩ = some (.int .i64 k.n2)) := by have := (K1.out.below BF.out K1.out.lt).c3; rw [Nat.zero_add] at this; exact this
  clear c2 B1 T1 K1 Z1 BF h0'
  obtain ⟨x0, x1, x2, x3, x4, x5, x6, x7, x8⟩ := T2.out.x
  have US : Hid (Unl w (.slice p4 X.us.length q4) X.us) := H.out.slices.2.2.2.1
  go_wp2_with fail
  refine (clone_any _ X.us w2 (US.out.below B2.out) GD.out.2.2.2.2.1).mono ?_
  rintro e w3 ⟨v, rfl, ho, hb⟩
  have O3 : Hid (Uno w3 w2.heap.size v X.us) := ho
  have B3 : Hid (Below w2.heap.size w2 w3) := hb
  have TT : Hid (∀ W, Below w2.heap.size w2 W → Tb W (w.heap.size) (w.heap.size + 1) X (.slice p1 X.gs.length q1) (.slice p2 X.os.length q2) (.slice p3 X.gold.length q3) (.slice p4 X.us.length q4) (.slice p5 X.qs.length q5) u ∧ W.cell? ⟨w.heap.size + 3, 0, none⟩ = some (.func (Fn.func 179) #[] #[.pointer (some ⟨w.heap.size, 0, none⟩), .pointer (some ⟨w.heap.size + 1, 0, none⟩)]) ∧ W.cell? ⟨w.heap.size + 2, 3, none⟩ = some (.int .i64 k.n2)) := fun W hW =>
    ⟨T2.out.below hW T2.out.x.lt T2.out.u.lt, by rw [hW.cell (p := ⟨w.heap.size + 3, 0, none⟩) Z2.out]; exact F2.out, by rw [hW.cell (p := ⟨w.heap.size + 2, 3, none⟩) (show w.heap.size + 2 < w2.heap.size by have := Z2.out; omega)]; exact K2.out⟩
  have PR : Hid (∀ W, Below w2.heap.size w2 W → ∀ h ∈ X.us, Calls Tryz.prog 181 (#[h.val] ++ #[.pointer (some ⟨w.heap.size + 1, 0, none⟩), .pointer (some ⟨w.heap.size + 3, 0, none⟩), .pointer (some ⟨w.heap.size + 2, 0, none⟩)]) W fun e w' => e = .returned (.bool (safeU Wn u k.n2 h)) ∧ Below W.heap.size W w') := fun W hW h hh =>
    safe_fg X u h Wn _ _ _ _ k.n2 _ _ _ _ _ W (TT.out W hW).1 (TT.out W hW).2.1 (TT.out W hW).2.2 GD.out.1 GD.out.2.1 GD.out.2.2.1 GD.out.2.2.2.1 (GD.out.2.2.2.2.2 h hh).1
  clear ho hb x0 x1 x2 x3 x4 x5 x6 x7 x8 F2 K2
  go_wp2_with fail
  refine (del_any 181 (by intro args w; go_simp) v #[.pointer (some ⟨w.heap.size + 1, 0, none⟩), .pointer (some ⟨w.heap.size + 3, 0, none⟩), .pointer (some ⟨w.heap.size + 2, 0, none⟩)] X.us (safeU Wn u k.n2) w3 w2.heap.size O3.out B3.out.size GD.out.2.2.2.2.1 (fun W hW h hh => PR.out W (B3.out.trans hW) h hh)).mono ?_
  rintro e w4 ⟨v4, rfl, ho, hb⟩
  have B4 : Hid (Below w2.heap.size w2 w4) := B3.out.trans hb
  have L4 : Hid (Unl w4 v4 (foesU Wn u k.n2 X.us)) := ho.l
  obtain ⟨a4, c4, rfl⟩ := ho.len
  obtain ⟨hs, hhs⟩ : ∃ hs, foesU Wn u k.n2 X.us = hs := ⟨_, rfl⟩
  have HS : Hid (foesU Wn u k.n2 X.us = hs) := hhs
  have e4 : (X.us.filter (fun o => !safeU Wn u k.n2 o)).length = hs.length := by rw [← hhs]; rfl
  rw [hhs, e4] at L4
  rw [e4]
  clear ho hb e4 hhs O3 B3 PR
  have BW : Hid (Below w.heap.size w w4) := B2.out.trans (B4.out.mono B2.out.size)
  cases hs with
  | nil =>
    simp only [List.length_nil]
    go_wp2
    go_ret
    exact ⟨-1, rfl, .inr (.inl ⟨N1.out, HS.out, rfl⟩), BW.out⟩
  | cons f0 tl =>
    have HM : Hid (∀ h ∈ f0 :: tl, h ∈ X.us) := fun h hh => by rw [← HS.out] at hh; exact (List.mem_filter.1 hh).1
    have TL : Hid (tl.length ≤ 1000000) := by
      have h1 : (foesU Wn u k.n2 X.us).length ≤ X.us.length := List.length_filter_le _ _
      rw [HS.out, List.length_cons] at h1
      have h2 := GD.out.2.2.2.2.1
      unfold Hid
      omega
    have hne : (((f0 :: tl).length : Nat) : Int) ≠ 0 := by rw [List.length_cons]; omega
    have hne' : ((((f0 :: tl).length : Nat) : Int) == 0) = false := by rw [beq_eq_false_iff_ne]; exact hne
    obtain ⟨n, hn⟩ : ∃ n, (f0 :: tl).length = n := ⟨_, rfl⟩
    have HN : Hid ((f0 :: tl).length = n) := hn
    rw [hn] at hne hne' ⊢
    clear hn
    have L5 : Hid (Unl w4 (.slice a4 n c4) (f0 :: tl)) := by rw [← HN.out]; exact L4.out
    clear L4
    go_upto_region 10 with fail
    have BX : Hid (∀ V, Below w2.heap.size w2 V → Bw V (w.heap.size) X (.slice p1 X.gs.length q1) (.slice p2 X.os.length q2) (.slice p3 X.gold.length q3) (.slice p4 X.us.length q4) (.slice p5 X.qs.length q5)) := fun V hV => (TT.out V hV).1.x
    refine wp_region_two [(true, 0), (true, 1), (true, 2), (false, 3), (true, 4), (false, 5)] [(false, 6)] (fun V => Bw V (w.heap.size) X (.slice p1 X.gs.length q1) (.slice p2 X.os.length q2) (.slice p3 X.gold.length q3) (.slice p4 X.us.length q4) (.slice p5 X.qs.length q5)) (by kernel_rfl) (by kernel_rfl) (by kernel_rfl) (by decide +kernel) (by decide +kernel) (BX.out _ B4.out.drew) ?_
    have B5 : Hid (Below w2.heap.size w2 { w4 with drawn := w4.drawn + 1 }) := B4.out.drew
    have L6 : Hid (Unl { w4 with drawn := w4.drawn + 1 } (.slice a4 n c4) (f0 :: tl)) := L5.out.below ((Below.refl _ _).drew)
    generalize ({ w4 with drawn := w4.drawn + 1 } : World) = w5 at *
    clear B4 L5 BW
    refine headT_read rfl (.agg #[.int .i64 X.turn, .int .i64 X.next, .int .i64 X.wide, .int .i64 X.high, .slice p1 X.gs.length q1, .slice p2 X.os.length q2, .slice p3 X.gold.length q3, .slice p4 X.us.length q4, .slice p5 X.qs.length q5]) (by go_simp) (fun V hV => by obtain ⟨x0, x1, x2, x3, x4, x5, x6, x7, x8⟩ := hV; go_simp) ?_
    go_simp
    refine headT_read rfl (.slice a4 n c4) (by go_simp) (fun V hV => by go_simp) ?_
    go_simp
    refine headT_read rfl (.func (Fn.func 183) #[] #[.pointer (some ⟨w.heap.size + 3, 0, none⟩)]) (by go_simp) (fun V hV => by go_simp) ?_
    go_simp
    refine headT_call rfl 184 #[.slice a4 n c4, .func (Fn.func 183) #[] #[.pointer (some ⟨w.heap.size + 3, 0, none⟩)]] (by go_simp) (by go_simp) ?_
    refine (min_gen 183 (by intro args w; go_simp) _ #[.pointer (some ⟨w.heap.size + 3, 0, none⟩)] f0 tl (keyU Wn u) (soonU Wn u) w5 L6.out TL.out (fun a ha b hb => soon_key (GD.out.2.2.2.2.2 a (HM.out a ha)).2 (GD.out.2.2.2.2.2 b (HM.out b hb)).2) (fun W hW a ha b hb => ?_)).mono ?_
    · have hWW := B5.out.trans (hW.mono B5.out.size)
      exact soon_fg X u a b Wn _ _ _ _ _ _ _ _ W (TT.out W hWW).1 (TT.out W hWW).2.1 GD.out.1 GD.out.2.1 GD.out.2.2.1 GD.out.2.2.2.1 (GD.out.2.2.2.2.2 a (HM.out a ha)).1 (GD.out.2.2.2.2.2 b (HM.out b hb)).1 (GD.out.2.2.2.2.2 a (HM.out a ha)).2 (GD.out.2.2.2.2.2 b (HM.out b hb)).2
    rintro e w6 ⟨rfl, hb⟩
    have B6 : Hid (Below w2.heap.size w2 w6) := B5.out.trans (hb.mono B5.out.size)
    refine ⟨_, rfl, BX.out _ B6.out, ?_⟩
    clear hb L6 B5
    obtain ⟨m, hm⟩ : ∃ m, minU (keyU Wn u) f0 tl = m := ⟨_, rfl⟩
    have MM : Hid (minU (keyU Wn u) f0 tl = m) := hm
    rw [hm]
    clear hm
    unfold UnV.val
    have hfi := fun W => field_id m W
    go_simp
    refine headT_read rfl (.int .i64 m.id) (by go_simp) (fun V hV => by go_simp) ?_
    go_simp
    refine headT_call rfl 77 #[.agg #[.int .i64 X.turn, .int .i64 X.next, .int .i64 X.wide, .int .i64 X.high, .slice p1 X.gs.length q1, .slice p2 X.os.length q2, .slice p3 X.gold.length q3, .slice p4 X.us.length q4, .slice p5 X.qs.length q5], .int .i64 m.id] (by go_simp) (by go_simp) ?_
    refine (wfind_any _ X m.id w6 (H.out.below (B2.out.trans (B6.out.mono B2.out.size)))).mono ?_
    rintro e w7 ⟨r, rfl, hf, hb⟩
    have B7 : Hid (Below w2.heap.size w2 w7) := B6.out.trans (hb.mono B6.out.size)
    have RR : Hid (TgSays Wn u k X.us r) := .inr (.inr ⟨N1.out, f0, tl, HS.out, by rw [MM.out]; exact hf⟩)
    refine ⟨_, rfl, BX.out _ B7.out, ?_⟩
    clear hb hf hfi
    go_simp
    refine sched_value rfl (.int .i64 r) w7 (by go_simp) (by go_simp) trivial ?_
    go_simp
    unfold wpSched
    go_wp2
    go_ret
    exact ⟨r, rfl, RR.out, B2.out.trans (B7.out.mono B2.out.size)⟩

end Go.Proofs.YtoabhfipikkkeaaGreatDoor

namespace Go.Proofs.YtoabhfipikkkeaaGreatDoor
open Go.RowKit
set_option linter.unusedVariables false

theorem right_fit {ks : List KV} {X : WV} (h : WRight ks X) : ∀ u ∈ X.us, InF u ∧ 0 ≤ u.life ∧ u.life ≤ 1000000 := by
  intro u hu
  obtain ⟨i, hi⟩ := List.mem_iff_getElem?.1 hu
  obtain ⟨k, f⟩ := h.fine hi
  obtain ⟨Wn, Hn, e1, e2, G⟩ := h.good
  have h1 := f.at_
  have h2 := f.life
  have h3 := kind_nums h.kinds (List.mem_of_getElem? f.kk)
  have h4 := G.gl
  have h5 := G.pos.2
  exact ⟨⟨h1.1, by omega⟩, by omega, by omega⟩
/-- what Target tells. -/
def TarSays (ks : List KV) (X : WV) (i t F : Int) : Prop :=
  (Wd.wfault ks X ≠ 0 ∧ F = Wd.wfault ks X ∧ t = 0) ∨ (Wd.wfault ks X = 0 ∧ ¬ (0 ≤ i ∧ i < (X.us.length : Int)) ∧ F = 6 ∧ t = 0)
  ∨ (Wd.wfault ks X = 0 ∧ F = 0 ∧ ∃ (n Wn : Nat) (u : UnV) (k : KV), i = n ∧ X.us[n]? = some u ∧ X.wide = (Wn : Nat) ∧ 0 < Wn ∧ Wn ≤ 12 ∧ ks[u.kind.toNat]? = some k ∧ TgSays Wn u k X.us t)
end Go.Proofs.YtoabhfipikkkeaaGreatDoor

namespace Go.Proofs.YtoabhfipikkkeaaGreatDoor
open Go.RowKit
set_option linter.unusedVariables false

theorem tgtOf_some {ks : List KV} {W : Nat} {us : List UnV} {u : UnV} {k : KV} (hk : ks[u.kind.toNat]? = some k) : tgtOf ks W us u = tgt W u k us := by
  unfold tgtOf; rw [hk]
theorem hitOf_some {ks : List KV} {u : UnV} {k : KV} (hk : ks[u.kind.toNat]? = some k) : hitOf ks u = k.n1 := by
  unfold hitOf; rw [hk]

set_option maxRecDepth 100000 in
set_option maxHeartbeats 16000000 in
theorem strike_some (vk : Value) (ks : List KV) (X : WV) (us : List UnV) (g1 g2 g3 g5 : Value) (g cap Wn : Nat) (rest : List Value) (w : World) (hX : WRight ks X) (hus : X.us = us) (hW : X.wide = (Wn : Nat)) (h1 : 0 < Wn) (h2 : Wn ≤ 12) (hne : us ≠ [])
    (hk : Kl w vk ks) (hw : Wl w (.agg #[.int .i64 X.turn, .int .i64 X.next, .int .i64 X.wide, .int .i64 X.high, g1, g2, g3, .slice (some ⟨g, 0, none⟩) us.length cap, g5]) X) (hub : Ub w g us rest) :
    Calls Tryz.prog 106 #[vk, .agg #[.int .i64 X.turn, .int .i64 X.next, .int .i64 X.wide, .int .i64 X.high, g1, g2, g3, .slice (some ⟨g, 0, none⟩) us.length cap, g5]] w fun e w' => ∃ ev, e = .returned ev ∧ Evo w' w.heap.size ev (strikes ks Wn us us).2 ∧ Ub w' g (hurt us (strikes ks Wn us us).1) rest ∧ Kp g w w' := by
  obtain ⟨xu, hxu⟩ : ∃ x : Addr, (⟨g, 0, none⟩ : Addr) = x := ⟨_, rfl⟩
  have HXU : Hid ((⟨g, 0, none⟩ : Addr) = xu) := hxu
  have HUB : Hid (Ub w g us rest) := hub
  have K : Hid (Kl w vk ks) := hk
  have R : Hid (WRight ks X ∧ X.us = us ∧ X.wide = (Wn : Nat) ∧ 0 < Wn ∧ Wn ≤ 12 ∧ us ≠ []) := ⟨hX, hus, hW, h1, h2, hne⟩
  have FT : Hid (∀ h ∈ us, InF h ∧ 0 ≤ h.life ∧ h.life ≤ 1000000) := by rw [← hus]; exact right_fit hX
  have hul : us.length ≤ 40 := by rw [← hus]; exact hX.ul
  have UC : Hid (∀ (i : Nat) k, us[i]? = some k → Unc w (xu.add (i * 8)) k) := fun i k hi => by
    rw [← hxu, Addr.add_lit, Nat.zero_add]
    exact hub.unc hi
  have UL : Hid (xu.block < w.heap.size ∧ g < w.heap.size) := ⟨by rw [← hxu]; exact hub.lt, hub.lt⟩
  have hcap : us.length ≤ cap ∧ cap ≤ 9223372036854775807 := by
    obtain ⟨a, c, he, h1, h2, -⟩ := hw.slices.2.2.2.1
    injection he with _ _ he
    subst he
    rw [hus] at h1
    exact ⟨h1, h2⟩
  obtain ⟨hcap1, hcap2⟩ := hcap
  have hlen : 0 < us.length := List.length_pos_iff.2 hne
  have HL : Hid (0 < us.length) := hlen
  rw [hxu] at hw ⊢
  have H : Hid (Wl w (.agg #[.int .i64 X.turn, .int .i64 X.next, .int .i64 X.wide, .int .i64 X.high, g1, g2, g3, .slice (some xu) us.length cap, g5]) X) := hw
  obtain ⟨pk, qk, rfl, ck1, ck2, kc⟩ := hk
  have hkn0 : ks ≠ [] := by
    intro h
    obtain ⟨u, hu⟩ : ∃ u, us[0]? = some u := ⟨_, List.getElem?_eq_getElem hlen⟩
    rw [← hus] at hu
    obtain ⟨k, f⟩ := hX.fine hu
    have := f.kk
    rw [h] at this
    simp at this
  obtain ⟨xk, rfl, hxl, hxc⟩ := kc hkn0
  have KC : Hid ((∀ (i : Nat) k, ks[i]? = some k → Kc w (xk.add (i * 11)) k) ∧ xk.block < w.heap.size) := ⟨hxc, hxl⟩
  clear hub hX hus hW h1 h2 hne hw kc hkn0 hxc hxl hxu hlen
  go_enter Tryz.func106, Tryz.ntmps106
  go_upto_region 2 with fail
  have B0 : Hid (Below w.heap.size w (w.alloc (Obj.cells #[.int .i64 X.turn, .int .i64 X.next, .int .i64 X.wide, .int .i64 X.high, g1, g2, g3, .slice (some xu) us.length cap, g5] 29))) := (Below.refl _ _).alloc (Nat.le_refl _) _
  have X0 : Hid (Bw (w.alloc (Obj.cells #[.int .i64 X.turn, .int .i64 X.next, .int .i64 X.wide, .int .i64 X.high, g1, g2, g3, .slice (some xu) us.length cap, g5] 29)) w.heap.size X g1 g2 g3 (.slice (some xu) us.length cap) g5) := Bw.mk' X _ _ _ _ _ rfl
  generalize (w.alloc (Obj.cells #[.int .i64 X.turn, .int .i64 X.next, .int .i64 X.wide, .int .i64 X.high, g1, g2, g3, .slice (some xu) us.length cap, g5] 29)) = w0 at *
  have x7 := X0.out.c7
  obtain ⟨w1, hmk, hbk, hb1, hs1⟩ := makeI us.length w0 (by omega)
  go_upto_region 3 with fail
  have BK : Hid (Bk w1 w0.heap.size (List.replicate us.length 0) #[]) := hbk
  have B1 : Hid (Below w.heap.size w w1) := B0.out.trans (hb1.mono B0.out.size)
  have X1 : Hid (Bw w1 w.heap.size X g1 g2 g3 (.slice (some xu) us.length cap) g5) := X0.out.below hb1 X0.out.lt
  obtain ⟨lb, hlb⟩ : ∃ z, w0.heap.size = z := ⟨_, rfl⟩
  have LBG : Hid (w.heap.size < lb ∧ w1.heap.size = lb + 1) := ⟨by rw [← hlb]; exact X0.out.lt, by rw [← hlb]; exact hs1⟩
  rw [hlb] at BK ⊢
  clear hmk hbk hb1 hs1 x7 hlb B0 X0
  have x7 := X1.out.c7
  go_upto_region 4 with fail
  clear x7
  go_loopw [5, 19] (fun v5 v19 V => ∃ (n : Nat) (ev : Value), v19 = .int .i64 (n : Nat) ∧ ev = v5 ∧ n ≤ us.length ∧ Bk V lb (strikes ks Wn us (us.take n)).1 #[] ∧ Evo V w1.heap.size ev (strikes ks Wn us (us.take n)).2 ∧ (strikes ks Wn us (us.take n)).2.length ≤ n ∧ Kp lb w1 V) (fun _ v19 _ => us.length - (intOf v19).toNat)
  case atStart => exact ⟨0, _, rfl, rfl, Nat.zero_le _, BK.out, Evo.nil _ _, Nat.le_refl _, Kp.refl _ _⟩
  case round =>
    obtain ⟨n, ev, rfl, rfl, hn, hbk, hev, hel, hkp⟩ := hrel
    have L1 : Hid (Bk wr lb (strikes ks Wn us (us.take n)).1 #[]) := hbk
    have E1 : Hid (Evo wr w1.heap.size ev (strikes ks Wn us (us.take n)).2 ∧ (strikes ks Wn us (us.take n)).2.length ≤ n) := ⟨hev, hel⟩
    have KP : Hid (Kp lb w1 wr) := hkp
    have BL : Hid (Below lb w1 wr) := hkp.below (Below.refl _ _) (by have := LBG.out.2; omega) (Nat.le_refl _)
    have BB : Hid (Below w.heap.size w wr) := B1.out.trans (BL.out.mono (by have := LBG.out.1; omega))
    have XR : Hid (Bw wr w.heap.size X g1 g2 g3 (.slice (some xu) us.length cap) g5) := X1.out.below BL.out LBG.out.1
    clear hbk hev hel hkp BK
    by_cases h0 : n = us.length
    · subst h0
      have hx9 := HXU.out
      subst hx9
      have hnl : ¬ (((us.length : Nat) : Int) < (us.length : Nat)) := by omega
      rw [List.take_of_length_le (Nat.le_refl _)] at L1 E1
      obtain ⟨ls, hls⟩ : ∃ l, (strikes ks Wn us us).1 = l := ⟨_, rfl⟩
      obtain ⟨es, hes⟩ : ∃ l, (strikes ks Wn us us).2 = l := ⟨_, rfl⟩
      have LS : Hid (ls.length = us.length ∧ Upto 40000 ls ∧ (strikes ks Wn us us).1 = ls ∧ (strikes ks Wn us us).2 = es) := ⟨by rw [← hls]; exact strikes_len', by
        have := strikes_upto (W := Wn) (us := us) R.out.1.kinds us.length (Nat.le_refl _)
        rw [List.take_of_length_le (Nat.le_refl _), hls] at this
        intro x hx
        have := this x hx
        omega, hls, hes⟩
      rw [hls] at L1
      rw [hes] at E1
      generalize wr = w2 at *
      have UB : Hid (Ub w2 g us rest) := HUB.out.below BB.out HUB.out.lt
      have NG : Hid (g < w.heap.size ∧ w.heap.size < lb) := ⟨UL.out.2, LBG.out.1⟩
      clear hls hes hnl
      go_upto_region 12 with fail
      go_loopw [56] (fun v56 V => ∃ (n : Nat), v56 = .int .i64 (n : Nat) ∧ n ≤ us.length ∧ Ub V g (hurtN us ls n) rest ∧ Kp g w2 V) (fun v56 _ => us.length - (intOf v56).toNat)
      case atStart => exact ⟨0, rfl, Nat.zero_le _, by rw [hurtN_zero]; exact UB.out, Kp.refl _ _⟩
      case round =>
        obtain ⟨n, rfl, hn, hub, hkp⟩ := hrel
        have U2 : Hid (Ub wr g (hurtN us ls n) rest) := hub
        have P2 : Hid (Kp g w2 wr) := hkp
        have L2 : Hid (Bk wr lb ls #[]) := L1.out.kp hkp (by have := NG.out; omega)
        have X2 : Hid (Bw wr w.heap.size X g1 g2 g3 (.slice (some ⟨g, 0, none⟩) us.length cap) g5) := XR.out.kp9 hkp (by have := NG.out; omega)
        clear hub hkp
        by_cases h0 : n = us.length
        · subst h0
          have hnl : ¬ (((us.length : Nat) : Int) < (us.length : Nat)) := by omega
          go_wp2
          go_ret
          refine ⟨ev, rfl, ?_, ?_, ?_⟩
          · rw [LS.out.2.2.2]
            exact (E1.out.1.kp9 P2.out (by have := NG.out; have := LBG.out.2; omega)).mono (by have := LBG.out; omega)
          · have := U2.out
            rw [hurtN_all LS.out.1] at this
            rw [LS.out.2.2.1]
            exact this
          · exact (Kp.of BB.out).trans P2.out
        · have hnl : n < us.length := by omega
          have hni : ((n : Nat) : Int) < (us.length : Nat) := by omega
          obtain ⟨u, hu⟩ : ∃ u, us[n]? = some u := ⟨_, List.getElem?_eq_getElem hnl⟩
          obtain ⟨x, hx⟩ : ∃ x, ls[n]? = some x := ⟨_, List.getElem?_eq_getElem (by rw [LS.out.1]; exact hnl)⟩
          have xb := LS.out.2.1 x (List.mem_of_getElem? hx)
          have ub := (FT.out u (List.mem_of_getElem? hu)).2
          have wsub : IntKind.i64.wrap (u.life - x) = u.life - x := by rw [IntKind.wrap_i64]; omega
          have WN : IntKind.i64.wrap ((n : Nat) + 1 : Int) = ((n : Nat) : Int) + 1 := by rw [IntKind.wrap_i64]; omega
          have cl := L2.out.cell hx
          have x7 := X2.out.c7
          have c4 := (U2.out.unc (hurtN_at LS.out.1 hu)).c4
          have t4 := U2.out.thaw (n * 8 + 4)
          have U3 : Hid (Ub (wr.setCell ⟨g, n * 8 + 4, none⟩ (.int .i64 (u.life - x))) g (hurtN us ls (n + 1)) rest) := by
            unfold Hid
            rw [← hurtN_next LS.out.1 hu hx]
            exact U2.out.set4 (hurtN_at LS.out.1 hu) _
          have P3 : Hid (Kp g w2 (wr.setCell ⟨g, n * 8 + 4, none⟩ (.int .i64 (u.life - x)))) := P2.out.trans (Kp.set _ _ _)
          clear xb ub hu hx
          go_wp2
          go_round
          case rel => exact ⟨n + 1, by go_num, by omega, U3.out, P3.out⟩
          case measure => simp [intOf]; omega
    · have hnl : n < us.length := by omega
      have hni : ((n : Nat) : Int) < (us.length : Nat) := by omega
      obtain ⟨u, hu⟩ : ∃ u, us[n]? = some u := ⟨_, List.getElem?_eq_getElem hnl⟩
      obtain ⟨k, fu⟩ := R.out.1.fine (show X.us[n]? = some u by rw [R.out.2.1]; exact hu)
      obtain ⟨kn, hkn⟩ : ∃ n : Nat, u.kind = n := ⟨u.kind.toNat, by have := fu.k0.1; omega⟩
      have hkk : ks[kn]? = some k := by have := fu.kk; rw [hkn, Int.toNat_natCast] at this; exact this
      have hkl : kn < ks.length := (List.getElem?_eq_some_iff.1 hkk).1
      have UK : Hid (us[n]? = some u ∧ u.kind = (kn : Nat) ∧ ks[u.kind.toNat]? = some k ∧ 0 ≤ u.kind) := ⟨hu, hkn, fu.kk, fu.k0.1⟩
      have KK : Hid (Kc w (xk.add (kn * 11)) k ∧ (xk.add (kn * 11)).block < w.heap.size) := ⟨KC.out.1 kn k hkk, by rw [add_block]; exact KC.out.2⟩
      have NX := strikes_next (ks := ks) (W := Wn) (us := us) hu
      have WN : IntKind.i64.wrap ((n : Nat) + 1 : Int) = ((n : Nat) : Int) + 1 := by rw [IntKind.wrap_i64]; omega
      obtain ⟨y0, y1, y2, y3, y4, y5, y6, y7⟩ := (UC.out n u hu).below BB.out (by rw [add_block]; exact UL.out.1)
      clear hu fu hkn hkk
      have NXH : Hid (strikes ks Wn us (us.take (n + 1)) = stk ks Wn us (strikes ks Wn us (us.take n)) u) := NX
      clear NX
      go_upto_region 6 with fail
      have BA : Hid (Below wr.heap.size wr (wr.alloc (Obj.cells #[.int .i64 u.id, .int .i64 u.player, .int .i64 u.kind, .int .i64 u.at_, .int .i64 u.life, .int .i64 u.load, .int .i64 u.task, .int .i64 u.goal] 63))) := (Below.refl _ _).alloc (Nat.le_refl _) _
      obtain ⟨bu, hbu⟩ : ∃ z, wr.heap.size = z := ⟨_, rfl⟩
      have U2 : Hid (Unc (wr.alloc (Obj.cells #[.int .i64 u.id, .int .i64 u.player, .int .i64 u.kind, .int .i64 u.at_, .int .i64 u.life, .int .i64 u.load, .int .i64 u.task, .int .i64 u.goal] 63)) ⟨bu, 0, none⟩ u) := Unc.mk' u hbu
      have VB : Hid (∀ b, ev.ownBlock = some b → b < bu) := fun b hb => by rw [← hbu]; exact (E1.out.1.block b hb).2
      have BUL : Hid (w1.heap.size ≤ bu) := by unfold Hid; rw [← hbu]; exact KP.out.size
      rw [hbu]
      generalize (wr.alloc (Obj.cells #[.int .i64 u.id, .int .i64 u.player, .int .i64 u.kind, .int .i64 u.at_, .int .i64 u.life, .int .i64 u.load, .int .i64 u.task, .int .i64 u.goal] 63)) = w2 at *
      have B2 : Hid (Below w.heap.size w w2) := BB.out.trans (BA.out.mono BB.out.size)
      have L2 : Hid (Bk w2 lb (strikes ks Wn us (us.take n)).1 #[]) := L1.out.below BA.out
      have E2 : Hid (Evo w2 w1.heap.size ev (strikes ks Wn us (us.take n)).2) := E1.out.1.below BA.out
      have P2 : Hid (Kp lb w1 w2) := KP.out.trans (Kp.of BA.out)
      have X2 : Hid (Bw w2 w.heap.size X g1 g2 g3 (.slice (some xu) us.length cap) g5) := XR.out.below BA.out XR.out.lt
      clear y0 y1 y2 y3 y4 y5 y6 y7 hbu BA BB L1 KP XR BL
      obtain ⟨x0, x1, x2, x3, x4, x5, x6, x7, x8⟩ := X2.out
      obtain ⟨y0, y1, y2, y3, y4, y5, y6, y7⟩ := U2.out
      go_wp2_with fail
      refine (target_any _ _ ks X u Wn k w2 (K.out.below B2.out) (H.out.below B2.out) R.out.2.2.1 R.out.2.2.2.1 R.out.2.2.2.2.1 (by rw [R.out.2.1]; omega) (FT.out u (List.mem_of_getElem? UK.out.1)).1 UK.out.2.2.2 UK.out.2.2.1 (by rw [R.out.2.1]; exact FT.out)).mono ?_
      rintro e w3 ⟨t, rfl, ht, hb⟩
      have TQ : Hid (t = tgtOf ks Wn us u) := by unfold Hid; rw [tgtOf_some UK.out.2.2.1]; rw [R.out.2.1] at ht; exact tg_eq ht
      have TW := tg_who R.out.1 ht
      rw [R.out.2.1] at TW
      have B3 : Hid (Below w.heap.size w w3) := B2.out.trans (hb.mono B2.out.size)
      have L3 : Hid (Bk w3 lb (strikes ks Wn us (us.take n)).1 #[]) := L2.out.below hb
      have E3 : Hid (Evo w3 w1.heap.size ev (strikes ks Wn us (us.take n)).2) := E2.out.below hb
      have P3 : Hid (Kp lb w1 w3) := P2.out.trans (Kp.of hb)
      have X3 : Hid (Bw w3 w.heap.size X g1 g2 g3 (.slice (some xu) us.length cap) g5) := X2.out.below hb X2.out.lt
      have U3 : Hid (Unc w3 ⟨bu, 0, none⟩ u) := U2.out.below hb U2.out.lt
      clear hb ht x0 x1 x2 x3 x4 x5 x6 x7 x8 y0 y1 y2 y3 y4 y5 y6 y7 B2 L2 E2 P2 X2 U2
      rcases TW with ⟨rfl, -⟩ | ⟨hn1, tn, x, f0, tl, rfl, hx, -, -⟩
      · have SAME : Hid (strikes ks Wn us (us.take (n + 1)) = strikes ks Wn us (us.take n)) := by
          unfold Hid
          rw [NXH.out]
          unfold stk
          rw [← TQ.out, if_pos rfl]
        go_wp2
        go_round
        case rel => exact ⟨n + 1, _, by go_num, rfl, by omega, by rw [SAME.out]; exact L3.out, by rw [SAME.out]; exact E3.out, by rw [SAME.out]; have := E1.out.2; omega, P3.out⟩
        case measure => simp [intOf]; omega
      · have htl : tn < us.length := (List.getElem?_eq_some_iff.1 hx).1
        obtain ⟨ls, hls⟩ : ∃ l, (strikes ks Wn us (us.take n)).1 = l := ⟨_, rfl⟩
        obtain ⟨es, hes⟩ : ∃ l, (strikes ks Wn us (us.take n)).2 = l := ⟨_, rfl⟩
        have hll : ls.length = us.length := by rw [← hls]; exact strikes_len'
        obtain ⟨ln, hln⟩ : ∃ x, ls[tn]? = some x := ⟨_, List.getElem?_eq_getElem (by omega)⟩
        have UPT := strikes_upto (W := Wn) (us := us) R.out.1.kinds n hn
        rw [hls] at UPT
        have lnb := UPT ln (List.mem_of_getElem? hln)
        have hitb := hit_in R.out.1.kinds u
        rw [hitOf_some UK.out.2.2.1] at hitb
        have wadd : IntKind.i64.wrap (ln + k.n1) = ln + k.n1 := by rw [IntKind.wrap_i64]; omega
        have NEW : Hid (strikes ks Wn us (us.take (n + 1)) = (ls.set tn (ln + k.n1), es ++ [⟨2, u.id, x.id⟩])) := by
          unfold Hid
          rw [NXH.out]
          unfold stk
          rw [← TQ.out, if_neg (by omega), Int.toNat_natCast, hitOf_some UK.out.2.2.1, hls, hes, hx, List.getD_eq_getElem?_getD, hln]
          rfl
        rw [hls] at L3
        rw [hes] at E3
        have EL : Hid (es.length ≤ n) := by rw [← hes]; exact E1.out.2
        have htn : ¬ ((tn : Nat) : Int) = -1 := by omega
        have htb : (((tn : Nat) : Int) == -1) = false := by rw [beq_eq_false_iff_ne]; exact htn
        have UT : Hid (Unc w (xu.add (tn * 8)) x ∧ (xu.add (tn * 8)).block < w.heap.size) := ⟨UC.out tn x hx, by rw [add_block]; exact UL.out.1⟩
        have htu : ((tn : Nat) : Int) < (us.length : Nat) := by omega
        have LNB : Hid (ls.length = us.length ∧ ls[tn]? = some ln) := ⟨hll, hln⟩
        clear hx NXH UPT lnb hitb hn1 E1 hls hes hll hln TQ htn
        go_upto_region 8 with fail
        have CB : Hid (∀ V, Below w.heap.size w V → Bk V lb ls #[] → Unc V ⟨bu, 0, none⟩ u → (V.cell? ⟨lb, tn, none⟩ = some (.int .i64 ln) ∧ V.cell? ⟨bu, 2, none⟩ = some (.int .i64 (kn : Nat)) ∧ V.cell? ⟨(xk.add (kn * 11)).block, (xk.add (kn * 11)).off + 2, none⟩ = some (.int .i64 k.n1))) := fun V hb hl hu => ⟨hl.cell LNB.out.2, by have := hu.c2; rw [Nat.zero_add, UK.out.2.1] at this; exact this, (KK.out.1.below hb KK.out.2).c2⟩
        refine wp_region_two [(true, 0), (true, 1), (true, 2), (true, 3), (true, 4), (true, 5), (true, 6), (true, 7), (true, 8), (true, 9), (true, 10), (true, 11)] [(false, 12)] (fun V => V.cell? ⟨lb, tn, none⟩ = some (.int .i64 ln) ∧ V.cell? ⟨bu, 2, none⟩ = some (.int .i64 (kn : Nat)) ∧ V.cell? ⟨(xk.add (kn * 11)).block, (xk.add (kn * 11)).off + 2, none⟩ = some (.int .i64 k.n1)) (by kernel_rfl) (by kernel_rfl) (by kernel_rfl) (by decide +kernel) (by decide +kernel) (CB.out _ B3.out.drew (L3.out.below ((Below.refl _ _).drew)) (U3.out.below ((Below.refl _ _).drew) U3.out.lt)) ?_
        have D4 : Hid (Below w3.heap.size w3 { w3 with drawn := w3.drawn + 1 }) := (Below.refl _ _).drew
        generalize ({ w3 with drawn := w3.drawn + 1 } : World) = w4 at *
        have B4 : Hid (Below w.heap.size w w4) := B3.out.trans (D4.out.mono B3.out.size)
        have L4 : Hid (Bk w4 lb ls #[]) := L3.out.below D4.out
        have E4 : Hid (Evo w4 w1.heap.size ev es) := E3.out.below D4.out
        have P4 : Hid (Kp lb w1 w4) := P3.out.trans (Kp.of D4.out)
        have X4 : Hid (Bw w4 w.heap.size X g1 g2 g3 (.slice (some xu) us.length cap) g5) := X3.out.below D4.out X3.out.lt
        have U4 : Hid (Unc w4 ⟨bu, 0, none⟩ u) := U3.out.below D4.out U3.out.lt
        clear B3 L3 E3 P3 X3 U3 D4
        refine headT_read rfl (.slice (some ⟨lb, 0, none⟩) us.length us.length) (by go_simp) (fun V hV => by go_simp) ?_
        go_simp
        refine headT_read rfl (.int .i64 (tn : Nat)) (by go_simp) (fun V hV => by go_simp) ?_
        go_simp
        refine headT_read rfl (.pointer (some ⟨lb, tn, none⟩)) (by go_simp) (fun V hV => by go_simp) ?_
        go_simp
        refine headT_read rfl (.int .i64 ln) (by go_simp) (fun V hV => by obtain ⟨d1, d2, d3⟩ := hV; go_simp) ?_
        go_simp
        refine headT_read rfl (.slice (some xk) ks.length qk) (by go_simp) (fun V hV => by go_simp) ?_
        go_simp
        refine headT_read rfl (.pointer (some ⟨bu, 2, none⟩)) (by go_simp) (fun V hV => by go_simp) ?_
        go_simp
        refine headT_read rfl (.int .i64 (kn : Nat)) (by go_simp) (fun V hV => by obtain ⟨d1, d2, d3⟩ := hV; go_simp) ?_
        go_simp
        refine headT_read rfl (.pointer (some (xk.add (kn * 11)))) (by go_simp) (fun V hV => by go_simp) ?_
        go_simp
        refine headT_read rfl (.pointer (some ⟨(xk.add (kn * 11)).block, (xk.add (kn * 11)).off + 2, none⟩)) (by go_simp) (fun V hV => by go_simp) ?_
        go_simp
        refine headT_read rfl (.int .i64 k.n1) (by go_simp) (fun V hV => by obtain ⟨d1, d2, d3⟩ := hV; go_simp) ?_
        go_simp
        refine headT_read rfl (.int .i64 (ln + k.n1)) (by go_simp) (fun V hV => by go_simp) ?_
        go_simp
        refine headT_read rfl (.pointer (some ⟨lb, tn, none⟩)) (by go_simp) (fun V hV => by go_simp) ?_
        go_simp
        unfold wpHeadT
        have t4 := L4.out.thaw tn
        have c4 := L4.out.cell LNB.out.2
        have L5 : Hid (Bk (w4.setCell ⟨lb, tn, none⟩ (.int .i64 (ln + k.n1))) lb (ls.set tn (ln + k.n1)) #[]) := L4.out.set tn _ (by rw [LNB.out.1]; omega)
        have K5 : Hid (Kp lb w4 (w4.setCell ⟨lb, tn, none⟩ (.int .i64 (ln + k.n1)))) := Kp.set _ _ _
        refine sched_skip rfl (w4.setCell ⟨lb, tn, none⟩ (.int .i64 (ln + k.n1))) (by go_simp) (by go_simp) trivial ?_
        go_simp
        clear t4 c4
        generalize (w4.setCell ⟨lb, tn, none⟩ (.int .i64 (ln + k.n1))) = w5 at *
        have B5 : Hid (Below w.heap.size w w5) := K5.out.below B4.out B4.out.size (by have := LBG.out.1; omega)
        have E5 : Hid (Evo w5 w1.heap.size ev es) := E4.out.kp9 K5.out (by have := LBG.out.2; omega)
        have P5 : Hid (Kp lb w1 w5) := P4.out.trans K5.out
        have X5 : Hid (Bw w5 w.heap.size X g1 g2 g3 (.slice (some xu) us.length cap) g5) := X4.out.kp9 K5.out (by have := LBG.out.1; omega)
        have U5 : Hid (Unc w5 ⟨bu, 0, none⟩ u) := U4.out.kp9 K5.out (by have := LBG.out.2; have := BUL.out; show bu ≠ lb; omega)
        unfold wpSched
        clear B4 L4 E4 P4 X4 U4 K5 CB
        go_upto_region 9 with fail
        have CB : Hid (∀ V, Below w.heap.size w V → Bw V w.heap.size X g1 g2 g3 (.slice (some xu) us.length cap) g5 → Unc V ⟨bu, 0, none⟩ u → (V.cell? ⟨bu, 0, none⟩ = some (.int .i64 u.id) ∧ V.cell? ⟨w.heap.size, 7, none⟩ = some (.slice (some xu) us.length cap) ∧ V.cell? (xu.add (tn * 8)) = some (.int .i64 x.id))) := fun V hb hx hu => ⟨hu.c0, hx.c7, (UT.out.1.below hb UT.out.2).c0⟩
        refine wp_region_two [(true, 0), (true, 1), (true, 2), (true, 3), (true, 4), (true, 5), (true, 6), (true, 7), (true, 8), (true, 9), (false, 10), (false, 11)] [(false, 12)] (fun V => V.cell? ⟨bu, 0, none⟩ = some (.int .i64 u.id) ∧ V.cell? ⟨w.heap.size, 7, none⟩ = some (.slice (some xu) us.length cap) ∧ V.cell? (xu.add (tn * 8)) = some (.int .i64 x.id)) (by kernel_rfl) (by kernel_rfl) (by kernel_rfl) (by decide +kernel) (by decide +kernel) (CB.out _ B5.out.drew (X5.out.below ((Below.refl _ _).drew) X5.out.lt) (U5.out.below ((Below.refl _ _).drew) U5.out.lt)) ?_
        have D6 : Hid (Below w5.heap.size w5 { w5 with drawn := w5.drawn + 1 }) := (Below.refl _ _).drew
        generalize ({ w5 with drawn := w5.drawn + 1 } : World) = w6 at *
        have B6 : Hid (Below w.heap.size w w6) := B5.out.trans (D6.out.mono B5.out.size)
        have L6 : Hid (Bk w6 lb (ls.set tn (ln + k.n1)) #[]) := L5.out.below D6.out
        have E6 : Hid (Evo w6 w1.heap.size ev es) := E5.out.below D6.out
        have P6 : Hid (Kp lb w1 w6) := P5.out.trans (Kp.of D6.out)
        have X6 : Hid (Bw w6 w.heap.size X g1 g2 g3 (.slice (some xu) us.length cap) g5) := X5.out.below D6.out X5.out.lt
        have U6 : Hid (Unc w6 ⟨bu, 0, none⟩ u) := U5.out.below D6.out U5.out.lt
        clear B5 L5 E5 P5 X5 U5 D6
        refine headT_read rfl (ev) (by go_simp) (fun V hV => by go_simp) ?_
        go_simp
        refine headT_read rfl (.pointer (some ⟨bu, 0, none⟩)) (by go_simp) (fun V hV => by go_simp) ?_
        go_simp
        refine headT_read rfl (.int .i64 u.id) (by go_simp) (fun V hV => by obtain ⟨d1, d2, d3⟩ := hV; go_simp) ?_
        go_simp
        refine headT_read rfl (.pointer (some ⟨w.heap.size, 7, none⟩)) (by go_simp) (fun V hV => by go_simp) ?_
        go_simp
        refine headT_read rfl (.slice (some xu) us.length cap) (by go_simp) (fun V hV => by obtain ⟨d1, d2, d3⟩ := hV; go_simp) ?_
        go_simp
        refine headT_read rfl (.int .i64 (tn : Nat)) (by go_simp) (fun V hV => by go_simp) ?_
        go_simp
        refine headT_read rfl (.pointer (some (xu.add (tn * 8)))) (by go_simp) (fun V hV => by go_simp) ?_
        go_simp
        refine headT_read rfl (.pointer (some (xu.add (tn * 8)))) (by go_simp) (fun V hV => by go_simp) ?_
        go_simp
        refine headT_read rfl (.int .i64 x.id) (by go_simp) (fun V hV => by obtain ⟨d1, d2, d3⟩ := hV; go_simp) ?_
        go_simp
        refine headT_read rfl (.agg #[.int .i64 2, .int .i64 u.id, .int .i64 x.id]) (by go_simp) (fun V hV => by go_simp) ?_
        go_simp
        have BA : Hid (Below w6.heap.size w6 (w6.alloc (Obj.cells #[.int .i64 2, .int .i64 u.id, .int .i64 x.id] 120))) := (Below.refl _ _).alloc (Nat.le_refl _) _
        have EC : Hid (Evc (w6.alloc (Obj.cells #[.int .i64 2, .int .i64 u.id, .int .i64 x.id] 120)) ⟨w6.heap.size, 0, none⟩ ⟨2, u.id, x.id⟩) := Evc.mk' ⟨2, u.id, x.id⟩ rfl
        refine headT_value rfl (.slice (some ⟨w6.heap.size, 0, none⟩) 1 1) (w6.alloc (Obj.cells #[.int .i64 2, .int .i64 u.id, .int .i64 x.id] 120)) (by go_simp) (by go_simp) (CB.out _ (B6.out.trans (BA.out.mono B6.out.size)) (X6.out.below BA.out X6.out.lt) (U6.out.below BA.out U6.out.lt)) ?_
        go_simp
        generalize (w6.alloc (Obj.cells #[.int .i64 2, .int .i64 u.id, .int .i64 x.id] 120)) = w7 at *
        have B7 : Hid (Below w.heap.size w w7) := B6.out.trans (BA.out.mono B6.out.size)
        have L7 : Hid (Bk w7 lb (ls.set tn (ln + k.n1)) #[]) := L6.out.below BA.out
        have E7 : Hid (Evo w7 w1.heap.size ev es) := E6.out.below BA.out
        have P7 : Hid (Kp lb w1 w7) := P6.out.trans (Kp.of BA.out)
        have X7 : Hid (Bw w7 w.heap.size X g1 g2 g3 (.slice (some xu) us.length cap) g5) := X6.out.below BA.out X6.out.lt
        have U7 : Hid (Unc w7 ⟨bu, 0, none⟩ u) := U6.out.below BA.out U6.out.lt
        clear B6 L6 E6 P6 X6 U6 BA
        obtain ⟨gg, gc, w8, hr, ho8, hg8, -, -⟩ := run_ev w7 38 w1.heap.size ev es E7.out _ _ EC.out (by have := EL.out; omega) P7.out.size
        have GB : Hid (∀ b, ev.ownBlock = some b → w1.heap.size ≤ b) := fun b hb => (E7.out.block b hb).1
        have BG : Hid (Below w1.heap.size w7 w8) := (Below.refl _ _).grown hg8 P7.out.size (fun b hb => GB.out b hb)
        have B8 : Hid (Below w.heap.size w w8) := B7.out.trans (BG.out.mono (by have := LBG.out; omega))
        have L8 : Hid (Bk w8 lb (ls.set tn (ln + k.n1)) #[]) := L7.out.low BG.out (by have := LBG.out.2; omega)
        have P8 : Hid (Kp lb w1 w8) := kp_gb P7.out hg8 (fun b hb => GB.out b hb)
        have X8 : Hid (Bw w8 w.heap.size X g1 g2 g3 (.slice (some xu) us.length cap) g5) := X7.out.below BG.out (by have := LBG.out; omega)
        have O8 : Hid (Evo w8 w1.heap.size (.slice (some ⟨gg, 0, none⟩) (es.length + 1) gc) (es ++ [⟨2, u.id, x.id⟩])) := ho8
        have U8 : Hid (Unc w8 ⟨bu, 0, none⟩ u) := U7.out.gb hg8 (fun e => Nat.lt_irrefl _ (VB.out bu e))
        refine headT_value rfl (.slice (some ⟨gg, 0, none⟩) (es.length + 1) gc) w8 (by go_simp) (exec_append _ _ _ _ rfl _ _ (by go_simp) (by go_simp) hr) (CB.out _ B8.out X8.out U8.out) ?_
        clear hr ho8 hg8 B7 L7 E7 P7 X7 U7 BG GB EC
        go_simp
        unfold wpHeadT
        refine sched_value rfl (.slice (some ⟨gg, 0, none⟩) (es.length + 1) gc) w8 (by go_simp) (by go_simp) trivial ?_
        go_simp
        unfold wpSched
        go_wp2
        go_round
        case rel => exact ⟨n + 1, _, by go_num, rfl, by omega, by rw [NEW.out]; exact L8.out, by rw [NEW.out]; exact O8.out, by rw [NEW.out]; have := EL.out; simp; omega, P8.out⟩
        case measure => simp [intOf]; omega
end Go.Proofs.YtoabhfipikkkeaaGreatDoor

namespace Go.Proofs.YtoabhfipikkkeaaGreatDoor
open Go.RowKit
set_option linter.unusedVariables false

set_option maxRecDepth 100000 in
set_option maxHeartbeats 2000000 in
theorem strike_nil (vk : Value) (t n W H : Int) (g1 g2 g3 g5 : Value) (a : Option Addr) (c : Nat) (w : World) :
    Calls Tryz.prog 106 #[vk, .agg #[.int .i64 t, .int .i64 n, .int .i64 W, .int .i64 H, g1, g2, g3, .slice a 0 c, g5]] w fun e w' => e = .returned (.slice none 0 0) ∧ Below w.heap.size w w' := by
  go_enter Tryz.func106, Tryz.ntmps106
  go_upto_region 2 with fail
  have B0 : Hid (Below w.heap.size w (w.alloc (Obj.cells #[.int .i64 t, .int .i64 n, .int .i64 W, .int .i64 H, g1, g2, g3, .slice a 0 c, g5] 29))) := (Below.refl _ _).alloc (Nat.le_refl _) _
  have x7 : (w.alloc (Obj.cells #[.int .i64 t, .int .i64 n, .int .i64 W, .int .i64 H, g1, g2, g3, .slice a 0 c, g5] 29)).cell? ⟨w.heap.size, 7, none⟩ = some (.slice a 0 c) := by simp
  have xl : w.heap.size < (w.alloc (Obj.cells #[.int .i64 t, .int .i64 n, .int .i64 W, .int .i64 H, g1, g2, g3, .slice a 0 c, g5] 29)).heap.size := by simp
  generalize (w.alloc (Obj.cells #[.int .i64 t, .int .i64 n, .int .i64 W, .int .i64 H, g1, g2, g3, .slice a 0 c, g5] 29)) = w0 at *
  obtain ⟨w1, hmk0, -, hb1, -⟩ := makeI 0 w0 (by omega)
  have hmk : (Instr.makeSlice 23 (.int .i64 0) (.int .i64 0)).run Tryz.prog w0 = .ok (.slice (some ⟨w0.heap.size, 0, none⟩) 0 0) w1 := hmk0
  clear hmk0
  go_upto_region 3 with fail
  have y7 : w1.cell? ⟨w.heap.size, 7, none⟩ = some (.slice a 0 c) := by rw [hb1.cell (p := ⟨w.heap.size, 7, none⟩) xl]; exact x7
  have B1 : Hid (Below w.heap.size w w1) := B0.out.trans (hb1.mono B0.out.size)
  clear hmk x7 xl hb1 B0
  go_wp2
  refine wp_loop_rounds 1 ?_
  rw [rounds_succ]
  go_wp2
  refine wp_loop_rounds 1 ?_
  rw [rounds_succ]
  go_wp2
  go_ret
  exact ⟨rfl, B1.out⟩
end Go.Proofs.YtoabhfipikkkeaaGreatDoor

namespace Go.Proofs.YtoabhfipikkkeaaGreatDoor
open Go.RowKit
set_option linter.unusedVariables false

/-- block g has these jobs, and more behind them. -/
def Jk (w : World) (g : Nat) (ks : List JbV) (rest : List Value) : Prop := w.heap[g]? = some (.cells (ks.flatMap JbV.cs ++ rest).toArray 94 (0, 0))
theorem Jk.lt {w : World} {g : Nat} {ks : List JbV} {rest : List Value} (h : Jk w g ks rest) : g < w.heap.size := lt_of_block h
theorem Jk.thaw {w : World} {g : Nat} {ks : List JbV} {rest : List Value} (h : Jk w g ks rest) (i : Nat) : w.frozen? ⟨g, i, none⟩ = false := by
  unfold Jk at h
  simp [World.frozen?, h]
theorem Jk.below {w w' : World} {g B : Nat} {ks : List JbV} {rest : List Value} (h : Jk w g ks rest) (hb : Below B w w') (hB : g < B) : Jk w' g ks rest := by
  unfold Jk at *
  rw [hb.block g hB]; exact h
theorem Jk.at_ {w : World} {g : Nat} {ks : List JbV} {rest : List Value} (h : Jk w g ks rest) {i : Nat} {o : JbV} (ho : ks[i]? = some o) {j : Nat} (hj : j < 4) : w.cell? ⟨g, i * 4 + j, none⟩ = o.cs[j]? := by
  unfold Jk at h
  have hi : i < ks.length := (List.getElem?_eq_some_iff.1 ho).1
  simp only [World.cell?, h]
  have e : (ks.flatMap JbV.cs ++ rest).toArray[i * 4 + j]? = o.cs[j]? := by
    rw [List.getElem?_toArray, List.getElem?_append_left (by rw [len_jb]; omega), flat_jb ks i j o ho hj]
  simp only [e]
  simp
theorem Jk.jbc {w : World} {g : Nat} {ks : List JbV} {rest : List Value} (h : Jk w g ks rest) {i : Nat} {o : JbV} (ho : ks[i]? = some o) : Jbc w ⟨g, i * 4, none⟩ o :=
  ⟨h.at_ ho (j := 0) (by decide), h.at_ ho (j := 1) (by decide), h.at_ ho (j := 2) (by decide), h.at_ ho (j := 3) (by decide)⟩
theorem jflat_set : ∀ (ks : List JbV) (i : Nat) (o : JbV) (rest : List Value), i < ks.length →
    (ks.set i o).flatMap JbV.cs ++ rest = ((((ks.flatMap JbV.cs ++ rest).set (i * 4) (.int .i64 o.player)).set (i * 4 + 1) (.int .i64 o.unit)).set (i * 4 + 2) (.int .i64 o.kind)).set (i * 4 + 3) (.int .i64 o.left)
  | [], i, o, rest, h => by simp at h
  | k :: ks, 0, o, rest, _ => by
    simp [JbV.cs]
  | k :: ks, i + 1, o, rest, h => by
    have ih := jflat_set ks i o rest (by simpa using h)
    rw [show (i + 1) * 4 = i * 4 + 4 by omega, show i * 4 + 4 + 1 = i * 4 + 1 + 4 by omega, show i * 4 + 4 + 2 = i * 4 + 2 + 4 by omega, show i * 4 + 4 + 3 = i * 4 + 3 + 4 by omega, List.set_cons_succ, List.flatMap_cons, List.append_assoc, ih, List.flatMap_cons]
    simp [JbV.cs]
theorem Jk.put {w : World} {g : Nat} {ks : List JbV} {rest : List Value} (h : Jk w g ks rest) {i : Nat} (hi : i < ks.length) (o : JbV) :
    Jk ((((w.setCell ⟨g, i * 4, none⟩ (.int .i64 o.player)).setCell ⟨g, i * 4 + 1, none⟩ (.int .i64 o.unit)).setCell ⟨g, i * 4 + 2, none⟩ (.int .i64 o.kind)).setCell ⟨g, i * 4 + 3, none⟩ (.int .i64 o.left)) g (ks.set i o) rest := by
  unfold Jk at *
  have h0 := heap_setCell_same w g (i * 4) _ _ (.int .i64 o.player) h
  have h1 := heap_setCell_same _ g (i * 4 + 1) _ _ (.int .i64 o.unit) h0
  have h2 := heap_setCell_same _ g (i * 4 + 2) _ _ (.int .i64 o.kind) h1
  have h3 := heap_setCell_same _ g (i * 4 + 3) _ _ (.int .i64 o.left) h2
  rw [h3, jflat_set ks i o rest hi]
  simp
theorem jk_below {B g : Nat} {w W : World} {i : Nat} (o : JbV) (h : Below B w W) (hb : B ≤ g) : Below B w ((((W.setCell ⟨g, i * 4, none⟩ (.int .i64 o.player)).setCell ⟨g, i * 4 + 1, none⟩ (.int .i64 o.unit)).setCell ⟨g, i * 4 + 2, none⟩ (.int .i64 o.kind)).setCell ⟨g, i * 4 + 3, none⟩ (.int .i64 o.left)) :=
  (((h.setCell (p := ⟨g, i * 4, none⟩) hb _).setCell (p := ⟨g, i * 4 + 1, none⟩) hb _).setCell (p := ⟨g, i * 4 + 2, none⟩) hb _).setCell (p := ⟨g, i * 4 + 3, none⟩) hb _
theorem jflat_set3 : ∀ (ks : List JbV) (i : Nat) (o : JbV) (a : Int) (rest : List Value), ks[i]? = some o → (ks.set i { o with left := a }).flatMap JbV.cs ++ rest = (ks.flatMap JbV.cs ++ rest).set (i * 4 + 3) (.int .i64 a)
  | [], i, o, a, rest, h => by simp at h
  | k :: ks, 0, o, a, rest, h => by
    simp at h
    subst h
    simp [JbV.cs]
  | k :: ks, i + 1, o, a, rest, h => by
    have ih := jflat_set3 ks i o a rest (by simpa using h)
    rw [show (i + 1) * 4 + 3 = i * 4 + 3 + 4 by omega, List.set_cons_succ, List.flatMap_cons, List.append_assoc, ih, List.flatMap_cons]
    simp [JbV.cs]
theorem Jk.set3 {w : World} {g : Nat} {ks : List JbV} {rest : List Value} (h : Jk w g ks rest) {i : Nat} {o : JbV} (ho : ks[i]? = some o) (a : Int) : Jk (w.setCell ⟨g, i * 4 + 3, none⟩ (.int .i64 a)) g (ks.set i { o with left := a }) rest := by
  unfold Jk at *
  have h0 := heap_setCell_same w g (i * 4 + 3) _ _ (.int .i64 a) h
  rw [h0, jflat_set3 ks i o a rest ho]
  simp
/-- a list of its own, as a block. -/
theorem Jbo.jk {w : World} {base : Nat} {v : Value} {ks : List JbV} (h : Jbo w base v ks) : (v = .slice none 0 0 ∧ ks = []) ∨ ∃ g cap rest, v = .slice (some ⟨g, 0, none⟩) ks.length cap ∧ base ≤ g ∧ ks.length ≤ cap ∧ cap ≤ maxLen ∧ ks.length * 4 + rest.length = cap * 4 ∧ Jk w g ks rest := by
  rcases h.2 with ⟨h1, h2⟩ | ⟨g, cap, cur, h1, h2, h3, h4, h5, h6, h7⟩
  · exact .inl ⟨h1, List.length_eq_zero_iff.1 h2⟩
  · refine .inr ⟨g, cap, cur.toList.drop (ks.length * 4), h1, h2, h4, h5, ?_, ?_⟩
    · have e6 : cur.toList.length = cap * 4 := by simpa using h6
      rw [List.length_drop, e6]
      have : ks.length * 4 ≤ cap * 4 := Nat.mul_le_mul_right _ h4
      omega
    · unfold Jk
      rw [← h7, List.take_append_drop, Array.toArray_toList]
      exact h3
theorem Jk.jbo {w : World} {base g cap : Nat} {ks : List JbV} {rest : List Value} (h : Jk w g ks rest) (hb : base ≤ g) (h1 : ks.length ≤ cap) (h2 : cap ≤ maxLen) (h3 : ks.length * 4 + rest.length = cap * 4) : Jbo w base (.slice (some ⟨g, 0, none⟩) ks.length cap) ks := by
  refine ⟨len_jb ks, .inr ⟨g, cap, _, rfl, hb, h, h1, h2, ?_, ?_⟩⟩
  · simp only [List.size_toArray, List.length_append, len_jb]; omega
  · show (ks.flatMap JbV.cs ++ rest).take (ks.length * 4) = _
    rw [List.take_append_of_le_length (by rw [len_jb]; exact Nat.le_refl _), List.take_of_length_le (by rw [len_jb]; exact Nat.le_refl _)]
/-- the first m of them, and the others behind. -/
theorem Jk.take {w : World} {g : Nat} {ks : List JbV} {rest : List Value} (h : Jk w g ks rest) (m : Nat) : Jk w g (ks.take m) ((ks.drop m).flatMap JbV.cs ++ rest) := by
  unfold Jk at *
  rw [← List.append_assoc, ← List.flatMap_append, List.take_append_drop]
  exact h
end Go.Proofs.YtoabhfipikkkeaaGreatDoor

namespace Go.Proofs.YtoabhfipikkkeaaGreatDoor
open Go.RowKit
set_option linter.unusedVariables false

def FstJ (p : JbV → Bool) (ks : List JbV) (r : Int) : Prop := (r = -1 ∧ ks.any p = false) ∨ ∃ (k : Nat) (x : JbV), r = k ∧ ks[k]? = some x ∧ p x = true ∧ (ks.take k).any p = false
theorem anyj_next {p : JbV → Bool} {ks : List JbV} {k : Nat} {x : JbV} (h : ks[k]? = some x) : (ks.take (k + 1)).any p = ((ks.take k).any p || p x) := by
  obtain ⟨hi, e⟩ := List.getElem?_eq_some_iff.1 h
  rw [List.take_succ_eq_append_getElem hi, List.any_append, e]
  simp

/-- clear of a slice of jobs. -/
theorem run_clear_jbs (w : World) (g m n c : Nat) (ks : List JbV) (rest : List Value) (hg : Jk w g ks rest) (hn : 0 < n) (hm : m + n = ks.length) :
    ∃ w', (∀ ty, (Builtin.clear_ #[27] ty #[.slice (some ⟨g, m * 4, none⟩) n c]).run Tryz.prog w = .ok (.tuple #[]) w') ∧ Jk w' g (ks.take m ++ List.replicate n (⟨0, 0, 0, 0⟩ : JbV)) rest ∧ Below g w w' ∧ w'.heap.size = w.heap.size ∧ Kp g w w' := by
  have hzv : ∀ w, (zeroValue 94).run Tryz.prog w = .ok (.agg #[.int .i64 0, .int .i64 0, .int .i64 0, .int .i64 0]) w := fun w => by kernel_rfl
  have hzc : (Builtin.zeroCells (Value.agg #[.int .i64 0, .int .i64 0, .int .i64 0, .int .i64 0]).cells n).toList = (List.replicate n (⟨0, 0, 0, 0⟩ : JbV)).flatMap JbV.cs := by
    have hz8 : (Value.agg #[.int .i64 0, .int .i64 0, .int .i64 0, .int .i64 0]).cells = #[.int .i64 0, .int .i64 0, .int .i64 0, .int .i64 0] := by rfl
    rw [hz8]
    unfold Builtin.zeroCells
    apply List.ext_getElem?
    intro i
    by_cases hi : i < n * 4
    · have e1 : (List.replicate n (⟨0, 0, 0, 0⟩ : JbV))[i / 4]? = some ⟨0, 0, 0, 0⟩ := by
        rw [List.getElem?_replicate, if_pos (by omega)]
      have e2 := flat_jb _ (i / 4) (i % 4) _ e1 (Nat.mod_lt _ (by decide))
      rw [show i / 4 * 4 + i % 4 = i by omega] at e2
      rw [e2]
      have h4 : i % 4 < 4 := Nat.mod_lt _ (by decide)
      simp [JbV.cs, hi]
      generalize i % 4 = r at *
      match r, h4 with
      | 0, _ => rfl
      | 1, _ => rfl
      | 2, _ => rfl
      | 3, _ => rfl
    · rw [List.getElem?_eq_none (by simp; omega), List.getElem?_eq_none (by rw [len_jb, List.length_replicate]; omega)]
  obtain ⟨vs, hvs⟩ : ∃ vs, (List.replicate n (⟨0, 0, 0, 0⟩ : JbV)).flatMap JbV.cs = vs := ⟨_, rfl⟩
  have hvl : vs.length = n * 4 := by rw [← hvs, len_jb, List.length_replicate]
  have h1c : ∀ v ∈ vs, v.oneCell' = true := by
    intro v hv
    rw [← hvs] at hv
    obtain ⟨k, -, hk⟩ := List.mem_flatMap.1 hv
    simp [JbV.cs] at hk
    rcases hk with rfl | rfl | rfl | rfl <;> rfl
  have hst := run_storeCells_at (P := Tryz.prog) g (m * 4) 94 vs 0 _ w hg (by simp only [List.size_toArray, List.length_append, len_jb, hvl]; omega) h1c
  have hml : (ks.take m).length = m := by rw [List.length_take]; omega
  have hL : (ks.flatMap JbV.cs ++ rest).toArray.toList.take (m * 4 + 0) ++ vs ++ (ks.flatMap JbV.cs ++ rest).toArray.toList.drop (m * 4 + 0 + vs.length) = (ks.take m ++ List.replicate n (⟨0, 0, 0, 0⟩ : JbV)).flatMap JbV.cs ++ rest := by
    have e1 : (ks.flatMap JbV.cs ++ rest).take (m * 4) = (ks.take m).flatMap JbV.cs := by
      conv => lhs; rw [← List.take_append_drop m ks, List.flatMap_append, List.append_assoc]
      rw [List.take_left' (by rw [len_jb, hml])]
    have e2 : (ks.flatMap JbV.cs ++ rest).drop (m * 4 + vs.length) = rest := by
      rw [List.drop_left' (by rw [len_jb, hvl]; omega)]
    show (ks.flatMap JbV.cs ++ rest).take (m * 4) ++ vs ++ (ks.flatMap JbV.cs ++ rest).drop (m * 4 + vs.length) = _
    rw [e1, e2, List.flatMap_append, hvs]
  rw [hL] at hst
  refine ⟨w.setRow g ((ks.take m ++ List.replicate n (⟨0, 0, 0, 0⟩ : JbV)).flatMap JbV.cs ++ rest).toArray, fun ty => ?_, ?_, ?_, ?_, ?_⟩
  · obtain ⟨n', rfl⟩ : ∃ n', n = n' + 1 := ⟨n - 1, by omega⟩
    simp only [hvs] at hzc
    simp [Builtin.clear_, run_underlying Tryz.underlying27, hzv, hzc, hst]
  · exact setRow_heap w g _ _ _ _ hg
  · exact ⟨rfl, rfl, rfl, by simp, fun k hk => setRow_other _ _ _ _ (by omega)⟩
  · simp
  · exact ⟨rfl, rfl, rfl, by simp, fun k hk hn => setRow_other _ _ _ _ (by omega)⟩
set_option maxHeartbeats 2000000 in
theorem idxj_any (K : Nat) (eK : ∀ args w, (callFunc K args).run Tryz.prog w = .ok (.enter K args) w) (u : Value) (cs : Array Value) (ks : List JbV) (p : JbV → Bool) (w : World) (hu : Jbl w u ks)
    (hp : ∀ W, Below w.heap.size w W → ∀ k ∈ ks, Calls Tryz.prog K (#[k.val] ++ cs) W fun e w' => e = .returned (.bool (p k)) ∧ Below W.heap.size W w') :
    Calls Tryz.prog 95 #[u, .func (Fn.func K) #[] cs] w fun e w' => ∃ r : Int, e = .returned (.int .i64 r) ∧ FstJ p ks r ∧ Below w.heap.size w w' := by
  obtain ⟨a, c, rfl, c1, c2, ca⟩ := hu
  have Ca : Hid (ks ≠ [] → ∃ x, a = some x ∧ x.block < w.heap.size ∧ ∀ (i : Nat) k, ks[i]? = some k → Jbc w (x.add (i * 4)) k) := ca
  have Hp : Hid (∀ W, Below w.heap.size w W → ∀ k ∈ ks, Calls Tryz.prog K (#[k.val] ++ cs) W fun e w' => e = .returned (.bool (p k)) ∧ Below W.heap.size W w') := hp
  clear ca hp
  go_enter Tryz.func95, Tryz.ntmps95
  go_wp2
  go_loopw [8] (fun i W' => ∃ k : Nat, k ≤ ks.length ∧ i = .int .i64 (k : Nat) ∧ (ks.take k).any p = false ∧ Below w.heap.size w W') (fun i _ => ks.length - (intOf i).toNat)
  case atStart => exact ⟨0, Nat.zero_le _, rfl, by simp, Below.refl _ _⟩
  case round =>
    obtain ⟨k, hk, rfl, ht, hb⟩ := hrel
    have Ht : Hid ((ks.take k).any p = false) := ht
    have B : Hid (Below w.heap.size w wr) := hb
    clear ht hb
    by_cases h0 : k = ks.length
    · subst h0
      go_wp2
      go_ret
      refine ⟨_, rfl, .inl ⟨rfl, ?_⟩, B⟩
      have := Ht.out
      rw [List.take_of_length_le (Nat.le_refl _)] at this
      exact this
    · have hkx : k < ks.length := by omega
      obtain ⟨x, rfl, hx1, hx⟩ := Ca.out (by intro h; rw [h] at hkx; simp at hkx)
      obtain ⟨y, hy⟩ : ∃ y, ks[k]? = some y := ⟨_, List.getElem?_eq_getElem hkx⟩
      have Yc := (hx k y hy).below B.out (by rw [add_block]; exact hx1)
      obtain ⟨q0, q1, q2, q3⟩ := Yc
      have hc := Hp.out wr B.out y (List.mem_of_getElem? hy)
      have Hs : Hid _ := anyj_next (p := p) hy
      have Hm : Hid (ks[k]? = some y) := hy
      clear hx hx1 hy
      cases hy : p y with
      | true =>
        rw [hy] at hc
        have Hc : Hid (Calls Tryz.prog K (#[y.val] ++ cs) wr fun e w' => e = .returned (.bool true) ∧ Below wr.heap.size wr w') := hc
        have Hy : Hid (p y = true) := hy
        clear hc hy
        go_wp2_with fail
        refine Calls.mono Hc.out ?_
        rintro e w1 ⟨rfl, b1⟩
        have B1 : Hid (Below w.heap.size w w1) := B.out.trans (b1.mono B.out.size)
        clear b1
        go_wp2
        go_ret
        exact ⟨_, rfl, .inr ⟨k, y, rfl, Hm, Hy, Ht⟩, B1⟩
      | false =>
        rw [hy] at hc
        have Hc : Hid (Calls Tryz.prog K (#[y.val] ++ cs) wr fun e w' => e = .returned (.bool false) ∧ Below wr.heap.size wr w') := hc
        have Hy : Hid (p y = false) := hy
        clear hc hy
        go_wp2_with fail
        refine Calls.mono Hc.out ?_
        rintro e w1 ⟨rfl, b1⟩
        have B1 : Hid (Below w.heap.size w w1) := B.out.trans (b1.mono B.out.size)
        clear b1
        go_wp2
        go_round
        case rel => exact ⟨k + 1, by omega, by go_num, by have := Hs.out; rw [Ht.out, Hy.out] at this; exact this, B1⟩
        case measure => simp [intOf]; omega


theorem delj_keep {ks L : List JbV} {p : JbV → Bool} {i j : Nat} {y : JbV} (h : L.take i = (ks.take j).filter (fun k => !p k)) (hd : L.drop j = ks.drop j) (hij : i < j) (hl : L.length = ks.length) (hy : ks[j]? = some y) (hp : p y = false) :
    (L.set i y).take (i + 1) = (ks.take (j + 1)).filter (fun k => !p k) ∧ (L.set i y).drop (j + 1) = ks.drop (j + 1) := by
  have hj : j < ks.length := (List.getElem?_eq_some_iff.1 hy).1
  have hi : i < L.length := by omega
  constructor
  · rw [List.take_succ_eq_append_getElem (by simpa using hi), List.take_set_of_le (Nat.le_refl _), List.getElem_set_self, h]
    have : (ks.take (j + 1)) = ks.take j ++ [y] := by
      rw [List.take_succ_eq_append_getElem hj]
      rw [(List.getElem?_eq_some_iff.1 hy).2]
    rw [this, List.filter_append]
    simp [hp]
  · rw [List.drop_set_of_lt (by omega)]
    have h1 : L.drop (j + 1) = (L.drop j).drop 1 := by rw [List.drop_drop]
    rw [h1, hd, List.drop_drop]
theorem delj_skip {ks L : List JbV} {p : JbV → Bool} {i j : Nat} {y : JbV} (h : L.take i = (ks.take j).filter (fun k => !p k)) (hd : L.drop j = ks.drop j) (hy : ks[j]? = some y) (hp : p y = true) :
    L.take i = (ks.take (j + 1)).filter (fun k => !p k) ∧ L.drop (j + 1) = ks.drop (j + 1) := by
  have hj : j < ks.length := (List.getElem?_eq_some_iff.1 hy).1
  constructor
  · have : (ks.take (j + 1)) = ks.take j ++ [y] := by
      rw [List.take_succ_eq_append_getElem hj]
      rw [(List.getElem?_eq_some_iff.1 hy).2]
    rw [this, List.filter_append, h]
    simp [hp]
  · have h1 : L.drop (j + 1) = (L.drop j).drop 1 := by rw [List.drop_drop]
    rw [h1, hd, List.drop_drop]
theorem delj_start {ks : List JbV} {p : JbV → Bool} {i : Nat} {x : JbV} (hx : ks[i]? = some x) (hp : p x = true) (hn : (ks.take i).any p = false) : ks.take i = (ks.take (i + 1)).filter (fun k => !p k) := by
  have hi : i < ks.length := (List.getElem?_eq_some_iff.1 hx).1
  have : (ks.take (i + 1)) = ks.take i ++ [x] := by
    rw [List.take_succ_eq_append_getElem hi]
    rw [(List.getElem?_eq_some_iff.1 hx).2]
  rw [this, List.filter_append]
  have e : (ks.take i).filter (fun k => !p k) = ks.take i := by
    rw [List.filter_eq_self]
    intro a ha
    have := List.any_eq_false.1 hn a ha
    simpa using this
  rw [e]
  simp [hp]

theorem delj_gb {w w1 w' : World} {g n c : Nat} (h : Below w.heap.size w w1) (k : Kp g w1 w') : w.grownBy w' (Value.slice (some ⟨g, 0, none⟩) n c).ownBlock :=
  ⟨k.os.trans h.os, k.tape.trans h.tape, k.output.trans h.output, Nat.le_trans h.size k.size, fun i hi hr => (k.block i (Nat.lt_of_lt_of_le hi h.size) (fun e => hr (by rw [e]; rfl))).trans (h.block i hi)⟩
theorem jk_kp (wb : World) (g i : Nat) (y : JbV) : Kp g wb ((((wb.setCell ⟨g, i * 4, none⟩ (.int .i64 y.player)).setCell ⟨g, i * 4 + 1, none⟩ (.int .i64 y.unit)).setCell ⟨g, i * 4 + 2, none⟩ (.int .i64 y.kind)).setCell ⟨g, i * 4 + 3, none⟩ (.int .i64 y.left)) :=
  (((Kp.set (z := g) _ _ _).trans (Kp.set _ _ _)).trans (Kp.set _ _ _)).trans (Kp.set _ _ _)
set_option maxRecDepth 100000 in
set_option maxHeartbeats 8000000 in
theorem delj_own (K : Nat) (eK : ∀ args w, (callFunc K args).run Tryz.prog w = .ok (.enter K args) w) (u : Value) (cs : Array Value) (ks : List JbV) (p : JbV → Bool) (w : World) (base : Nat) (hu : Jbo w base u ks) (hbase : base ≤ w.heap.size) (hl : ks.length ≤ 1000000)
    (hp : ∀ W, Below base w W → w.grownBy W u.ownBlock → ∀ k ∈ ks, Calls Tryz.prog K (#[k.val] ++ cs) W fun e w' => e = .returned (.bool (p k)) ∧ Below W.heap.size W w') :
    Calls Tryz.prog 42 #[u, .func (Fn.func K) #[] cs] w fun e w' => ∃ v, e = .returned v ∧ Jbo w' base v (ks.filter (fun k => !p k)) ∧ Below base w w' ∧ w.grownBy w' u.ownBlock ∧ v.ownBlock = u.ownBlock := by
  have H' : Hid (Calls Tryz.prog 95 #[u, .func (Fn.func K) #[] cs] w fun e w' => ∃ r : Int, e = .returned (.int .i64 r) ∧ FstJ p ks r ∧ Below w.heap.size w w') := idxj_any K eK u cs ks p w hu.l (fun W hW k hk => hp W (hW.mono hbase) ⟨hW.os, hW.tape, hW.output, hW.size, fun k hk _ => hW.block k hk⟩ k hk)
  have Hp : Hid (∀ W, Below base w W → w.grownBy W u.ownBlock → ∀ k ∈ ks, Calls Tryz.prog K (#[k.val] ++ cs) W fun e w' => e = .returned (.bool (p k)) ∧ Below W.heap.size W w') := hp
  have U : Hid (Jbo w base u ks) := hu
  have HB : Hid (base ≤ w.heap.size ∧ ks.length ≤ 1000000) := ⟨hbase, hl⟩
  clear hp hu hbase
  go_enter Tryz.func42, Tryz.ntmps42
  go_wp2_with fail
  refine Calls.mono H'.out ?_
  rintro e w1 ⟨r, rfl, hf, hb⟩
  have B1 : Hid (Below base w w1) := hb.mono HB.out.1
  have U1 : Hid (Jbo w1 base u ks) := U.out.below hb
  have S1 : Hid (w.heap.size ≤ w1.heap.size) := hb.size
  have G1 : Hid (Below w.heap.size w w1) := hb
  clear hb U H'
  rcases hf with ⟨rfl, hno⟩ | ⟨i0, x, rfl, hx, hpx, hnx⟩
  · have NO : Hid (ks.filter (fun k => !p k) = ks) := by
      unfold Hid
      rw [List.filter_eq_self]
      intro a ha
      have := List.any_eq_false.1 hno a ha
      simpa using this
    clear hno
    go_wp2
    go_ret
    exact ⟨u, rfl, by rw [NO.out]; exact U1.out, B1.out, ⟨G1.out.os, G1.out.tape, G1.out.output, G1.out.size, fun k hk _ => G1.out.block k hk⟩, rfl⟩
  have hi0 : i0 < ks.length := (List.getElem?_eq_some_iff.1 hx).1
  rcases U1.out.jk with ⟨rfl, h⟩ | ⟨g, cap, rest, rfl, hbg, hkc, hcm, hcl, hub⟩
  · rw [h] at hi0; simp at hi0
  have ST : Hid (ks.take i0 = (ks.take (i0 + 1)).filter (fun k => !p k)) := delj_start hx hpx hnx
  have GG : Hid (base ≤ g ∧ ks.length ≤ cap ∧ cap ≤ maxLen ∧ ks.length * 4 + rest.length = cap * 4) := ⟨hbg, hkc, hcm, hcl⟩
  have UB : Hid (Jk w1 g ks rest) := hub
  have hcm' : cap ≤ 9223372036854775807 := by unfold maxLen at hcm; omega
  clear hx hpx hnx hbg hcm hcl hub U1
  have hm1 : (((i0 : Nat) : Int) == -1) = false := by rw [beq_eq_false_iff_ne]; omega
  go_wp2
  go_loopw [5, 6] (fun vi vj W => ∃ (i j : Nat) (L : List JbV), vi = .int .i64 (i : Nat) ∧ vj = .int .i64 (j : Nat) ∧ i < j ∧ j ≤ ks.length ∧ L.length = ks.length ∧ L.take i = (ks.take j).filter (fun k => !p k) ∧ L.drop j = ks.drop j ∧ Jk W g L rest ∧ Below base w W ∧ Kp g w1 W) (fun _ vj _ => ks.length - (intOf vj).toNat)
  case atStart => exact ⟨i0, i0 + 1, ks, rfl, by go_num, by omega, by omega, rfl, ST.out, rfl, UB.out, B1.out, Kp.refl _ _⟩
  case round =>
    obtain ⟨i, j, L, rfl, rfl, hij, hjn, hLl, hLt, hLd, hLu, hLb, hLk⟩ := hrel
    have LU : Hid (Jk wr g L rest) := hLu
    have LB : Hid (Below base w wr) := hLb
    have LK : Hid (Kp g w1 wr) := hLk
    clear hLk
    have LL : Hid (L.length = ks.length ∧ L.take i = (ks.take j).filter (fun k => !p k) ∧ L.drop j = ks.drop j) := ⟨hLl, hLt, hLd⟩
    clear hLu hLb hLl hLt hLd UB B1 ST
    by_cases h0 : j = ks.length
    · subst h0
      obtain ⟨wc, hcl, hUc, hBc, hSc, hKc⟩ := run_clear_jbs wr g i (ks.length - i) (cap - i) L rest LU.out (by omega) (by rw [LL.out.1]; omega)
      have UC : Hid (Jk wc g (L.take i) ((List.replicate (ks.length - i) (⟨0, 0, 0, 0⟩ : JbV)).flatMap JbV.cs ++ rest)) := by
        unfold Jk at hUc
        unfold Hid Jk
        rw [← List.append_assoc, ← List.flatMap_append]
        exact hUc
      have BC : Hid (Below base w wc) := LB.out.trans (hBc.mono GG.out.1)
      have KC : Hid (Kp g w1 wc) := LK.out.trans hKc
      have IL : Hid ((L.take i).length = i) := by unfold Hid; rw [List.length_take, LL.out.1]; omega
      clear hUc hBc hSc hKc
      go_wp2
      go_ret
      have h1 := UC.out.jbo (base := base) (cap := cap) GG.out.1 (by rw [IL.out]; have := GG.out.2.1; omega) GG.out.2.2.1 (by
        rw [IL.out, List.length_append, len_jb, List.length_replicate]
        have := GG.out.2.2.2
        omega)
      rw [IL.out] at h1
      refine ⟨_, rfl, ?_, BC.out, delj_gb G1.out KC.out, rfl⟩
      have h2 := LL.out.2.1
      rw [List.take_of_length_le (Nat.le_refl _)] at h2
      rw [← h2]
      exact h1
    · have hjl : j < ks.length := by omega
      have hji : ((j : Nat) : Int) < (ks.length : Nat) := by omega
      obtain ⟨y, hy⟩ : ∃ y, ks[j]? = some y := ⟨_, List.getElem?_eq_getElem hjl⟩
      have hLy : L[j]? = some y := by
        have h1 : (L.drop j)[0]? = (ks.drop j)[0]? := by rw [LL.out.2.2]
        rw [List.getElem?_drop, List.getElem?_drop] at h1
        rw [Nat.add_zero] at h1
        rw [h1]; exact hy
      obtain ⟨q0, q1, q2, q3⟩ := LU.out.jbc hLy
      have HY : Hid (ks[j]? = some y) := hy
      have wi : IntKind.i64.wrap ((i : Nat) + 1 : Int) = ((i : Nat) : Int) + 1 := by rw [IntKind.wrap_i64]; omega
      have wj : IntKind.i64.wrap ((j : Nat) + 1 : Int) = ((j : Nat) : Int) + 1 := by rw [IntKind.wrap_i64]; omega
      clear hLy hy
      go_upto_region 8 with fail
      have BA : Hid (Below wr.heap.size wr (wr.alloc (Obj.cells #[.int .i64 y.player, .int .i64 y.unit, .int .i64 y.kind, .int .i64 y.left] 94))) := (Below.refl _ _).alloc (Nat.le_refl _) _
      have XA : Hid (Jbc (wr.alloc (Obj.cells #[.int .i64 y.player, .int .i64 y.unit, .int .i64 y.kind, .int .i64 y.left] 94)) ⟨wr.heap.size, 0, none⟩ y) := Jbc.mk' y rfl
      generalize (wr.alloc (Obj.cells #[.int .i64 y.player, .int .i64 y.unit, .int .i64 y.kind, .int .i64 y.left] 94)) = wa at *
      have UA : Hid (Jk wa g L rest) := LU.out.below BA.out LU.out.lt
      have AB : Hid (Below base w wa) := LB.out.trans (BA.out.mono (Nat.le_trans HB.out.1 LB.out.size))
      have KA : Hid (Kp g w1 wa) := LK.out.trans (Kp.of BA.out)
      clear LK
      obtain ⟨z, hz⟩ : ∃ z, wr.heap.size = z := ⟨_, rfl⟩
      rw [hz] at XA ⊢
      have ZG : Hid (g < z) := by rw [← hz]; exact LU.out.lt
      clear hz BA LU LB q0 q1 q2 q3
      obtain ⟨q0, q1, q2, q3⟩ := XA.out
      cases hpy : p y with
      | true =>
        have PY : Hid (p y = true) := hpy
        have hc := Hp.out wa AB.out (delj_gb G1.out KA.out) y (List.mem_of_getElem? HY.out)
        rw [hpy] at hc
        have Hc : Hid (Calls Tryz.prog K (#[y.val] ++ cs) wa fun e w' => e = .returned (.bool true) ∧ Below wa.heap.size wa w') := hc
        clear hc hpy
        go_wp2_with fail
        refine Calls.mono Hc.out ?_
        rintro e wb ⟨rfl, hb⟩
        have UW : Hid (Jk wb g L rest) := UA.out.below hb UA.out.lt
        have WB : Hid (Below base w wb) := AB.out.trans (hb.mono (Nat.le_trans HB.out.1 AB.out.size))
        have KW : Hid (Kp g w1 wb) := KA.out.trans (Kp.of hb)
        clear KA
        clear hb q0 q1 q2 q3 UA AB XA Hc
        go_wp2
        go_round
        case rel => exact ⟨i, j + 1, L, rfl, by go_num, by omega, by omega, LL.out.1, (delj_skip LL.out.2.1 LL.out.2.2 HY.out PY.out).1, (delj_skip LL.out.2.1 LL.out.2.2 HY.out PY.out).2, UW.out, WB.out, KW.out⟩
        case measure => simp [intOf]; omega
      | false =>
        have PY : Hid (p y = false) := hpy
        have hc := Hp.out wa AB.out (delj_gb G1.out KA.out) y (List.mem_of_getElem? HY.out)
        rw [hpy] at hc
        have Hc : Hid (Calls Tryz.prog K (#[y.val] ++ cs) wa fun e w' => e = .returned (.bool false) ∧ Below wa.heap.size wa w') := hc
        clear hc hpy
        go_wp2_with fail
        refine Calls.mono Hc.out ?_
        rintro e wb ⟨rfl, hb⟩
        have UW : Hid (Jk wb g L rest) := UA.out.below hb UA.out.lt
        have WB : Hid (Below base w wb) := AB.out.trans (hb.mono (Nat.le_trans HB.out.1 AB.out.size))
        have KW : Hid (Kp g w1 wb) := KA.out.trans (Kp.of hb)
        clear KA
        have XB : Hid (Jbc wb ⟨z, 0, none⟩ y) := XA.out.below hb XA.out.lt
        clear hb q0 q1 q2 q3 UA AB XA Hc
        have hil : i < L.length := by rw [LL.out.1]; omega
        obtain ⟨z0, hz0⟩ : ∃ z0, L[i]? = some z0 := ⟨_, List.getElem?_eq_getElem hil⟩
        obtain ⟨q0, q1, q2, q3⟩ := XB.out
        obtain ⟨r0, r1, r2, r3⟩ := UW.out.jbc hz0
        have f0 := UW.out.thaw (i * 4)
        have f1 := UW.out.thaw (i * 4 + 1)
        have f2 := UW.out.thaw (i * 4 + 2)
        have f3 := UW.out.thaw (i * 4 + 3)
        have UP : Hid (Jk ((((wb.setCell ⟨g, i * 4, none⟩ (.int .i64 y.player)).setCell ⟨g, i * 4 + 1, none⟩ (.int .i64 y.unit)).setCell ⟨g, i * 4 + 2, none⟩ (.int .i64 y.kind)).setCell ⟨g, i * 4 + 3, none⟩ (.int .i64 y.left)) g (L.set i y) rest) := UW.out.put hil y
        have BP : Hid (Below base w ((((wb.setCell ⟨g, i * 4, none⟩ (.int .i64 y.player)).setCell ⟨g, i * 4 + 1, none⟩ (.int .i64 y.unit)).setCell ⟨g, i * 4 + 2, none⟩ (.int .i64 y.kind)).setCell ⟨g, i * 4 + 3, none⟩ (.int .i64 y.left))) := jk_below y WB.out GG.out.1
        have KP : Hid (Kp g w1 ((((wb.setCell ⟨g, i * 4, none⟩ (.int .i64 y.player)).setCell ⟨g, i * 4 + 1, none⟩ (.int .i64 y.unit)).setCell ⟨g, i * 4 + 2, none⟩ (.int .i64 y.kind)).setCell ⟨g, i * 4 + 3, none⟩ (.int .i64 y.left))) := KW.out.trans (jk_kp wb g i y)
        have DK := delj_keep LL.out.2.1 LL.out.2.2 hij LL.out.1 HY.out PY.out
        have DH : Hid ((L.set i y).length = ks.length ∧ (L.set i y).take (i + 1) = (ks.take (j + 1)).filter (fun k => !p k) ∧ (L.set i y).drop (j + 1) = ks.drop (j + 1)) := ⟨by rw [List.length_set]; exact LL.out.1, DK.1, DK.2⟩
        clear DK hz0 hil
        go_wp2
        go_round
        case rel => exact ⟨i + 1, j + 1, L.set i y, by go_num, by go_num, by omega, by omega, DH.out.1, DH.out.2.1, DH.out.2.2, UP.out, BP.out, KP.out⟩
        case measure => simp [intOf]; omega
theorem delj_any (K : Nat) (eK : ∀ args w, (callFunc K args).run Tryz.prog w = .ok (.enter K args) w) (u : Value) (cs : Array Value) (ks : List JbV) (p : JbV → Bool) (w : World) (base : Nat) (hu : Jbo w base u ks) (hbase : base ≤ w.heap.size) (hl : ks.length ≤ 1000000)
    (hp : ∀ W, Below base w W → ∀ k ∈ ks, Calls Tryz.prog K (#[k.val] ++ cs) W fun e w' => e = .returned (.bool (p k)) ∧ Below W.heap.size W w') :
    Calls Tryz.prog 42 #[u, .func (Fn.func K) #[] cs] w fun e w' => ∃ v, e = .returned v ∧ Jbo w' base v (ks.filter (fun k => !p k)) ∧ Below base w w' :=
  (delj_own K eK u cs ks p w base hu hbase hl (fun W hW _ => hp W hW)).mono fun e w' h => by
    obtain ⟨v, h1, h2, h3, -⟩ := h
    exact ⟨v, h1, h2, h3⟩
end Go.Proofs.YtoabhfipikkkeaaGreatDoor

namespace Go.Proofs.YtoabhfipikkkeaaGreatDoor
open Go.RowKit
set_option linter.unusedVariables false

def fallenU (u : UnV) : Bool := decide (u.life ≤ 0)
def orphanJ (us : List UnV) (j : JbV) : Bool := !us.any (fun u => u.id == j.unit)
set_option maxHeartbeats 1000000 in
theorem fallen_fg (u : UnV) (w : World) : Calls Tryz.prog 107 (#[u.val] ++ #[]) w fun e w' => e = .returned (.bool (fallenU u)) ∧ Below w.heap.size w w' := by
  rw [Array.append_empty]
  have B0 : Hid (Below w.heap.size w (w.alloc (Obj.cells #[.int .i64 u.id, .int .i64 u.player, .int .i64 u.kind, .int .i64 u.at_, .int .i64 u.life, .int .i64 u.load, .int .i64 u.task, .int .i64 u.goal] 63))) := (Below.refl _ _).alloc (Nat.le_refl _) _
  have O0 : Hid (Unc (w.alloc (Obj.cells #[.int .i64 u.id, .int .i64 u.player, .int .i64 u.kind, .int .i64 u.at_, .int .i64 u.life, .int .i64 u.load, .int .i64 u.task, .int .i64 u.goal] 63)) ⟨w.heap.size, 0, none⟩ u) := Unc.mk' u rfl
  unfold UnV.val
  go_enter Tryz.func107, Tryz.ntmps107
  go_upto_region 1 with fail
  generalize (w.alloc (Obj.cells #[.int .i64 u.id, .int .i64 u.player, .int .i64 u.kind, .int .i64 u.at_, .int .i64 u.life, .int .i64 u.load, .int .i64 u.task, .int .i64 u.goal] 63)) = w0 at *
  obtain ⟨q0, q1, q2, q3, q4, q5, q6, q7⟩ := O0.out
  go_wp2
  go_ret
  exact ⟨rfl, B0.out⟩
set_option maxHeartbeats 1000000 in
theorem wfind_us (X : WV) (us : List UnV) (v1 v2 v3 v4 v5 : Value) (id : Int) (w : World) (h : Unl w v4 us) :
    Calls Tryz.prog 77 #[.agg #[.int .i64 X.turn, .int .i64 X.next, .int .i64 X.wide, .int .i64 X.high, v1, v2, v3, v4, v5], .int .i64 id] w fun e w' => ∃ r : Int, e = .returned (.int .i64 r) ∧ FstU (fun u => u.id == id) us r ∧ Below w.heap.size w w' := by
  have U : Hid (Unl w v4 us) := h
  clear h
  go_enter Tryz.func77, Tryz.ntmps77
  go_wp2_with fail
  have B0 : Hid (Below w.heap.size w ((w.alloc (Obj.cells #[.int .i64 X.turn, .int .i64 X.next, .int .i64 X.wide, .int .i64 X.high, v1, v2, v3, v4, v5] 29)).alloc (Obj.cells #[.int .i64 id] 3))) := ((Below.refl _ _).alloc (Nat.le_refl _) _).alloc (by simp) _
  have C0 : Hid (((w.alloc (Obj.cells #[.int .i64 X.turn, .int .i64 X.next, .int .i64 X.wide, .int .i64 X.high, v1, v2, v3, v4, v5] 29)).alloc (Obj.cells #[.int .i64 id] 3)).cell? ⟨w.heap.size + 1, 0, none⟩ = some (.int .i64 id)) := cell_of_new (by simp) rfl
  generalize ((w.alloc (Obj.cells #[.int .i64 X.turn, .int .i64 X.next, .int .i64 X.wide, .int .i64 X.high, v1, v2, v3, v4, v5] 29)).alloc (Obj.cells #[.int .i64 id] 3)) = w0 at *
  refine (idxu_any 119 (by intro args w; go_simp) v4 #[.pointer (some ⟨w.heap.size + 1, 0, none⟩)] us (fun u => u.id == id) w0 (U.out.below B0.out) (fun V hV k => fid_any k id (w.heap.size + 1) V (by rw [hV.cell (p := ⟨w.heap.size + 1, 0, none⟩) (cell_lt C0.out)]; exact C0.out))).mono ?_
  rintro e w1 ⟨r, rfl, hf, hb⟩
  have F : Hid (FstU (fun u => u.id == id) us r ∧ Below w.heap.size w w1) := ⟨hf, B0.out.trans (hb.mono B0.out.size)⟩
  clear hf hb
  go_wp2
  go_ret
  exact ⟨r, rfl, F.out.1, F.out.2⟩
set_option maxRecDepth 100000 in
set_option maxHeartbeats 2000000 in
theorem orphan_fg (X : WV) (us : List UnV) (j : JbV) (bw : Nat) (v1 v2 v3 v4 v5 : Value) (w : World) (hb : Bw w bw X v1 v2 v3 v4 v5) (hw : Unl w v4 us) :
    Calls Tryz.prog 108 (#[j.val] ++ #[.pointer (some ⟨bw, 0, none⟩)]) w fun e w' => e = .returned (.bool (orphanJ us j)) ∧ Below w.heap.size w w' := by
  have H : Hid (Unl w v4 us) := hw
  have B0 : Hid (Below w.heap.size w (w.alloc (Obj.cells #[.int .i64 j.player, .int .i64 j.unit, .int .i64 j.kind, .int .i64 j.left] 94))) := (Below.refl _ _).alloc (Nat.le_refl _) _
  have O0 : Hid (Jbc (w.alloc (Obj.cells #[.int .i64 j.player, .int .i64 j.unit, .int .i64 j.kind, .int .i64 j.left] 94)) ⟨w.heap.size, 0, none⟩ j) := Jbc.mk' j rfl
  have X0 : Hid (Bw (w.alloc (Obj.cells #[.int .i64 j.player, .int .i64 j.unit, .int .i64 j.kind, .int .i64 j.left] 94)) bw X v1 v2 v3 v4 v5) := hb.below B0.out hb.lt
  clear hw hb
  show Calls Tryz.prog 108 #[j.val, .pointer (some ⟨bw, 0, none⟩)] w _
  unfold JbV.val
  go_enter Tryz.func108, Tryz.ntmps108
  go_upto_region 1 with fail
  generalize (w.alloc (Obj.cells #[.int .i64 j.player, .int .i64 j.unit, .int .i64 j.kind, .int .i64 j.left] 94)) = w0 at *
  obtain ⟨q0, q1, q2, q3⟩ := O0.out
  obtain ⟨x0, x1, x2, x3, x4, x5, x6, x7, x8⟩ := X0.out
  go_wp2_with fail
  refine (wfind_us X us v1 v2 v3 v4 v5 j.unit w0 (H.out.below B0.out)).mono ?_
  rintro e w1 ⟨r, rfl, hf, hb⟩
  have B1 : Hid (Below w.heap.size w w1) := B0.out.trans (hb.mono B0.out.size)
  have OR : Hid (orphanJ us j = decide (r < 0)) := by
    have := hf.has
    unfold Hid orphanJ
    rw [← this]
    by_cases h : 0 ≤ r
    · rw [decide_eq_true h, decide_eq_false (by omega)]; rfl
    · rw [decide_eq_false h, decide_eq_true (by omega)]; rfl
  clear hb hf q0 q1 q2 q3 x0 x1 x2 x3 x4 x5 x6 x7 x8
  go_wp2
  go_ret
  exact ⟨by rw [OR.out]; rfl, B1.out⟩
theorem strike_own (vk : Value) (ks : List KV) (X : WV) (g1 g2 g3 g4 g5 : Value) (Wn base : Nat) (w : World) (hX : WRight ks X) (hW : X.wide = (Wn : Nat)) (h1 : 0 < Wn) (h2 : Wn ≤ 12)
    (hk : Kl w vk ks) (hw : Wl w (.agg #[.int .i64 X.turn, .int .i64 X.next, .int .i64 X.wide, .int .i64 X.high, g1, g2, g3, g4, g5]) X) (hub : Uno w base g4 X.us) :
    Calls Tryz.prog 106 #[vk, .agg #[.int .i64 X.turn, .int .i64 X.next, .int .i64 X.wide, .int .i64 X.high, g1, g2, g3, g4, g5]] w fun e w' => ∃ ev, e = .returned ev ∧ Evo w' w.heap.size ev (strikes ks Wn X.us X.us).2 ∧ Uno w' base g4 (hurt X.us (strikes ks Wn X.us X.us).1) ∧ w.grownBy w' g4.ownBlock := by
  by_cases hne : X.us = []
  · obtain ⟨a, c, rfl⟩ := hub.len
    rw [hne] at hub hw ⊢
    refine (strike_nil vk _ _ _ _ g1 g2 g3 g5 a c w).mono ?_
    rintro e w' ⟨rfl, hb⟩
    exact ⟨_, rfl, Evo.nil _ _, hub.below hb, gb_below hb⟩
  · rcases hub.ub with ⟨-, h⟩ | ⟨g, cap, rest, rfl, hbg, hkc, hcm, hcl, hu⟩
    · exact absurd h hne
    · refine (strike_some vk ks X X.us g1 g2 g3 g5 g cap Wn rest w hX rfl hW h1 h2 hne hk hw hu).mono ?_
      rintro e w' ⟨ev, rfl, he, hu', hkp⟩
      have hl : (hurt X.us (strikes ks Wn X.us X.us).1).length = X.us.length := hurt_len strikes_len'
      have h3 := hu'.uno (base := base) (cap := cap) hbg (by rw [hl]; exact hkc) hcm (by rw [hl]; exact hcl)
      rw [hl] at h3
      exact ⟨ev, rfl, he, h3, gb_kp hkp⟩
end Go.Proofs.YtoabhfipikkkeaaGreatDoor

namespace Go.Proofs.YtoabhfipikkkeaaGreatDoor
open Go.RowKit
set_option linter.unusedVariables false

def fellE (u : UnV) : EvV := ⟨3, u.id, 0⟩
/-- who is struck, who stays. -/
def struck (ks : List KV) (Wn : Nat) (X : WV) : List UnV := hurt X.us (strikes ks Wn X.us X.us).1
def stays (ks : List KV) (Wn : Nat) (X : WV) : List UnV := (struck ks Wn X).filter (fun u => !fallenU u)
def fought (ks : List KV) (Wn : Nat) (X : WV) : WV := { X with us := stays ks Wn X, qs := X.qs.filter (fun j => !orphanJ (stays ks Wn X) j) }
def fevents (ks : List KV) (Wn : Nat) (X : WV) : List EvV := (strikes ks Wn X.us X.us).2 ++ ((struck ks Wn X).filter fallenU).map fellE
theorem strikes_evlen {ks : List KV} {W : Nat} {us : List UnV} : ∀ (l : List UnV) (s : List Int × List EvV), (l.foldl (stk ks W us) s).2.length ≤ s.2.length + l.length
  | [], s => Nat.le_refl _
  | u :: l, s => by
    rw [List.foldl_cons]
    have h1 := strikes_evlen (ks := ks) (W := W) (us := us) l (stk ks W us s u)
    have h2 : (stk ks W us s u).2.length ≤ s.2.length + 1 := by
      unfold stk
      split
      · omega
      · simp
    rw [List.length_cons]
    omega
theorem fell_next {hs : List UnV} {n : Nat} {y : UnV} (hy : hs[n]? = some y) : ((hs.take (n + 1)).filter fallenU).map fellE = ((hs.take n).filter fallenU).map fellE ++ (if fallenU y then [fellE y] else []) := by
  obtain ⟨hi, e⟩ := List.getElem?_eq_some_iff.1 hy
  rw [List.take_succ_eq_append_getElem hi, e, List.filter_append, List.map_append]
  cases h : fallenU y <;> simp [h]
/-- what Fight tells. -/
def FightSays (ks : List KV) (X : WV) (w w' : World) (v ev : Value) : Prop :=
  (Wd.wfault ks X ≠ 0 ∧ v = .agg #[.int .i64 0, .int .i64 0, .int .i64 0, .int .i64 0, .slice none 0 0, .slice none 0 0, .slice none 0 0, .slice none 0 0, .slice none 0 0] ∧ ev = .slice none 0 0)
  ∨ (Wd.wfault ks X = 0 ∧ ∃ Wn : Nat, X.wide = (Wn : Nat) ∧ 0 < Wn ∧ Wn ≤ 12 ∧ Wo w' w.heap.size v (fought ks Wn X) ∧ Evo w' w.heap.size ev (fevents ks Wn X))
set_option maxRecDepth 100000 in
set_option maxHeartbeats 16000000 in
theorem Fight_any (vk vw : Value) (ks : List KV) (X : WV) (w : World) (hk : Kl w vk ks) (hb : ∀ k ∈ ks, k.b.size ≤ 9223372036854775807) (hw : Wl w vw X) :
    Calls Tryz.prog 49 #[vk, vw] w fun e w' => ∃ v ev r, e = .returned (.tuple #[v, ev, r]) ∧ Er r (Wd.wfault ks X) ∧ FightSays ks X w w' v ev ∧ Below w.heap.size w w' := by
  have K : Hid (Kl w vk ks ∧ ∀ k ∈ ks, k.b.size ≤ 9223372036854775807) := ⟨hk, hb⟩
  have H : Hid (Wl w vw X) := hw
  obtain ⟨p1, q1, p2, q2, p3, q3, p4, q4, p5, q5, rfl⟩ := wl_shape9 hw
  obtain ⟨pk, qk, rfl, ck1, ck2, kc⟩ := hk
  clear hb hw kc
  go_enter Tryz.func49, Tryz.ntmps49
  go_upto_region 1 with fail
  have B0 : Hid (Below w.heap.size w ((w.alloc (Obj.cells #[.int .i64 X.turn, .int .i64 X.next, .int .i64 X.wide, .int .i64 X.high, .slice p1 X.gs.length q1, .slice p2 X.os.length q2, .slice p3 X.gold.length q3, .slice p4 X.us.length q4, .slice p5 X.qs.length q5] 29)).alloc (Obj.cells #[.int .i64 0, .int .i64 0, .int .i64 0, .int .i64 0, .slice none 0 0, .slice none 0 0, .slice none 0 0, .slice none 0 0, .slice none 0 0] 29))) := ((Below.refl _ _).alloc (Nat.le_refl _) _).alloc (by simp) _
  have X0 : Hid (Wx ((w.alloc (Obj.cells #[.int .i64 X.turn, .int .i64 X.next, .int .i64 X.wide, .int .i64 X.high, .slice p1 X.gs.length q1, .slice p2 X.os.length q2, .slice p3 X.gold.length q3, .slice p4 X.us.length q4, .slice p5 X.qs.length q5] 29)).alloc (Obj.cells #[.int .i64 0, .int .i64 0, .int .i64 0, .int .i64 0, .slice none 0 0, .slice none 0 0, .slice none 0 0, .slice none 0 0, .slice none 0 0] 29)) (w.heap.size) (.int .i64 X.turn) (.int .i64 X.next) (.int .i64 X.wide) (.int .i64 X.high) (.slice p1 X.gs.length q1) (.slice p2 X.os.length q2) (.slice p3 X.gold.length q3) (.slice p4 X.us.length q4) (.slice p5 X.qs.length q5)) := (Wx.new (.int .i64 X.turn) (.int .i64 X.next) (.int .i64 X.wide) (.int .i64 X.high) (.slice p1 X.gs.length q1) (.slice p2 X.os.length q2) (.slice p3 X.gold.length q3) (.slice p4 X.us.length q4) (.slice p5 X.qs.length q5) rfl).below ((Below.refl _ _).alloc (Nat.le_refl _) _) (by simp)
  have Z0 : Hid (Wx ((w.alloc (Obj.cells #[.int .i64 X.turn, .int .i64 X.next, .int .i64 X.wide, .int .i64 X.high, .slice p1 X.gs.length q1, .slice p2 X.os.length q2, .slice p3 X.gold.length q3, .slice p4 X.us.length q4, .slice p5 X.qs.length q5] 29)).alloc (Obj.cells #[.int .i64 0, .int .i64 0, .int .i64 0, .int .i64 0, .slice none 0 0, .slice none 0 0, .slice none 0 0, .slice none 0 0, .slice none 0 0] 29)) (w.heap.size + 1) (.int .i64 0) (.int .i64 0) (.int .i64 0) (.int .i64 0) (.slice none 0 0) (.slice none 0 0) (.slice none 0 0) (.slice none 0 0) (.slice none 0 0)) := Wx.new (.int .i64 0) (.int .i64 0) (.int .i64 0) (.int .i64 0) (.slice none 0 0) (.slice none 0 0) (.slice none 0 0) (.slice none 0 0) (.slice none 0 0) (by simp)
  generalize ((w.alloc (Obj.cells #[.int .i64 X.turn, .int .i64 X.next, .int .i64 X.wide, .int .i64 X.high, .slice p1 X.gs.length q1, .slice p2 X.os.length q2, .slice p3 X.gold.length q3, .slice p4 X.us.length q4, .slice p5 X.qs.length q5] 29)).alloc (Obj.cells #[.int .i64 0, .int .i64 0, .int .i64 0, .int .i64 0, .slice none 0 0, .slice none 0 0, .slice none 0 0, .slice none 0 0, .slice none 0 0] 29)) = w0 at *
  obtain ⟨x0, x1, x2, x3, x4, x5, x6, x7, x8⟩ := X0.out.cells
  go_wp2_with fail
  refine (wcheck_any _ _ ks X w0 (K.out.1.below B0.out) K.out.2 (H.out.below B0.out)).mono ?_
  rintro e w1 ⟨r, rfl, hr, hb⟩
  obtain ⟨fw, hfw⟩ : ∃ f, Wd.wfault ks X = f := ⟨_, rfl⟩
  have FW : Hid (Wd.wfault ks X = fw) := hfw
  rw [hfw] at hr
  have B1 : Hid (Below w.heap.size w w1) := B0.out.trans (hb.mono B0.out.size)
  have X1 : Hid (Wx w1 (w.heap.size) (.int .i64 X.turn) (.int .i64 X.next) (.int .i64 X.wide) (.int .i64 X.high) (.slice p1 X.gs.length q1) (.slice p2 X.os.length q2) (.slice p3 X.gold.length q3) (.slice p4 X.us.length q4) (.slice p5 X.qs.length q5)) := X0.out.below hb X0.out.lt
  have Z1 : Hid (Wx w1 (w.heap.size + 1) (.int .i64 0) (.int .i64 0) (.int .i64 0) (.int .i64 0) (.slice none 0 0) (.slice none 0 0) (.slice none 0 0) (.slice none 0 0) (.slice none 0 0)) := Z0.out.below hb Z0.out.lt
  clear hb hfw x0 x1 x2 x3 x4 x5 x6 x7 x8 X0 B0 Z0
  rcases hr with ⟨rfl, rfl⟩ | ⟨hf, rfl⟩
  case inr =>
    have HF : Hid (fw ≠ 0) := hf
    clear hf
    obtain ⟨z0, z1, z2, z3, z4, z5, z6, z7, z8⟩ := Z1.out.cells
    obtain ⟨t0, t1, t2, t3, t4, t5, t6, t7, t8⟩ := Z1.out.thaws
    have KZ : Hid (Kp (w.heap.size + 1) w1 (((((((((w1.setCell ⟨w.heap.size + 1, 0, none⟩ (.int .i64 0)).setCell ⟨w.heap.size + 1, 1, none⟩ (.int .i64 0)).setCell ⟨w.heap.size + 1, 2, none⟩ (.int .i64 0)).setCell ⟨w.heap.size + 1, 3, none⟩ (.int .i64 0)).setCell ⟨w.heap.size + 1, 4, none⟩ (.slice none 0 0)).setCell ⟨w.heap.size + 1, 5, none⟩ (.slice none 0 0)).setCell ⟨w.heap.size + 1, 6, none⟩ (.slice none 0 0)).setCell ⟨w.heap.size + 1, 7, none⟩ (.slice none 0 0)).setCell ⟨w.heap.size + 1, 8, none⟩ (.slice none 0 0))) := put_kp _ _ _ _ _ _ _ _ _ _ _
    obtain ⟨y0, y1, y2, y3, y4, y5, y6, y7, y8⟩ := (Z1.out.put (.int .i64 0) (.int .i64 0) (.int .i64 0) (.int .i64 0) (.slice none 0 0) (.slice none 0 0) (.slice none 0 0) (.slice none 0 0) (.slice none 0 0)).cells
    go_wp2
    clear z0 z1 z2 z3 z4 z5 z6 z7 z8 t0 t1 t2 t3 t4 t5 t6 t7 t8
    generalize (((((((((w1.setCell ⟨w.heap.size + 1, 0, none⟩ (.int .i64 0)).setCell ⟨w.heap.size + 1, 1, none⟩ (.int .i64 0)).setCell ⟨w.heap.size + 1, 2, none⟩ (.int .i64 0)).setCell ⟨w.heap.size + 1, 3, none⟩ (.int .i64 0)).setCell ⟨w.heap.size + 1, 4, none⟩ (.slice none 0 0)).setCell ⟨w.heap.size + 1, 5, none⟩ (.slice none 0 0)).setCell ⟨w.heap.size + 1, 6, none⟩ (.slice none 0 0)).setCell ⟨w.heap.size + 1, 7, none⟩ (.slice none 0 0)).setCell ⟨w.heap.size + 1, 8, none⟩ (.slice none 0 0)) = w9 at *
    refine bodyPost_ret (v := .tuple #[.agg #[.int .i64 0, .int .i64 0, .int .i64 0, .int .i64 0, .slice none 0 0, .slice none 0 0, .slice none 0 0, .slice none 0 0, .slice none 0 0], .slice none 0 0, .iface 99 (.int .i64 fw)]) (by simp [results, Tryz.results49, go_sem, y0, y1, y2, y3, y4, y5, y6, y7, y8]) rfl ⟨_, _, _, rfl, by rw [FW.out]; exact Er.no HF.out, .inl ⟨by rw [FW.out]; exact HF.out, rfl, rfl⟩, KZ.out.below B1.out B1.out.size (by omega)⟩
  have WR : Hid (WRight ks X) := wright_of FW.out
  obtain ⟨Wn, Hn, e1, e2, G⟩ := WR.out.good
  have GD : Hid (X.wide = (Wn : Nat) ∧ 0 < Wn ∧ Wn ≤ 12) := ⟨e1, G.w1, G.w2⟩
  clear e1 e2 G
  obtain ⟨x0, x1, x2, x3, x4, x5, x6, x7, x8⟩ := X1.out.cells
  go_wp2_with fail
  refine (copy_any _ X w1 (H.out.below B1.out) WR.out.len).mono ?_
  rintro e w2 ⟨cu, rfl, ⟨k1, k2, k3, k4, k5, rfl, ⟨o1, o2, o3, o4, o5⟩, -, -, d14, d15, -, d24, d25, d34, d35, d45⟩, hb⟩
  obtain ⟨a1, r1, rfl⟩ := o1.len
  obtain ⟨a2, r2, rfl⟩ := o2.len
  obtain ⟨a3, r3, rfl⟩ := o3.len
  obtain ⟨a4, r4, rfl⟩ := o4.len
  obtain ⟨a5, r5, rfl⟩ := o5.len
  obtain ⟨b1, hb1⟩ : ∃ z, w1.heap.size = z := ⟨_, rfl⟩
  rw [hb1] at o1 o2 o3 o4 o5
  have BS : Hid (w.heap.size + 1 < b1 ∧ b1 ≤ w2.heap.size) := ⟨by rw [← hb1]; exact Z1.out.lt, by rw [← hb1]; exact hb.size⟩
  have X2 : Hid (Wx w2 (w.heap.size) (.int .i64 X.turn) (.int .i64 X.next) (.int .i64 X.wide) (.int .i64 X.high) (.slice p1 X.gs.length q1) (.slice p2 X.os.length q2) (.slice p3 X.gold.length q3) (.slice p4 X.us.length q4) (.slice p5 X.qs.length q5)) := X1.out.below hb X1.out.lt
  have Z2 : Hid (Wx w2 (w.heap.size + 1) (.int .i64 0) (.int .i64 0) (.int .i64 0) (.int .i64 0) (.slice none 0 0) (.slice none 0 0) (.slice none 0 0) (.slice none 0 0) (.slice none 0 0)) := Z1.out.below hb Z1.out.lt
  have B2 : Hid (Below w.heap.size w w2) := B1.out.trans (hb.mono B1.out.size)
  have O2 : Hid (Ow w2 b1 (Value.slice a1 X.gs.length r1) X.gs ∧ Ow w2 b1 (Value.slice a2 X.os.length r2) X.os ∧ Ow w2 b1 (Value.slice a3 X.gold.length r3) X.gold ∧ Uno w2 b1 (Value.slice a4 X.us.length r4) X.us ∧ Jbo w2 b1 (Value.slice a5 X.qs.length r5) X.qs) := ⟨o1, o2, o3, o4, o5⟩
  have DD : Hid (Dif (Value.slice a1 X.gs.length r1) (Value.slice a4 X.us.length r4) ∧ Dif (Value.slice a1 X.gs.length r1) (Value.slice a5 X.qs.length r5) ∧ Dif (Value.slice a2 X.os.length r2) (Value.slice a4 X.us.length r4) ∧ Dif (Value.slice a2 X.os.length r2) (Value.slice a5 X.qs.length r5) ∧ Dif (Value.slice a3 X.gold.length r3) (Value.slice a4 X.us.length r4) ∧ Dif (Value.slice a3 X.gold.length r3) (Value.slice a5 X.qs.length r5) ∧ Dif (Value.slice a4 X.us.length r4) (Value.slice a5 X.qs.length r5)) := ⟨d14, d15, d24, d25, d34, d35, d45⟩
  clear hb hb1 x0 x1 x2 x3 x4 x5 x6 x7 x8 o1 o2 o3 o4 o5 d14 d15 d24 d25 d34 d35 d45 X1 Z1 B1
  obtain ⟨z0, z1, z2, z3, z4, z5, z6, z7, z8⟩ := X2.out.cells
  obtain ⟨t0, t1, t2, t3, t4, t5, t6, t7, t8⟩ := X2.out.thaws
  have KZ : Hid (Kp (w.heap.size) w2 (((((((((w2.setCell ⟨w.heap.size, 0, none⟩ (.int .i64 X.turn)).setCell ⟨w.heap.size, 1, none⟩ (.int .i64 X.next)).setCell ⟨w.heap.size, 2, none⟩ (.int .i64 X.wide)).setCell ⟨w.heap.size, 3, none⟩ (.int .i64 X.high)).setCell ⟨w.heap.size, 4, none⟩ (Value.slice a1 X.gs.length r1)).setCell ⟨w.heap.size, 5, none⟩ (Value.slice a2 X.os.length r2)).setCell ⟨w.heap.size, 6, none⟩ (Value.slice a3 X.gold.length r3)).setCell ⟨w.heap.size, 7, none⟩ (Value.slice a4 X.us.length r4)).setCell ⟨w.heap.size, 8, none⟩ (Value.slice a5 X.qs.length r5))) := put_kp _ _ _ _ _ _ _ _ _ _ _
  have X3 : Hid (Wx (((((((((w2.setCell ⟨w.heap.size, 0, none⟩ (.int .i64 X.turn)).setCell ⟨w.heap.size, 1, none⟩ (.int .i64 X.next)).setCell ⟨w.heap.size, 2, none⟩ (.int .i64 X.wide)).setCell ⟨w.heap.size, 3, none⟩ (.int .i64 X.high)).setCell ⟨w.heap.size, 4, none⟩ (Value.slice a1 X.gs.length r1)).setCell ⟨w.heap.size, 5, none⟩ (Value.slice a2 X.os.length r2)).setCell ⟨w.heap.size, 6, none⟩ (Value.slice a3 X.gold.length r3)).setCell ⟨w.heap.size, 7, none⟩ (Value.slice a4 X.us.length r4)).setCell ⟨w.heap.size, 8, none⟩ (Value.slice a5 X.qs.length r5)) (w.heap.size) (.int .i64 X.turn) (.int .i64 X.next) (.int .i64 X.wide) (.int .i64 X.high) (Value.slice a1 X.gs.length r1) (Value.slice a2 X.os.length r2) (Value.slice a3 X.gold.length r3) (Value.slice a4 X.us.length r4) (Value.slice a5 X.qs.length r5)) := X2.out.put (.int .i64 X.turn) (.int .i64 X.next) (.int .i64 X.wide) (.int .i64 X.high) (Value.slice a1 X.gs.length r1) (Value.slice a2 X.os.length r2) (Value.slice a3 X.gold.length r3) (Value.slice a4 X.us.length r4) (Value.slice a5 X.qs.length r5)
  go_upto_region 5 with fail
  clear z0 z1 z2 z3 z4 z5 z6 z7 z8 t0 t1 t2 t3 t4 t5 t6 t7 t8
  generalize (((((((((w2.setCell ⟨w.heap.size, 0, none⟩ (.int .i64 X.turn)).setCell ⟨w.heap.size, 1, none⟩ (.int .i64 X.next)).setCell ⟨w.heap.size, 2, none⟩ (.int .i64 X.wide)).setCell ⟨w.heap.size, 3, none⟩ (.int .i64 X.high)).setCell ⟨w.heap.size, 4, none⟩ (Value.slice a1 X.gs.length r1)).setCell ⟨w.heap.size, 5, none⟩ (Value.slice a2 X.os.length r2)).setCell ⟨w.heap.size, 6, none⟩ (Value.slice a3 X.gold.length r3)).setCell ⟨w.heap.size, 7, none⟩ (Value.slice a4 X.us.length r4)).setCell ⟨w.heap.size, 8, none⟩ (Value.slice a5 X.qs.length r5)) = w3 at *
  have Z3 : Hid (Wx w3 (w.heap.size + 1) (.int .i64 0) (.int .i64 0) (.int .i64 0) (.int .i64 0) (.slice none 0 0) (.slice none 0 0) (.slice none 0 0) (.slice none 0 0) (.slice none 0 0)) := Z2.out.kp KZ.out (by omega)
  have B3 : Hid (Below w.heap.size w w3) := KZ.out.below B2.out B2.out.size (Nat.le_refl _)
  have O3 : Hid (Ow w3 b1 (Value.slice a1 X.gs.length r1) X.gs ∧ Ow w3 b1 (Value.slice a2 X.os.length r2) X.os ∧ Ow w3 b1 (Value.slice a3 X.gold.length r3) X.gold ∧ Uno w3 b1 (Value.slice a4 X.us.length r4) X.us ∧ Jbo w3 b1 (Value.slice a5 X.qs.length r5) X.qs) := by
    have h := BS.out.1
    exact ⟨O2.out.1.kp KZ.out (by omega), O2.out.2.1.kp KZ.out (by omega), O2.out.2.2.1.kp KZ.out (by omega), O2.out.2.2.2.1.kp KZ.out (by omega), O2.out.2.2.2.2.kp KZ.out (by omega)⟩
  obtain ⟨b3, hb3⟩ : ∃ z, w3.heap.size = z := ⟨_, rfl⟩
  have S3 : Hid (b1 ≤ b3 ∧ w3.heap.size = b3) := ⟨by rw [← hb3]; exact Nat.le_trans BS.out.2 KZ.out.size, hb3⟩
  have L3 : Hid (Wl w3 (.agg #[.int .i64 X.turn, .int .i64 X.next, .int .i64 X.wide, .int .i64 X.high, Value.slice a1 X.gs.length r1, Value.slice a2 X.os.length r2, Value.slice a3 X.gold.length r3, Value.slice a4 X.us.length r4, Value.slice a5 X.qs.length r5]) X) := ⟨(Value.slice a1 X.gs.length r1), (Value.slice a2 X.os.length r2), (Value.slice a3 X.gold.length r3), (Value.slice a4 X.us.length r4), (Value.slice a5 X.qs.length r5), rfl, O3.out.1.ro, O3.out.2.1.ro, O3.out.2.2.1.ro, O3.out.2.2.2.1.l, O3.out.2.2.2.2.l⟩
  clear hb3 KZ X2 Z2 B2 O2
  obtain ⟨x0, x1, x2, x3, x4, x5, x6, x7, x8⟩ := X3.out.cells
  go_wp2_with fail
  refine (strike_own _ ks X (Value.slice a1 X.gs.length r1) (Value.slice a2 X.os.length r2) (Value.slice a3 X.gold.length r3) (Value.slice a4 X.us.length r4) (Value.slice a5 X.qs.length r5) Wn b1 w3 WR.out GD.out.1 GD.out.2.1 GD.out.2.2 (K.out.1.below B3.out) L3.out O3.out.2.2.2.1).mono ?_
  rintro e w4 ⟨ev, rfl, hev, hu4, hg⟩
  rw [S3.out.2] at hev
  have BG : Hid (Below b1 w3 w4) := (Below.refl _ _).grown hg (by have := S3.out; omega) (fun k hk => (O3.out.2.2.2.1.block k hk).1)
  have X4 : Hid (Wx w4 (w.heap.size) (.int .i64 X.turn) (.int .i64 X.next) (.int .i64 X.wide) (.int .i64 X.high) (Value.slice a1 X.gs.length r1) (Value.slice a2 X.os.length r2) (Value.slice a3 X.gold.length r3) (Value.slice a4 X.us.length r4) (Value.slice a5 X.qs.length r5)) := X3.out.below BG.out (by have := BS.out.1; omega)
  have Z4 : Hid (Wx w4 (w.heap.size + 1) (.int .i64 0) (.int .i64 0) (.int .i64 0) (.int .i64 0) (.slice none 0 0) (.slice none 0 0) (.slice none 0 0) (.slice none 0 0) (.slice none 0 0)) := Z3.out.below BG.out BS.out.1
  have B4 : Hid (Below w.heap.size w w4) := B3.out.trans (BG.out.mono (by have := BS.out.1; omega))
  have O4 : Hid (Ow w4 b1 (Value.slice a1 X.gs.length r1) X.gs ∧ Ow w4 b1 (Value.slice a2 X.os.length r2) X.os ∧ Ow w4 b1 (Value.slice a3 X.gold.length r3) X.gold ∧ Jbo w4 b1 (Value.slice a5 X.qs.length r5) X.qs) := ⟨own_gb O3.out.1 hg (fun b h1 h2 => DD.out.1 b h1 h2), own_gb O3.out.2.1 hg (fun b h1 h2 => DD.out.2.2.1 b h1 h2), own_gb O3.out.2.2.1 hg (fun b h1 h2 => DD.out.2.2.2.2.1 b h1 h2), own_gb O3.out.2.2.2.2 hg (fun b h1 h2 => DD.out.2.2.2.2.2.2 b h2 h1)⟩
  have LB : Hid ((∀ b, (Value.slice a1 X.gs.length r1).ownBlock = some b → b < b3) ∧ (∀ b, (Value.slice a2 X.os.length r2).ownBlock = some b → b < b3) ∧ (∀ b, (Value.slice a3 X.gold.length r3).ownBlock = some b → b < b3) ∧ (∀ b, (Value.slice a4 X.us.length r4).ownBlock = some b → b < b3) ∧ (∀ b, (Value.slice a5 X.qs.length r5).ownBlock = some b → b < b3)) := by
    rw [← S3.out.2]
    exact ⟨fun b h => (O3.out.1.block b h).2, fun b h => (O3.out.2.1.block b h).2, fun b h => (O3.out.2.2.1.block b h).2, fun b h => (O3.out.2.2.2.1.block b h).2, fun b h => (O3.out.2.2.2.2.block b h).2⟩
  obtain ⟨hs, hhs⟩ : ∃ l, struck ks Wn X = l := ⟨_, rfl⟩
  obtain ⟨es, hes⟩ : ∃ l, (strikes ks Wn X.us X.us).2 = l := ⟨_, rfl⟩
  have hu4' : Uno w4 b1 (Value.slice a4 X.us.length r4) (struck ks Wn X) := hu4
  rw [hhs] at hu4'
  rw [hes] at hev
  have U4 : Hid (Uno w4 b1 (Value.slice a4 X.us.length r4) hs) := hu4'
  have E4 : Hid (Evo w4 b3 ev es) := hev
  have HS : Hid (struck ks Wn X = hs ∧ (strikes ks Wn X.us X.us).2 = es ∧ hs.length ≤ 40 ∧ es.length ≤ 40) := by
    have hul := WR.out.ul
    refine ⟨hhs, hes, ?_, ?_⟩
    · rw [← hhs]; unfold struck; rw [hurt_len strikes_len']; exact hul
    · rw [← hes]
      have := strikes_evlen (ks := ks) (W := Wn) (us := X.us) X.us (List.replicate X.us.length 0, [])
      unfold strikes
      simp at this
      omega
  have S4 : Hid (b3 ≤ w4.heap.size) := by have := S3.out.2; have := hg.size; unfold Hid; omega
  have HLN : Hid (hs.length = X.us.length) := by unfold Hid; rw [← HS.out.1]; unfold struck; exact hurt_len strikes_len'
  have hsl : X.us.length ≤ 40 := WR.out.ul
  clear hev hu4 hu4' hg hhs hes x0 x1 x2 x3 x4 x5 x6 x7 x8 X3 Z3 B3 O3 L3 BG
  obtain ⟨-, -, -, -, -, -, -, x7, -⟩ := X4.out.cells
  go_upto_region 8 with fail
  clear x7
  go_loopw [8, 28] (fun v8 v28 V => ∃ (n : Nat) (ev : Value), v28 = .int .i64 (n : Nat) ∧ ev = v8 ∧ n ≤ X.us.length ∧ Evo V b3 ev (es ++ ((hs.take n).filter fallenU).map fellE) ∧ Below b3 w4 V) (fun _ v28 _ => X.us.length - (intOf v28).toNat)
  case atStart => exact ⟨0, _, rfl, rfl, Nat.zero_le _, by simpa using E4.out, Below.refl _ _⟩
  case round =>
    obtain ⟨n, ev', rfl, rfl, hn, hev, hbb⟩ := hrel
    have E5 : Hid (Evo wr b3 ev' (es ++ ((hs.take n).filter fallenU).map fellE)) := hev
    have BB : Hid (Below b3 w4 wr) := hbb
    have UL : Hid (Unl wr (Value.slice a4 X.us.length r4) hs) := Uno.l (own_low U4.out hbb (fun b h => LB.out.2.2.2.1 b h))
    clear hev hbb E4
    by_cases h0 : n = X.us.length
    · subst h0
      rw [List.take_of_length_le (by rw [HLN.out]; exact Nat.le_refl _)] at E5
      have hnl : ¬ (((X.us.length : Nat) : Int) < (X.us.length : Nat)) := by omega
      obtain ⟨fs, hfs⟩ : ∃ l, es ++ (hs.filter fallenU).map fellE = l := ⟨_, rfl⟩
      have FE : Hid (fevents ks Wn X = fs) := by unfold Hid fevents; rw [HS.out.1, HS.out.2.1]; exact hfs
      rw [hfs] at E5
      have U5 : Hid (Uno wr b1 (Value.slice a4 X.us.length r4) hs) := own_low U4.out BB.out (fun b h => LB.out.2.2.2.1 b h)
      have O5 : Hid (Ow wr b1 (Value.slice a1 X.gs.length r1) X.gs ∧ Ow wr b1 (Value.slice a2 X.os.length r2) X.os ∧ Ow wr b1 (Value.slice a3 X.gold.length r3) X.gold ∧ Jbo wr b1 (Value.slice a5 X.qs.length r5) X.qs) := ⟨own_low O4.out.1 BB.out (fun b h => LB.out.1 b h), own_low O4.out.2.1 BB.out (fun b h => LB.out.2.1 b h), own_low O4.out.2.2.1 BB.out (fun b h => LB.out.2.2.1 b h), own_low O4.out.2.2.2 BB.out (fun b h => LB.out.2.2.2.2 b h)⟩
      have X5 : Hid (Wx wr (w.heap.size) (.int .i64 X.turn) (.int .i64 X.next) (.int .i64 X.wide) (.int .i64 X.high) (Value.slice a1 X.gs.length r1) (Value.slice a2 X.os.length r2) (Value.slice a3 X.gold.length r3) (Value.slice a4 X.us.length r4) (Value.slice a5 X.qs.length r5)) := X4.out.below BB.out (by have := BS.out.1; have := S3.out.1; omega)
      have Z5 : Hid (Wx wr (w.heap.size + 1) (.int .i64 0) (.int .i64 0) (.int .i64 0) (.int .i64 0) (.slice none 0 0) (.slice none 0 0) (.slice none 0 0) (.slice none 0 0) (.slice none 0 0)) := Z4.out.below BB.out (by have := BS.out.1; have := S3.out.1; omega)
      have B5 : Hid (Below w.heap.size w wr) := B4.out.trans (BB.out.mono (by have := BS.out.1; have := S3.out.1; omega))
      have S5 : Hid (b1 ≤ wr.heap.size) := by have := S4.out; have := BB.out.size; have := S3.out.1; unfold Hid; omega
      clear hfs UL BB U4 O4 X4 Z4 B4 S4
      obtain ⟨-, -, -, -, -, -, -, x7, -⟩ := X5.out.cells
      go_wp2_with fail
      refine (del_own 107 (by intro args w; go_simp) (Value.slice a4 X.us.length r4) #[] hs fallenU wr b1 U5.out S5.out (by have := HS.out.2.2.1; omega) (fun W _ _ h _ => fallen_fg h W)).mono ?_
      rintro e w6 ⟨v4, rfl, ho, hb, hg, hown⟩
      obtain ⟨st, hst⟩ : ∃ l, hs.filter (fun k => !fallenU k) = l := ⟨_, rfl⟩
      have ST : Hid (stays ks Wn X = st) := by unfold Hid stays; rw [HS.out.1]; exact hst
      rw [hst] at ho
      obtain ⟨a6, r6, rfl⟩ := ho.len
      have U6 : Hid (Uno w6 b1 (.slice a6 st.length r6) st) := ho
      have OB : Hid ((Value.slice a6 st.length r6).ownBlock = ((Value.slice a4 X.us.length r4)).ownBlock) := hown
      have O6 : Hid (Ow w6 b1 (Value.slice a1 X.gs.length r1) X.gs ∧ Ow w6 b1 (Value.slice a2 X.os.length r2) X.os ∧ Ow w6 b1 (Value.slice a3 X.gold.length r3) X.gold ∧ Jbo w6 b1 (Value.slice a5 X.qs.length r5) X.qs) := ⟨own_gb O5.out.1 hg (fun b h1 h2 => DD.out.1 b h1 h2), own_gb O5.out.2.1 hg (fun b h1 h2 => DD.out.2.2.1 b h1 h2), own_gb O5.out.2.2.1 hg (fun b h1 h2 => DD.out.2.2.2.2.1 b h1 h2), own_gb O5.out.2.2.2 hg (fun b h1 h2 => DD.out.2.2.2.2.2.2 b h2 h1)⟩
      have E6 : Hid (Evo w6 b3 ev' fs) := own_gb E5.out hg (fun b h1 h2 => by have := LB.out.2.2.2.1 b h2; have := (E5.out.block b h1).1; omega)
      have X6 : Hid (Wx w6 (w.heap.size) (.int .i64 X.turn) (.int .i64 X.next) (.int .i64 X.wide) (.int .i64 X.high) (Value.slice a1 X.gs.length r1) (Value.slice a2 X.os.length r2) (Value.slice a3 X.gold.length r3) (Value.slice a4 X.us.length r4) (Value.slice a5 X.qs.length r5)) := X5.out.below hb (by have := BS.out.1; omega)
      have Z6 : Hid (Wx w6 (w.heap.size + 1) (.int .i64 0) (.int .i64 0) (.int .i64 0) (.int .i64 0) (.slice none 0 0) (.slice none 0 0) (.slice none 0 0) (.slice none 0 0) (.slice none 0 0)) := Z5.out.below hb BS.out.1
      have B6 : Hid (Below w.heap.size w w6) := B5.out.trans (hb.mono (by have := BS.out.1; omega))
      have S6 : Hid (b1 ≤ w6.heap.size) := Nat.le_trans S5.out hb.size
      clear ho hb hg hown hst x7 U5 O5 X5 Z5 B5 S5 E5
      obtain ⟨-, -, -, -, -, -, -, x7, -⟩ := X6.out.cells
      have t7 := X6.out.thaw 7
      have X7 : Hid (Wx (w6.setCell ⟨w.heap.size, 7, none⟩ (.slice a6 st.length r6)) (w.heap.size) (.int .i64 X.turn) (.int .i64 X.next) (.int .i64 X.wide) (.int .i64 X.high) (Value.slice a1 X.gs.length r1) (Value.slice a2 X.os.length r2) (Value.slice a3 X.gold.length r3) (Value.slice a6 st.length r6) (Value.slice a5 X.qs.length r5)) := X6.out.set7 _
      have K7 : Hid (Kp (w.heap.size) w6 (w6.setCell ⟨w.heap.size, 7, none⟩ (.slice a6 st.length r6))) := Kp.set _ _ _
      go_upto_region 14 with fail
      clear x7 t7
      generalize (w6.setCell ⟨w.heap.size, 7, none⟩ (.slice a6 st.length r6)) = w7 at *
      have U7 : Hid (Uno w7 b1 (.slice a6 st.length r6) st) := U6.out.kp K7.out (by have := BS.out.1; omega)
      have O7 : Hid (Ow w7 b1 (Value.slice a1 X.gs.length r1) X.gs ∧ Ow w7 b1 (Value.slice a2 X.os.length r2) X.os ∧ Ow w7 b1 (Value.slice a3 X.gold.length r3) X.gold ∧ Jbo w7 b1 (Value.slice a5 X.qs.length r5) X.qs) := by
        have h := BS.out.1
        exact ⟨O6.out.1.kp K7.out (by omega), O6.out.2.1.kp K7.out (by omega), O6.out.2.2.1.kp K7.out (by omega), O6.out.2.2.2.kp K7.out (by omega)⟩
      have E7 : Hid (Evo w7 b3 ev' fs) := E6.out.kp9 K7.out (by have := BS.out.1; have := S3.out.1; omega)
      have Z7 : Hid (Wx w7 (w.heap.size + 1) (.int .i64 0) (.int .i64 0) (.int .i64 0) (.int .i64 0) (.slice none 0 0) (.slice none 0 0) (.slice none 0 0) (.slice none 0 0) (.slice none 0 0)) := Z6.out.kp K7.out (by omega)
      have B7 : Hid (Below w.heap.size w w7) := K7.out.below B6.out B6.out.size (Nat.le_refl _)
      have S7 : Hid (b1 ≤ w7.heap.size) := Nat.le_trans S6.out K7.out.size
      clear K7 U6 O6 E6 Z6 B6 S6 X6
      obtain ⟨-, -, -, -, -, -, -, -, x8⟩ := X7.out.cells
      go_wp2_with fail
      refine (delj_own 108 (by intro args w; go_simp) (Value.slice a5 X.qs.length r5) #[.pointer (some ⟨w.heap.size, 0, none⟩)] X.qs (orphanJ st) w7 b1 O7.out.2.2.2 S7.out (by have := WR.out.ql; omega) (fun W hbW hgW j _ => orphan_fg X st j _ _ _ _ _ _ W (wx_bw (X7.out.below hbW (by have := BS.out.1; omega))) (Uno.l (own_gb U7.out hgW (fun b h1 h2 => DD.out.2.2.2.2.2.2 b (by rw [← OB.out]; exact h1) h2))))).mono ?_
      rintro e w8 ⟨v5, rfl, ho, hb, hg, -⟩
      obtain ⟨qs', hqs⟩ : ∃ l, X.qs.filter (fun k => !orphanJ st k) = l := ⟨_, rfl⟩
      have FO : Hid (fought ks Wn X = { X with us := st, qs := qs' }) := by unfold Hid fought; rw [ST.out, hqs]
      rw [hqs] at ho
      obtain ⟨a8, r8, rfl⟩ := ho.len
      have J8 : Hid (Jbo w8 b1 (.slice a8 qs'.length r8) qs') := ho
      have O8 : Hid (Ow w8 b1 (Value.slice a1 X.gs.length r1) X.gs ∧ Ow w8 b1 (Value.slice a2 X.os.length r2) X.os ∧ Ow w8 b1 (Value.slice a3 X.gold.length r3) X.gold ∧ Uno w8 b1 (.slice a6 st.length r6) st) := ⟨own_gb O7.out.1 hg (fun b h1 h2 => DD.out.2.1 b h1 h2), own_gb O7.out.2.1 hg (fun b h1 h2 => DD.out.2.2.2.1 b h1 h2), own_gb O7.out.2.2.1 hg (fun b h1 h2 => DD.out.2.2.2.2.2.1 b h1 h2), own_gb U7.out hg (fun b h1 h2 => DD.out.2.2.2.2.2.2 b (by rw [← OB.out]; exact h1) h2)⟩
      have E8 : Hid (Evo w8 b3 ev' fs) := own_gb E7.out hg (fun b h1 h2 => by have := LB.out.2.2.2.2 b h2; have := (E7.out.block b h1).1; omega)
      have X8 : Hid (Wx w8 (w.heap.size) (.int .i64 X.turn) (.int .i64 X.next) (.int .i64 X.wide) (.int .i64 X.high) (Value.slice a1 X.gs.length r1) (Value.slice a2 X.os.length r2) (Value.slice a3 X.gold.length r3) (Value.slice a6 st.length r6) (Value.slice a5 X.qs.length r5)) := X7.out.below hb (by have := BS.out.1; omega)
      have Z8 : Hid (Wx w8 (w.heap.size + 1) (.int .i64 0) (.int .i64 0) (.int .i64 0) (.int .i64 0) (.slice none 0 0) (.slice none 0 0) (.slice none 0 0) (.slice none 0 0) (.slice none 0 0)) := Z7.out.below hb BS.out.1
      have B8 : Hid (Below w.heap.size w w8) := B7.out.trans (hb.mono (by have := BS.out.1; omega))
      clear ho hb hg hqs x8 U7 O7 X7 Z7 B7 S7 E7
      obtain ⟨-, -, -, -, -, -, -, -, x8⟩ := X8.out.cells
      have t8 := X8.out.thaw 8
      have X9 : Hid (Wx (w8.setCell ⟨w.heap.size, 8, none⟩ (.slice a8 qs'.length r8)) (w.heap.size) (.int .i64 X.turn) (.int .i64 X.next) (.int .i64 X.wide) (.int .i64 X.high) (Value.slice a1 X.gs.length r1) (Value.slice a2 X.os.length r2) (Value.slice a3 X.gold.length r3) (Value.slice a6 st.length r6) (Value.slice a8 qs'.length r8)) := X8.out.set8 _
      have K9 : Hid (Kp (w.heap.size) w8 (w8.setCell ⟨w.heap.size, 8, none⟩ (.slice a8 qs'.length r8))) := Kp.set _ _ _
      go_upto_region 16 with fail
      clear x8 t8
      generalize (w8.setCell ⟨w.heap.size, 8, none⟩ (.slice a8 qs'.length r8)) = w9 at *
      have J9 : Hid (Jbo w9 b1 (.slice a8 qs'.length r8) qs') := J8.out.kp K9.out (by have := BS.out.1; omega)
      have O9 : Hid (Ow w9 b1 (Value.slice a1 X.gs.length r1) X.gs ∧ Ow w9 b1 (Value.slice a2 X.os.length r2) X.os ∧ Ow w9 b1 (Value.slice a3 X.gold.length r3) X.gold ∧ Uno w9 b1 (.slice a6 st.length r6) st) := by
        have h := BS.out.1
        exact ⟨O8.out.1.kp K9.out (by omega), O8.out.2.1.kp K9.out (by omega), O8.out.2.2.1.kp K9.out (by omega), O8.out.2.2.2.kp K9.out (by omega)⟩
      have E9 : Hid (Evo w9 b3 ev' fs) := E8.out.kp9 K9.out (by have := BS.out.1; have := S3.out.1; omega)
      have Z9 : Hid (Wx w9 (w.heap.size + 1) (.int .i64 0) (.int .i64 0) (.int .i64 0) (.int .i64 0) (.slice none 0 0) (.slice none 0 0) (.slice none 0 0) (.slice none 0 0) (.slice none 0 0)) := Z8.out.kp K9.out (by omega)
      have B9 : Hid (Below w.heap.size w w9) := K9.out.below B8.out B8.out.size (Nat.le_refl _)
      clear K9 J8 O8 E8 Z8 B8 X8
      obtain ⟨x0, x1, x2, x3, x4, x5, x6, x7, x8⟩ := X9.out.cells
      obtain ⟨z0, z1, z2, z3, z4, z5, z6, z7, z8⟩ := Z9.out.cells
      obtain ⟨t0, t1, t2, t3, t4, t5, t6, t7, t8⟩ := Z9.out.thaws
      have KZ : Hid (Kp (w.heap.size + 1) w9 (((((((((w9.setCell ⟨w.heap.size + 1, 0, none⟩ (.int .i64 X.turn)).setCell ⟨w.heap.size + 1, 1, none⟩ (.int .i64 X.next)).setCell ⟨w.heap.size + 1, 2, none⟩ (.int .i64 X.wide)).setCell ⟨w.heap.size + 1, 3, none⟩ (.int .i64 X.high)).setCell ⟨w.heap.size + 1, 4, none⟩ (Value.slice a1 X.gs.length r1)).setCell ⟨w.heap.size + 1, 5, none⟩ (Value.slice a2 X.os.length r2)).setCell ⟨w.heap.size + 1, 6, none⟩ (Value.slice a3 X.gold.length r3)).setCell ⟨w.heap.size + 1, 7, none⟩ (Value.slice a6 st.length r6)).setCell ⟨w.heap.size + 1, 8, none⟩ (Value.slice a8 qs'.length r8))) := put_kp _ _ _ _ _ _ _ _ _ _ _
      obtain ⟨y0, y1, y2, y3, y4, y5, y6, y7, y8⟩ := (Z9.out.put (.int .i64 X.turn) (.int .i64 X.next) (.int .i64 X.wide) (.int .i64 X.high) (Value.slice a1 X.gs.length r1) (Value.slice a2 X.os.length r2) (Value.slice a3 X.gold.length r3) (Value.slice a6 st.length r6) (Value.slice a8 qs'.length r8)).cells
      go_wp2
      clear x0 x1 x2 x3 x4 x5 x6 x7 x8 z0 z1 z2 z3 z4 z5 z6 z7 z8 t0 t1 t2 t3 t4 t5 t6 t7 t8
      generalize (((((((((w9.setCell ⟨w.heap.size + 1, 0, none⟩ (.int .i64 X.turn)).setCell ⟨w.heap.size + 1, 1, none⟩ (.int .i64 X.next)).setCell ⟨w.heap.size + 1, 2, none⟩ (.int .i64 X.wide)).setCell ⟨w.heap.size + 1, 3, none⟩ (.int .i64 X.high)).setCell ⟨w.heap.size + 1, 4, none⟩ (Value.slice a1 X.gs.length r1)).setCell ⟨w.heap.size + 1, 5, none⟩ (Value.slice a2 X.os.length r2)).setCell ⟨w.heap.size + 1, 6, none⟩ (Value.slice a3 X.gold.length r3)).setCell ⟨w.heap.size + 1, 7, none⟩ (Value.slice a6 st.length r6)).setCell ⟨w.heap.size + 1, 8, none⟩ (Value.slice a8 qs'.length r8)) = wz at *
      refine bodyPost_ret (v := .tuple #[.agg #[.int .i64 X.turn, .int .i64 X.next, .int .i64 X.wide, .int .i64 X.high, Value.slice a1 X.gs.length r1, Value.slice a2 X.os.length r2, Value.slice a3 X.gold.length r3, Value.slice a6 st.length r6, Value.slice a8 qs'.length r8], ev', .nilIface]) (by simp [results, Tryz.results49, go_sem, y0, y1, y2, y3, y4, y5, y6, y7, y8]) rfl ⟨_, _, _, rfl, by rw [FW.out]; exact Er.nil, .inr ⟨FW.out, Wn, GD.out.1, GD.out.2.1, GD.out.2.2, ?_, ?_⟩, KZ.out.below B9.out B9.out.size (by omega)⟩
      · have h := BS.out.1
        rw [FO.out]
        exact ⟨_, _, _, _, _, rfl, (O9.out.1.kp KZ.out (by omega)).mono (by omega), (O9.out.2.1.kp KZ.out (by omega)).mono (by omega), (O9.out.2.2.1.kp KZ.out (by omega)).mono (by omega), (O9.out.2.2.2.kp KZ.out (by omega)).mono (by omega), (J9.out.kp KZ.out (by omega)).mono (by omega)⟩
      · have h := BS.out.1
        have h' := S3.out.1
        rw [FE.out]
        exact (E9.out.kp9 KZ.out (by omega)).mono (by omega)
    · have hnl : n < X.us.length := by omega
      have hnh : n < hs.length := by rw [HLN.out]; exact hnl
      have hni : ((n : Nat) : Int) < (X.us.length : Nat) := by omega
      obtain ⟨y, hy⟩ : ∃ y, hs[n]? = some y := ⟨_, List.getElem?_eq_getElem hnh⟩
      obtain ⟨a', c', he, -, -, hu⟩ := UL.out
      obtain ⟨xu, hxu, hxl, hxc⟩ := hu (by intro h; rw [h] at hnh; simp at hnh)
      injection he with he1 he2 he3
      subst he1
      subst hxu
      obtain ⟨y0, y1, y2, y3, y4, y5, y6, y7⟩ := hxc n y hy
      have NX := fell_next hy
      have WN : IntKind.i64.wrap ((n : Nat) + 1 : Int) = ((n : Nat) : Int) + 1 := by rw [IntKind.wrap_i64]; omega
      obtain ⟨fs, hfs⟩ : ∃ l, es ++ ((hs.take n).filter fallenU).map fellE = l := ⟨_, rfl⟩
      have FL : Hid (fs.length ≤ 80) := by
        have h1 : ((hs.take n).filter fallenU).length ≤ (hs.take n).length := List.length_filter_le _ _
        have h2 : (hs.take n).length ≤ n := by simp; omega
        have h3 := HS.out.2.2.2
        unfold Hid
        rw [← hfs, List.length_append, List.length_map]
        omega
      have NY : Hid (es ++ ((hs.take (n + 1)).filter fallenU).map fellE = fs ++ (if fallenU y then [fellE y] else [])) := by unfold Hid; rw [NX, ← List.append_assoc, hfs]
      rw [hfs] at E5
      clear hu he2 he3 hxl hxc hy NX hfs
      go_upto_region 10 with fail
      have BA : Hid (Below wr.heap.size wr (wr.alloc (Obj.cells #[.int .i64 y.id, .int .i64 y.player, .int .i64 y.kind, .int .i64 y.at_, .int .i64 y.life, .int .i64 y.load, .int .i64 y.task, .int .i64 y.goal] 63))) := (Below.refl _ _).alloc (Nat.le_refl _) _
      obtain ⟨bu, hbu⟩ : ∃ z, wr.heap.size = z := ⟨_, rfl⟩
      have U6 : Hid (Unc (wr.alloc (Obj.cells #[.int .i64 y.id, .int .i64 y.player, .int .i64 y.kind, .int .i64 y.at_, .int .i64 y.life, .int .i64 y.load, .int .i64 y.task, .int .i64 y.goal] 63)) ⟨bu, 0, none⟩ y) := Unc.mk' y hbu
      rw [hbu]
      generalize (wr.alloc (Obj.cells #[.int .i64 y.id, .int .i64 y.player, .int .i64 y.kind, .int .i64 y.at_, .int .i64 y.life, .int .i64 y.load, .int .i64 y.task, .int .i64 y.goal] 63)) = w6 at *
      have B6 : Hid (Below b3 w4 w6) := BB.out.trans (BA.out.mono (Nat.le_trans S4.out BB.out.size))
      have E6 : Hid (Evo w6 b3 ev' fs) := E5.out.below BA.out
      clear y0 y1 y2 y3 y4 y5 y6 y7 hbu BA BB E5 UL
      obtain ⟨y0, y1, y2, y3, y4, y5, y6, y7⟩ := U6.out
      have FG : Hid (Calls Tryz.prog 107 #[.agg #[.int .i64 y.id, .int .i64 y.player, .int .i64 y.kind, .int .i64 y.at_, .int .i64 y.life, .int .i64 y.load, .int .i64 y.task, .int .i64 y.goal]] w6 fun e w' => e = .returned (.bool (fallenU y)) ∧ Below w6.heap.size w6 w') := by
        have := fallen_fg y w6
        rw [Array.append_empty] at this
        exact this
      go_wp2_with fail
      refine Calls.mono FG.out ?_
      rintro e w7 ⟨rfl, hb⟩
      have B7 : Hid (Below b3 w4 w7) := B6.out.trans (hb.mono (Nat.le_trans S4.out B6.out.size))
      have E7 : Hid (Evo w7 b3 ev' fs) := E6.out.below hb
      have U7 : Hid (Unc w7 ⟨bu, 0, none⟩ y) := U6.out.below hb U6.out.lt
      clear hb y0 y1 y2 y3 y4 y5 y6 y7 FG B6 E6 U6
      cases hfl : fallenU y with
      | false =>
        have NZ : Hid (es ++ ((hs.take (n + 1)).filter fallenU).map fellE = fs) := by unfold Hid; rw [NY.out, hfl]; simp
        clear hfl
        go_wp2
        go_round
        case rel => exact ⟨n + 1, _, by go_num, rfl, by omega, by rw [NZ.out]; exact E7.out, B7.out⟩
        case measure => simp [intOf]; omega
      | true =>
        have NZ : Hid (es ++ ((hs.take (n + 1)).filter fallenU).map fellE = fs ++ [fellE y]) := by unfold Hid; rw [NY.out, hfl]; simp
        clear hfl
        obtain ⟨y0, y1, y2, y3, y4, y5, y6, y7⟩ := U7.out
        have BA : Hid (Below w7.heap.size w7 (w7.alloc (Obj.cells #[.int .i64 3, .int .i64 y.id, .int .i64 0] 120))) := (Below.refl _ _).alloc (Nat.le_refl _) _
        have EC : Hid (Evc (w7.alloc (Obj.cells #[.int .i64 3, .int .i64 y.id, .int .i64 0] 120)) ⟨w7.heap.size, 0, none⟩ (fellE y)) := Evc.mk' (fellE y) rfl
        have E8 : Hid (Evo (w7.alloc (Obj.cells #[.int .i64 3, .int .i64 y.id, .int .i64 0] 120)) b3 ev' fs) := E7.out.below BA.out
        have B8 : Hid (Below b3 w4 (w7.alloc (Obj.cells #[.int .i64 3, .int .i64 y.id, .int .i64 0] 120))) := B7.out.trans (BA.out.mono (Nat.le_trans S4.out B7.out.size))
        have SZ : Hid (b3 ≤ (w7.alloc (Obj.cells #[.int .i64 3, .int .i64 y.id, .int .i64 0] 120)).heap.size) := Nat.le_trans S4.out B8.out.size
        go_wp2_with (at_builtin; refine app_ev _ rfl _ _ rfl b3 _ fs rfl E8.out _ (fellE y) rfl EC.out (by have := FL.out; omega) SZ.out ?_)
        intro gg gc w9 o9 g9 _ _
        have E9 : Hid (Evo w9 b3 (.slice (some ⟨gg, 0, none⟩) (fs.length + 1) gc) (fs ++ [fellE y])) := o9
        have B9 : Hid (Below b3 w4 w9) := B8.out.grown g9 (Nat.le_trans S4.out B8.out.size) (fun k hk => (E8.out.block k hk).1)
        clear o9 g9 y0 y1 y2 y3 y4 y5 y6 y7 BA EC E8 B8 SZ
        go_wp2
        go_round
        case rel => exact ⟨n + 1, _, by go_num, rfl, by omega, by rw [NZ.out]; exact E9.out, B9.out⟩
        case measure => simp [intOf]; omega
end Go.Proofs.YtoabhfipikkkeaaGreatDoor

namespace Go.Proofs.YtoabhfipikkkeaaGreatDoor
set_option linter.unusedVariables false

theorem filter_at {α : Type} {p : α → Bool} : ∀ (l : List α) (i : Nat) (x : α), (l.filter p)[i]? = some x → ∃ j, l[j]? = some x ∧ p x = true ∧ (l.filter p).take i = (l.take j).filter p
  | [], i, x, h => by simp at h
  | a :: l, i, x, h => by
    cases hp : p a with
    | true =>
      rw [List.filter_cons_of_pos hp] at h ⊢
      cases i with
      | zero =>
        simp at h
        subst h
        exact ⟨0, rfl, hp, rfl⟩
      | succ i =>
        rw [List.getElem?_cons_succ] at h
        obtain ⟨j, h1, h2, h3⟩ := filter_at l i x h
        exact ⟨j + 1, by rw [List.getElem?_cons_succ]; exact h1, h2, by rw [List.take_succ_cons, List.take_succ_cons, List.filter_cons_of_pos hp, h3]⟩
    | false =>
      have hn : ¬ p a = true := by rw [hp]; simp
      rw [List.filter_cons_of_neg hn] at h ⊢
      obtain ⟨j, h1, h2, h3⟩ := filter_at l i x h
      exact ⟨j + 1, by rw [List.getElem?_cons_succ]; exact h1, h2, by rw [List.take_succ_cons, List.filter_cons_of_neg hn, h3]⟩
theorem hurt_from {us : List UnV} {lost : List Int} {j : Nat} {y : UnV} (h : (hurt us lost)[j]? = some y) : ∃ u x, us[j]? = some u ∧ lost[j]? = some x ∧ y = { u with life := u.life - x } := by
  unfold hurt at h
  rw [List.getElem?_zipWith] at h
  cases hu : us[j]? with
  | none => rw [hu] at h; simp at h
  | some u =>
    cases hx : lost[j]? with
    | none => rw [hu, hx] at h; simp at h
    | some x =>
      rw [hu, hx] at h
      simp at h
      exact ⟨u, x, rfl, rfl, h.symm⟩
theorem hurt_take {us : List UnV} {lost : List Int} {j : Nat} {y : UnV} (h : y ∈ (hurt us lost).take j) : ∃ i u x, i < j ∧ us[i]? = some u ∧ lost[i]? = some x ∧ y = { u with life := u.life - x } := by
  obtain ⟨i, hi⟩ := List.mem_iff_getElem?.1 h
  have hl : i < j := by
    have := (List.getElem?_eq_some_iff.1 hi).1
    rw [List.length_take] at this
    omega
  rw [List.getElem?_take, if_pos hl] at hi
  obtain ⟨u, x, h1, h2, h3⟩ := hurt_from hi
  exact ⟨i, u, x, hl, h1, h2, h3⟩
theorem lost_upto {ks : List KV} {Wn : Nat} {X : WV} (h : WRight ks X) : Upto 40000 (strikes ks Wn X.us X.us).1 := by
  have := strikes_upto (W := Wn) (us := X.us) h.kinds X.us.length (Nat.le_refl _)
  rw [List.take_of_length_le (Nat.le_refl _)] at this
  intro x hx
  have := this x hx
  have := h.ul
  omega
theorem stay_from {ks : List KV} {Wn : Nat} {X : WV} (h : WRight ks X) {i : Nat} {y : UnV} (hy : (stays ks Wn X)[i]? = some y) :
    ∃ j u x, X.us[j]? = some u ∧ (strikes ks Wn X.us X.us).1[j]? = some x ∧ y = { u with life := u.life - x } ∧ 1 ≤ u.life - x ∧ 0 ≤ x ∧ (stays ks Wn X).take i = ((struck ks Wn X).take j).filter (fun u => !fallenU u) := by
  obtain ⟨j, h1, h2, h3⟩ := filter_at (struck ks Wn X) i y hy
  obtain ⟨u, x, hu, hx, rfl⟩ := hurt_from h1
  have hl : 1 ≤ u.life - x := by
    unfold fallenU at h2
    simp at h2
    omega
  exact ⟨j, u, x, hu, hx, rfl, hl, (lost_upto h x (List.mem_of_getElem? hx)).1, h3⟩
theorem fought_right {ks : List KV} {Wn : Nat} {X : WV} (h : WRight ks X) : Wd.wfault ks (fought ks Wn X) = 0 := by
  obtain ⟨Wm, Hm, e1, e2, G⟩ := h.good
  refine Wd.wfault_zero h.kinds (by show Fd.fault X.wide X.high X.gs X.os = 0; rw [e1, e2]; exact Fd.fault_good G) h.nums ?_ ?_ ?_ ?_
  · show (stays ks Wn X).length ≤ 40
    have h1 : (stays ks Wn X).length ≤ (struck ks Wn X).length := List.length_filter_le _ _
    have h2 : (struck ks Wn X).length = X.us.length := by unfold struck; exact hurt_len strikes_len'
    have := h.ul
    omega
  · intro i y hy
    have hy' : (stays ks Wn X)[i]? = some y := hy
    obtain ⟨j, u, x, hu, hx, rfl, hl, hx0, ht⟩ := stay_from h hy'
    obtain ⟨k, f⟩ := h.fine hu
    have AH : ∀ p ∈ (stays ks Wn X).take i, ∃ j' u' x', j' < j ∧ X.us[j']? = some u' ∧ p = { u' with life := u'.life - x' } := fun p hp => by
      rw [ht] at hp
      obtain ⟨j', u', x', a1, a2, -, a3⟩ := hurt_take (List.mem_filter.1 hp).1
      exact ⟨j', u', x', a1, a2, a3⟩
    refine ⟨k, f.id1, f.id2, ?_, f.p, f.k0, f.kk, ⟨hl, by have := f.life.2; show u.life - x ≤ k.n0; omega⟩, f.load, f.task, f.at_, f.goal, ?_, f.rest⟩
    · show Wd.notAbove (stays ks Wn X) i _ = false
      cases i with
      | zero => rfl
      | succ i =>
        have hil : i < (stays ks Wn X).length := by have := (List.getElem?_eq_some_iff.1 hy').1; omega
        obtain ⟨p, hp⟩ : ∃ p, (stays ks Wn X)[i]? = some p := ⟨_, List.getElem?_eq_getElem hil⟩
        simp only [Wd.notAbove, hp, decide_eq_false_iff_not]
        obtain ⟨j', u', x', a1, a2, rfl⟩ := AH p (List.mem_of_getElem? (by rw [List.getElem?_take, if_pos (Nat.lt_succ_self _)]; exact hp))
        have := ids_rise h (j - j' - 1) j' u' u a2 (by rw [show j' + (j - j' - 1) + 1 = j by omega]; exact hu)
        show ¬ u.id ≤ u'.id
        omega
    · have ho := f.opn
      unfold Wd.open_ at ho
      rw [Bool.and_eq_true] at ho
      show Wd.open_ X.gs ((stays ks Wn X).take i) u.at_ k.f = true
      unfold Wd.open_
      rw [Bool.and_eq_true]
      refine ⟨ho.1, ?_⟩
      rw [Bool.not_eq_true', List.any_eq_false]
      intro p hp
      obtain ⟨j', u', x', a1, a2, rfl⟩ := AH p hp
      have h1 := ho.2
      rw [Bool.not_eq_true', List.any_eq_false] at h1
      exact h1 u' (List.mem_of_getElem? (by rw [List.getElem?_take, if_pos a1]; exact a2))
  · show (X.qs.filter _).length ≤ 12
    have := List.length_filter_le (fun j => !orphanJ (stays ks Wn X) j) X.qs
    have := h.ql
    omega
  · intro j hj
    have hj' : j ∈ X.qs.filter (fun j => !orphanJ (stays ks Wn X) j) := hj
    obtain ⟨hjm, hjo⟩ := List.mem_filter.1 hj'
    have hx := h.job hjm
    unfold orphanJ at hjo
    rw [Bool.not_not, List.any_eq_true] at hjo
    obtain ⟨y, hy, hyi⟩ := hjo
    have hfs : ((stays ks Wn X).find? (fun u => u.id == j.unit)).isSome = true := List.find?_isSome.2 ⟨y, hy, hyi⟩
    obtain ⟨y0, hy0⟩ := Option.isSome_iff_exists.1 hfs
    have hm0 := List.mem_of_find?_eq_some hy0
    have hi0 := List.find?_some hy0
    obtain ⟨i0, hi0'⟩ := List.mem_iff_getElem?.1 hm0
    obtain ⟨j0, u0, x0, hu0, -, rfl, -, -, -⟩ := stay_from h hi0'
    have hid0 : u0.id = j.unit := by simpa using hi0
    cases hf : X.us.find? (fun u => u.id == j.unit) with
    | none =>
      unfold Wd.jobFault at hx
      rw [hf] at hx
      cases hx
    | some u1 =>
      have hm1 := List.mem_of_find?_eq_some hf
      have hi1 : u1.id = j.unit := by simpa using List.find?_some hf
      obtain ⟨j1, hj1⟩ := List.mem_iff_getElem?.1 hm1
      have := id_one h hu0 hj1 (by rw [hid0, hi1])
      subst this
      rw [hu0] at hj1
      injection hj1 with hj1
      subst hj1
      unfold Wd.jobFault at hx ⊢
      rw [hf] at hx
      have hy1 : (fought ks Wn X).us.find? (fun u => u.id == j.unit) = some { u0 with life := u0.life - x0 } := hy0
      rw [hy1]
      exact hx

/-- what an event adds to the hits. -/
def evHit (ks : List KV) (us : List UnV) (h : List Int) (e : EvV) : List Int :=
  if e.what = 2 then h.set (fsti (fun u => u.id == e.arg) us).toNat (h.getD (fsti (fun u => u.id == e.arg) us).toNat 0 + (us[(fsti (fun u => u.id == e.unit) us).toNat]?.map (hitOf ks)).getD 0) else h
def hitsOf (ks : List KV) (us : List UnV) (l : List EvV) : List Int := l.foldl (evHit ks us) (List.replicate us.length 0)
theorem hitsOf_next {ks : List KV} {us : List UnV} {l : List EvV} {n : Nat} {e : EvV} (h : l[n]? = some e) : hitsOf ks us (l.take (n + 1)) = evHit ks us (hitsOf ks us (l.take n)) e := by
  obtain ⟨hi, e'⟩ := List.getElem?_eq_some_iff.1 h
  unfold hitsOf
  rw [List.take_succ_eq_append_getElem hi, List.foldl_append, e']
  rfl
theorem tgt_says (W : Nat) (u : UnV) (k : KV) (us : List UnV) : TgSays W u k us (tgt W u k us) := by
  unfold tgt
  by_cases h1 : k.n1 = 0
  · rw [if_pos h1]; exact .inl ⟨h1, rfl⟩
  · rw [if_neg h1]
    cases hf : foesU W u k.n2 us with
    | nil => exact .inr (.inl ⟨h1, hf, rfl⟩)
    | cons x0 tl => exact .inr (.inr ⟨h1, x0, tl, hf, fsti_fst _ _⟩)
/-- an event as it should be. -/
def EvOk (ks : List KV) (us : List UnV) (e : EvV) : Prop :=
  (e.what = 2 ∧ ∃ (i j : Nat) (u x : UnV) (k : KV), us[i]? = some u ∧ us[j]? = some x ∧ u.id = e.unit ∧ x.id = e.arg ∧ u.player ≠ x.player ∧ ks[u.kind.toNat]? = some k ∧ 1 ≤ k.n1) ∨ (e.what = 3 ∧ ∃ (i : Nat) (u : UnV), us[i]? = some u ∧ u.id = e.unit)
theorem hit_at {ks : List KV} {X : WV} (h : WRight ks X) {l : List Int} {e : EvV} {i j : Nat} {u x : UnV} {k : KV} (he : e.what = 2) (hu : X.us[i]? = some u) (hx : X.us[j]? = some x) (h1 : u.id = e.unit) (h2 : x.id = e.arg) (hk : ks[u.kind.toNat]? = some k) : evHit ks X.us l e = l.set j (l.getD j 0 + k.n1) := by
  unfold evHit
  rw [if_pos he, fst_is h hx h2 (fsti_fst _ _), fst_is h hu h1 (fsti_fst _ _), Int.toNat_natCast, Int.toNat_natCast, hu]
  simp [hitOf_some hk]
theorem strikes_told {ks : List KV} {Wn : Nat} {X : WV} (h : WRight ks X) : ∀ (n : Nat), n ≤ X.us.length → (strikes ks Wn X.us (X.us.take n)).2.foldl (evHit ks X.us) (List.replicate X.us.length 0) = (strikes ks Wn X.us (X.us.take n)).1 ∧ ∀ e ∈ (strikes ks Wn X.us (X.us.take n)).2, EvOk ks X.us e
  | 0, _ => ⟨rfl, fun e he => by cases he⟩
  | n + 1, hn => by
    obtain ⟨u, hu⟩ : ∃ u, X.us[n]? = some u := ⟨_, List.getElem?_eq_getElem (by omega)⟩
    obtain ⟨ih1, ih2⟩ := strikes_told (Wn := Wn) h n (by omega)
    rw [strikes_next hu]
    obtain ⟨k, f⟩ := h.fine hu
    have ht := tgtOf_some (W := Wn) (us := X.us) f.kk
    have hw := tg_who h (tgt_says Wn u k X.us)
    rw [← ht] at hw
    unfold stk
    rcases hw with ⟨h1, -⟩ | ⟨h1, tn, x, f0, tl, h2, hx, hfo, hm⟩
    · rw [if_pos h1]; exact ⟨ih1, ih2⟩
    · rw [if_neg (by omega), h2, Int.toNat_natCast, hx]
      have hfm := minU_mem (keyU Wn u) tl f0
      rw [← hfo, ← hm] at hfm
      have hfe := (foe_iff.1 hfm).2.1
      have hk1 : 1 ≤ k.n1 := by have := (kind_nums h.kinds (List.mem_of_getElem? f.kk)).2.2.2.2.1; omega
      refine ⟨?_, fun e he => ?_⟩
      · show (_ ++ [(⟨2, u.id, x.id⟩ : EvV)]).foldl _ _ = _
        rw [List.foldl_append, ih1]
        show evHit ks X.us _ ⟨2, u.id, x.id⟩ = _
        rw [hit_at h rfl hu hx rfl rfl f.kk, hitOf_some f.kk]
      · rcases List.mem_append.1 he with he | he
        · exact ih2 e he
        · have he' : e ∈ [(⟨2, u.id, x.id⟩ : EvV)] := he
          simp at he'
          subst he'
          exact .inl ⟨rfl, n, tn, u, x, k, hu, hx, rfl, rfl, fun e => hfe e.symm, f.kk, hk1⟩
theorem hitsOf_all {ks : List KV} {Wn : Nat} {X : WV} (h : WRight ks X) : hitsOf ks X.us (fevents ks Wn X) = (strikes ks Wn X.us X.us).1 ∧ ∀ e ∈ fevents ks Wn X, EvOk ks X.us e := by
  have h0 := strikes_told (Wn := Wn) h X.us.length (Nat.le_refl _)
  rw [List.take_of_length_le (Nat.le_refl _)] at h0
  have hfell : ∀ (l : List UnV) (s : List Int), (l.map fellE).foldl (evHit ks X.us) s = s := by
    intro l
    induction l with
    | nil => intro s; rfl
    | cons a l ih => intro s; rw [List.map_cons, List.foldl_cons]; exact ih s
  refine ⟨?_, fun e he => ?_⟩
  · unfold hitsOf fevents
    rw [List.foldl_append, h0.1, hfell]
  · unfold fevents at he
    rcases List.mem_append.1 he with he | he
    · exact h0.2 e he
    · obtain ⟨y, hy, rfl⟩ := List.mem_map.1 he
      obtain ⟨j, hj⟩ := List.mem_iff_getElem?.1 (List.mem_filter.1 hy).1
      obtain ⟨u, x, hu, -, rfl⟩ := hurt_from hj
      exact .inr ⟨rfl, j, u, hu, rfl⟩
theorem evHit_len {ks : List KV} {us : List UnV} {l : List Int} {e : EvV} : (evHit ks us l e).length = l.length := by
  unfold evHit
  split <;> simp
theorem hitsOf_len {ks : List KV} {us : List UnV} {l : List EvV} : (hitsOf ks us l).length = us.length := by
  have : ∀ (l : List EvV) (s : List Int), (l.foldl (evHit ks us) s).length = s.length := by
    intro l
    induction l with
    | nil => intro s; rfl
    | cons a l ih => intro s; rw [List.foldl_cons, ih, evHit_len]
  unfold hitsOf
  rw [this]
  simp
theorem hits_upto {ks : List KV} {X : WV} (h : WRight ks X) {l : List EvV} : ∀ (n : Nat), n ≤ l.length → Upto (1000 * (n : Int)) (hitsOf ks X.us (l.take n))
  | 0, _ => by
    intro x hx
    have : x ∈ List.replicate X.us.length (0 : Int) := hx
    have := List.eq_of_mem_replicate this
    omega
  | n + 1, hn => by
    obtain ⟨e, he⟩ : ∃ e, l[n]? = some e := ⟨_, List.getElem?_eq_getElem (by omega)⟩
    rw [hitsOf_next he]
    have ih := hits_upto (ks := ks) h (l := l) n (by omega)
    unfold evHit
    split
    · intro x hx
      have h0 := ih.at_ (by omega) (fsti (fun u => u.id == e.arg) X.us).toNat
      have h1 : 0 ≤ (X.us[(fsti (fun u => u.id == e.unit) X.us).toNat]?.map (hitOf ks)).getD 0 ∧ (X.us[(fsti (fun u => u.id == e.unit) X.us).toNat]?.map (hitOf ks)).getD 0 ≤ 1000 := by
        cases hc : X.us[(fsti (fun u => u.id == e.unit) X.us).toNat]? with
        | none => simp
        | some v => simp; exact hit_in h.kinds v
      rcases List.mem_or_eq_of_mem_set hx with hx | hx
      · have := ih x hx
        omega
      · omega
    · intro x hx
      have := ih x hx
      omega
/-- where one that was there is now. -/
theorem stay_find {ks : List KV} {Wn : Nat} {X : WV} (h : WRight ks X) {i : Nat} {u : UnV} {x r : Int} (hu : X.us[i]? = some u) (hx : (strikes ks Wn X.us X.us).1[i]? = some x) (hr : FstU (fun o => o.id == u.id) (stays ks Wn X) r) :
    (r = -1 ∧ u.life ≤ x) ∨ ∃ k : Nat, r = k ∧ (stays ks Wn X)[k]? = some { u with life := u.life - x } ∧ 1 ≤ u.life - x := by
  rcases hr with ⟨h1, h2⟩ | ⟨k, y, h1, h2, h3, -⟩
  · refine .inl ⟨h1, ?_⟩
    by_cases hc : u.life ≤ x
    · exact hc
    · have hh : { u with life := u.life - x } ∈ stays ks Wn X := by
        unfold stays
        rw [List.mem_filter]
        refine ⟨List.mem_of_getElem? (hurt_at hu hx), ?_⟩
        unfold fallenU
        simp
        omega
      have := List.any_eq_false.1 h2 _ hh
      simp at this
  · obtain ⟨j, u', x', a1, a2, rfl, a3, -, -⟩ := stay_from h h2
    have hid : u'.id = u.id := by simpa using h3
    have := id_one h a1 hu hid
    subst this
    rw [a1] at hu
    injection hu with hu
    subst hu
    rw [a2] at hx
    injection hx with hx
    subst hx
    exact .inr ⟨k, h1, h2, a3⟩
end Go.Proofs.YtoabhfipikkkeaaGreatDoor

