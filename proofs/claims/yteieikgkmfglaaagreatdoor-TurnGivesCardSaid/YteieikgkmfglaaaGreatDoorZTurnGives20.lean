/- How far two cells are: plain mathematics. · Fight: how far two cells are, who is safe of whom, who is struck: plain mathematics. · Fight: who is struck is near. Plain mathematics. · Fight: all strike at once: plain mathematics. · The reference's way to find whom a unit strikes: plain mathematics. · What the reference answers of roots, and of how far it is. · How far two cells are, by the reference. · How far two cells are, by the reference, as a number. · fight.apart, and target's three functions. · fight.target's three functions; cmp.Or of two numbers. · fight.target and fight.Target: whom a unit strikes. · fight.Target. -/
import Derived.Test.YteieikgkmfglaaaGreatDoorRows
import Derived.Test.YteieikgkmfglaaaGreatDoorZTurnGives19
import Derived.WalkKit
import Derived.WalkSpells
import Derived.WalkLawsBesides
import Derived.Test.YteieikgkmfglaaaGreatDoorZTurnGives13
import Derived.Test.YteieikgkmfglaaaGreatDoorZTurnGives2
import Derived.Test.YteieikgkmfglaaaGreatDoorZTurnGives1
import Derived.Test.YteieikgkmfglaaaGreatDoorZTurnGives4
import Derived.Test.YteieikgkmfglaaaGreatDoorZTurnGives7
import Derived.BigQuiet
import Derived.LoopN
namespace Go.Proofs.YteieikgkmfglaaaGreatDoor
open Go.RowKit

set_option maxHeartbeats 400000 in
theorem root_neg (n : Int) (w : World) (h : n < 0) :
    Calls Tryz.prog 175 #[.int .i64 n] w fun e w' => e = .returned (.tuple #[.int .i64 0, .iface 77 (.int .i64 1)]) ∧ w' = w := by
  go_enter Tryz.func175, Tryz.ntmps175
  go_wp2
  go_ret2
  exact ⟨rfl, rfl⟩

theorem half_pw (k : Nat) : Ma.pw (k + 1) / 2 = Ma.pw k := by rw [Ma.pw_succ]; omega

set_option maxHeartbeats 400000 in
theorem root_any (n : Int) (w : World) (h0 : 0 ≤ n) (h1 : n ≤ 9223372036854775807) :
    Calls Tryz.prog 175 #[.int .i64 n] w fun e w' => ∃ r, Ma.Sq r n ∧ e = .returned (.tuple #[.int .i64 r, .nilIface]) ∧ w' = w := by
  go_enter Tryz.func175, Tryz.ntmps175
  go_wp2
  go_loop [4, 5] (fun root bit => ∃ (k : Nat) (r b : Int), k ≤ 32 ∧ root = .int .i64 r ∧ bit = .int .i64 b ∧ b = Ma.pw k / 2 ∧ 0 ≤ r ∧ r * r ≤ n ∧ n < (r + Ma.pw k) * (r + Ma.pw k)) (fun _ bit => (intOf bit).toNat)
  case atStart => exact ⟨32, 0, 2147483648, by omega, rfl, rfl, by rw [Ma.pw_32]; omega, by omega, by omega, by rw [Ma.pw_32]; omega⟩
  case round =>
    obtain ⟨k, r, b, hk, rfl, rfl, hb, hr, hl, hu⟩ := hrel
    by_cases hz : k = 0
    · subst hz
      have hb0 : b = 0 := by rw [hb, Ma.pw_zero]; omega
      subst hb0
      clear hb
      rw [Ma.pw_zero] at hu
      go_wp2
      go_ret2
      exact ⟨r, ⟨hr, hl, hu⟩, rfl, rfl⟩
    · obtain ⟨j, rfl⟩ : ∃ j, k = j + 1 := ⟨k - 1, by omega⟩
      have hp := Ma.pw_pos j
      have hq := Ma.pw_mono j 31 (by omega)
      have e31 : Ma.pw 31 = 2147483648 := by unfold Ma.pw; decide
      rw [e31] at hq
      clear e31
      rw [half_pw] at hb
      rw [Ma.pw_succ] at hu
      have hb1 : 0 < b := by omega
      have hb2 : b ≤ 2147483648 := by omega
      have hr2 := Ma.root_small r n hl h1
      have hsum : r + 2 * Ma.pw j = r + b + b := by omega
      rw [hsum] at hu
      clear hsum
      have Hb : Hid (b = Ma.pw j) := hb
      have HH : Hid (b / 2 = Ma.pw j / 2) := by rw [hb]; rfl
      clear hb hp hq
      have Hu : Hid (n < (r + b + b) * (r + b + b)) := hu
      have Hl : Hid (r * r ≤ n) := hl
      clear hu hl
      by_cases ht : r + b ≤ n / (r + b)
      · have Ht : Hid ((r + b) * (r + b) ≤ n) := (Ma.test_iff (r + b) n (by omega)).1 ht
        go_wp2
        go_round
        case rel => exact ⟨j, r + b, b / 2, by omega, rfl, rfl, HH, by omega, Ht, by rw [← Hb]; exact Hu⟩
        case measure => simp [intOf]; omega
      · have Ht : Hid (n < (r + b) * (r + b)) := by
          have := mt (Ma.test_iff (r + b) n (by omega)).2 ht
          unfold Hid; omega
        go_wp2
        go_round
        case rel => exact ⟨j, r, b / 2, by omega, rfl, rfl, HH, by omega, Hl, by rw [← Hb]; exact Ht⟩
        case measure => simp [intOf]; omega

end Go.Proofs.YteieikgkmfglaaaGreatDoor

namespace Go.Proofs.YteieikgkmfglaaaGreatDoor
open Go.RowKit

def In6 (x : Int) : Prop := -1000000 ≤ x ∧ x ≤ 1000000

section
variable (a b c d : Int) (w : World)
theorem idx0 : (Instr.index 219 (.agg #[.int .i64 a, .int .i64 b, .int .i64 c, .int .i64 d]) (.int .i64 0)).run Tryz.prog w = .ok (.int .i64 a) w := by kernel_rfl
theorem idx1 : (Instr.index 219 (.agg #[.int .i64 a, .int .i64 b, .int .i64 c, .int .i64 d]) (.int .i64 1)).run Tryz.prog w = .ok (.int .i64 b) w := by kernel_rfl
theorem idx2 : (Instr.index 219 (.agg #[.int .i64 a, .int .i64 b, .int .i64 c, .int .i64 d]) (.int .i64 2)).run Tryz.prog w = .ok (.int .i64 c) w := by kernel_rfl
theorem idx3 : (Instr.index 219 (.agg #[.int .i64 a, .int .i64 b, .int .i64 c, .int .i64 d]) (.int .i64 3)).run Tryz.prog w = .ok (.int .i64 d) w := by kernel_rfl
end

theorem sqb (x : Int) (h1 : -2000000 ≤ x) (h2 : x ≤ 2000000) : 0 ≤ x * x ∧ x * x ≤ 4000000000000 := by
  rcases Int.le_total 0 x with h | h
  · exact ⟨Int.mul_nonneg h h, Ma.mul_mono x 2000000 h h2⟩
  · have e : x * x = (-x) * (-x) := by rw [Int.neg_mul_neg]
    rw [e]
    exact ⟨Int.mul_nonneg (by omega) (by omega), Ma.mul_mono (-x) 2000000 (by omega) (by omega)⟩

set_option maxHeartbeats 400000 in
theorem far_ok (a b c d : Int) (w : World) (ha : In6 a) (hb : In6 b) (hc : In6 c) (hd : In6 d) :
    Calls Tryz.prog 160 #[.int .i64 a, .int .i64 b, .int .i64 c, .int .i64 d] w fun e w' => ∃ r, Ma.Sq r ((a - c) * (a - c) + (b - d) * (b - d)) ∧ e = .returned (.tuple #[.int .i64 r, .nilIface]) ∧ w' = w := by
  obtain ⟨ha1, ha2⟩ := ha
  obtain ⟨hb1, hb2⟩ := hb
  obtain ⟨hc1, hc2⟩ := hc
  obtain ⟨hd1, hd2⟩ := hd
  have i0 := idx0 a b c d
  have i1 := idx1 a b c d
  have i2 := idx2 a b c d
  have i3 := idx3 a b c d
  go_enter Tryz.func160, Tryz.ntmps160
  go_wp2
  go_loop [19] (fun i => ∃ k : Nat, k ≤ 4 ∧ i = .int .i64 k) (fun i => 4 - (intOf i).toNat)
  case atStart => exact ⟨0, by omega, rfl⟩
  case round =>
    obtain ⟨k, hk, rfl⟩ := hrel
    match k, hk with
    | 0, _ =>
      go_wp2_with (go_at_call 174; refine (within_yes _ _ _ (by omega) (by omega) (by omega) (by omega)).mono ?_; rintro e w' ⟨rfl, rfl⟩)
      go_round
      case rel => exact ⟨1, by omega, rfl⟩
      case measure => simp [intOf]
    | 1, _ =>
      go_wp2_with (go_at_call 174; refine (within_yes _ _ _ (by omega) (by omega) (by omega) (by omega)).mono ?_; rintro e w' ⟨rfl, rfl⟩)
      go_round
      case rel => exact ⟨2, by omega, rfl⟩
      case measure => simp [intOf]
    | 2, _ =>
      go_wp2_with (go_at_call 174; refine (within_yes _ _ _ (by omega) (by omega) (by omega) (by omega)).mono ?_; rintro e w' ⟨rfl, rfl⟩)
      go_round
      case rel => exact ⟨3, by omega, rfl⟩
      case measure => simp [intOf]
    | 3, _ =>
      go_wp2_with (go_at_call 174; refine (within_yes _ _ _ (by omega) (by omega) (by omega) (by omega)).mono ?_; rintro e w' ⟨rfl, rfl⟩)
      go_round
      case rel => exact ⟨4, by omega, rfl⟩
      case measure => simp [intOf]
    | 4, _ =>
      have s1 := sqb (a - c) (by omega) (by omega)
      have s2 := sqb (b - d) (by omega) (by omega)
      obtain ⟨s10, s11⟩ := s1
      obtain ⟨s20, s21⟩ := s2
      go_wp2_with (go_at_call 175; refine (root_any _ _ (by omega) (by omega)).mono ?_; rintro e w' ⟨r, hr, rfl, rfl⟩)
      go_ret2
      exact ⟨r, hr, rfl, rfl⟩

end Go.Proofs.YteieikgkmfglaaaGreatDoor

namespace Go.Proofs.YteieikgkmfglaaaGreatDoor
set_option linter.unusedVariables false

/-- the greatest number up to k whose square is not above n. -/
def rt : Nat → Int → Int
  | 0, _ => 0
  | k + 1, n => if ((k : Int) + 1) * ((k : Int) + 1) ≤ n then (k : Int) + 1 else rt k n
theorem rt_eq : ∀ (k : Nat) (r n : Int), Ma.Sq r n → r ≤ k → rt k n = r
  | 0, r, n, h, hk => by
    have := h.1
    show (0 : Int) = r
    omega
  | k + 1, r, n, h, hk => by
    unfold rt
    split
    · rename_i hc
      have := Ma.lt_of_sq ((k : Int) + 1) (r + 1) (by have := h.1; omega) (by have := h.2.2; omega)
      omega
    · rename_i hc
      have := Ma.lt_of_sq r ((k : Int) + 1) (by omega) (by have := h.2.1; omega)
      exact rt_eq k r n h (by omega)
theorem rt_ge : ∀ (k : Nat) (n : Int), 0 ≤ rt k n ∧ rt k n ≤ k
  | 0, n => by unfold rt; omega
  | k + 1, n => by
    unfold rt
    have := rt_ge k n
    split <;> omega
/-- how far two cells of a field are. -/
def farN (W a b : Nat) : Int := rt 200 ((((a % W : Nat) : Int) - ((b % W : Nat) : Int)) * (((a % W : Nat) : Int) - ((b % W : Nat) : Int)) + (((a / W : Nat) : Int) - ((b / W : Nat) : Int)) * (((a / W : Nat) : Int) - ((b / W : Nat) : Int)))
theorem farN_ge (W a b : Nat) : 0 ≤ farN W a b ∧ farN W a b ≤ 200 := rt_ge 200 _
theorem sq_abs_le (x : Int) (m : Int) (h1 : -m ≤ x) (h2 : x ≤ m) : x * x ≤ m * m := by
  rcases Int.le_total 0 x with h | h
  · exact Ma.mul_mono x m h h2
  · have e : x * x = (-x) * (-x) := by rw [Int.neg_mul_neg]
    rw [e]
    exact Ma.mul_mono (-x) m (by omega) (by omega)
theorem farN_eq {W a b : Nat} {r : Int} (hW : W ≤ 12) (ha : a ≤ 144) (hb : b ≤ 144) (hW0 : 0 < W)
    (h : Ma.Sq r ((((a % W : Nat) : Int) - ((b % W : Nat) : Int)) * (((a % W : Nat) : Int) - ((b % W : Nat) : Int)) + (((a / W : Nat) : Int) - ((b / W : Nat) : Int)) * (((a / W : Nat) : Int) - ((b / W : Nat) : Int)))) : farN W a b = r := by
  unfold farN
  refine rt_eq 200 r _ h ?_
  have a1 := Nat.mod_lt a hW0
  have b1 := Nat.mod_lt b hW0
  have a2 := Nat.div_le_self a W
  have b2 := Nat.div_le_self b W
  generalize a / W = x at *
  generalize b / W = y at *
  generalize a % W = x' at *
  generalize b % W = y' at *
  have s1 := sq_abs_le ((x' : Int) - (y' : Int)) 12 (by omega) (by omega)
  have s2 := sq_abs_le ((x : Int) - (y : Int)) 144 (by omega) (by omega)
  have := h.2.1
  exact Ma.le_of_sq r 200 (by omega) (by omega)

theorem small_in6 {n : Nat} (h : n ≤ 144) : In6 (n : Nat) := ⟨by omega, by omega⟩
end Go.Proofs.YteieikgkmfglaaaGreatDoor

namespace Go.Proofs.YteieikgkmfglaaaGreatDoor
set_option linter.unusedVariables false

/-- how far a unit is from another one. -/
def farU (W : Nat) (u o : UnV) : Int := farN W u.at_.toNat o.at_.toNat
/-- one whom a unit does not strike. -/
def safeU (W : Nat) (u : UnV) (rng : Int) (o : UnV) : Bool := (o.player == u.player) || decide (rng < farU W u o)
/-- those that it may strike. -/
def foesU (W : Nat) (u : UnV) (rng : Int) (us : List UnV) : List UnV := us.filter (fun o => !safeU W u rng o)
/-- who comes first. -/
def keyU (W : Nat) (u o : UnV) : Int := farU W u o * 2000000 + o.life
def soonU (W : Nat) (u a b : UnV) : Int := if farU W u a - farU W u b = 0 then a.life - b.life else farU W u a - farU W u b
theorem soon_key {W : Nat} {u a b : UnV} (ha : 0 ≤ a.life ∧ a.life ≤ 1000000) (hb : 0 ≤ b.life ∧ b.life ≤ 1000000) : soonU W u a b < 0 ↔ keyU W u a < keyU W u b := by
  unfold soonU keyU
  have h1 := farN_ge W u.at_.toNat a.at_.toNat
  have h2 := farN_ge W u.at_.toNat b.at_.toNat
  unfold farU
  split <;> omega
/-- whom a unit strikes. -/
def TgSays (W : Nat) (u : UnV) (k : KV) (us : List UnV) (t : Int) : Prop :=
  (k.n1 = 0 ∧ t = -1) ∨ (k.n1 ≠ 0 ∧ foesU W u k.n2 us = [] ∧ t = -1)
  ∨ (k.n1 ≠ 0 ∧ ∃ x0 tl, foesU W u k.n2 us = x0 :: tl ∧ FstU (fun o => o.id == (minU (keyU W u) x0 tl).id) us t)
theorem minU_le (d : UnV → Int) : ∀ (l : List UnV) (m : UnV), ∀ x ∈ m :: l, d (minU d m l) ≤ d x
  | [], m, x, hx => by simp at hx; subst hx; exact Int.le_refl _
  | y :: l, m, x, hx => by
    show d (minU d (if d y < d m then y else m) l) ≤ d x
    have h0 := minU_le d l (if d y < d m then y else m) (if d y < d m then y else m) (by simp)
    rcases List.mem_cons.1 hx with rfl | hx
    · split at h0 <;> rename_i hc
      · rw [if_pos hc]; omega
      · rw [if_neg hc]; exact h0
    · rcases List.mem_cons.1 hx with rfl | hx
      · split at h0 <;> rename_i hc
        · rw [if_pos hc]; exact h0
        · rw [if_neg hc]; omega
      · exact minU_le d l _ x (List.mem_cons_of_mem _ hx)
end Go.Proofs.YteieikgkmfglaaaGreatDoor

namespace Go.Proofs.YteieikgkmfglaaaGreatDoor
set_option linter.unusedVariables false

/-- who is struck. -/
theorem tg_who {ks : List KV} {X : WV} (h : WRight ks X) {W : Nat} {u : UnV} {k : KV} {t : Int} (ht : TgSays W u k X.us t) :
    (t = -1 ∧ (k.n1 = 0 ∨ foesU W u k.n2 X.us = [])) ∨ (k.n1 ≠ 0 ∧ ∃ (tn : Nat) (x : UnV) (x0 : UnV) (tl : List UnV), t = tn ∧ X.us[tn]? = some x ∧ foesU W u k.n2 X.us = x0 :: tl ∧ x = minU (keyU W u) x0 tl) := by
  rcases ht with ⟨h1, h2⟩ | ⟨-, h1, h2⟩ | ⟨h1, x0, tl, h2, h3⟩
  · exact .inl ⟨h2, .inl h1⟩
  · exact .inl ⟨h2, .inr h1⟩
  · have hm := minU_mem (keyU W u) tl x0
    rw [← h2] at hm
    have hm' := (List.mem_filter.1 hm).1
    obtain ⟨j, hj⟩ := List.mem_iff_getElem?.1 hm'
    rcases h3 with ⟨-, h3⟩ | ⟨tn, x, rfl, hx, hid, -⟩
    · have := List.any_eq_false.1 h3 _ hm'
      simp at this
    · have hid' : x.id = (minU (keyU W u) x0 tl).id := by simpa using hid
      have := id_one h hx hj hid'
      subst this
      rw [hx] at hj
      injection hj with hj
      exact .inr ⟨h1, tn, x, x0, tl, rfl, hx, h2, hj⟩
/-- of others the least way. -/
def LeastU (W : Nat) (u : UnV) (l : List UnV) (least : Int) : Prop :=
  (least = -1 ∧ ∀ x ∈ l, x.player = u.player) ∨ (∃ x ∈ l, x.player ≠ u.player ∧ least = farU W u x ∧ ∀ y ∈ l, y.player ≠ u.player → farU W u x ≤ farU W u y)
theorem LeastU.ge {W : Nat} {u : UnV} {l : List UnV} {least : Int} (h : LeastU W u l least) : -1 ≤ least ∧ least ≤ 200 := by
  rcases h with ⟨h, -⟩ | ⟨x, -, -, h, -⟩
  · omega
  · have := farN_ge W u.at_.toNat x.at_.toNat
    unfold farU at h
    omega
theorem LeastU.own {W : Nat} {u y : UnV} {l : List UnV} {least : Int} (h : LeastU W u l least) (hy : y.player = u.player) : LeastU W u (l ++ [y]) least := by
  rcases h with ⟨h1, h2⟩ | ⟨x, hx, h1, h2, h3⟩
  · refine .inl ⟨h1, fun z hz => ?_⟩
    rcases List.mem_append.1 hz with hz | hz
    · exact h2 z hz
    · simp at hz; subst hz; exact hy
  · refine .inr ⟨x, List.mem_append_left _ hx, h1, h2, fun z hz hn => ?_⟩
    rcases List.mem_append.1 hz with hz | hz
    · exact h3 z hz hn
    · simp at hz; subst hz; exact absurd hy hn
theorem LeastU.new {W : Nat} {u y : UnV} {l : List UnV} {least : Int} (h : LeastU W u l least) (hy : y.player ≠ u.player) (hl : least < 0 ∨ farU W u y < least) : LeastU W u (l ++ [y]) (farU W u y) := by
  refine .inr ⟨y, by simp, hy, rfl, fun z hz hn => ?_⟩
  rcases List.mem_append.1 hz with hz | hz
  · rcases h with ⟨h1, h2⟩ | ⟨x, hx, h1, h2, h3⟩
    · exact absurd (h2 z hz) hn
    · have := h3 z hz hn
      have := farN_ge W u.at_.toNat x.at_.toNat
      unfold farU at *
      omega
  · simp at hz; subst hz; exact Int.le_refl _
theorem LeastU.keep {W : Nat} {u y : UnV} {l : List UnV} {least : Int} (h : LeastU W u l least) (hl : ¬ least < 0) (hf : ¬ farU W u y < least) : LeastU W u (l ++ [y]) least := by
  rcases h with ⟨h1, h2⟩ | ⟨x, hx, h1, h2, h3⟩
  · omega
  · refine .inr ⟨x, List.mem_append_left _ hx, h1, h2, fun z hz hn => ?_⟩
    rcases List.mem_append.1 hz with hz | hz
    · exact h3 z hz hn
    · simp at hz; subst hz; omega
theorem foe_iff {W : Nat} {u : UnV} {rng : Int} {us : List UnV} {x : UnV} : x ∈ foesU W u rng us ↔ x ∈ us ∧ x.player ≠ u.player ∧ farU W u x ≤ rng := by
  unfold foesU
  rw [List.mem_filter]
  unfold safeU
  simp
/-- none is struck: none is near. -/
theorem near_none {W : Nat} {u : UnV} {k : KV} {us : List UnV} {least : Int} (h : LeastU W u us least) (hn : k.n1 = 0 ∨ foesU W u k.n2 us = []) : k.n1 = 0 ∨ least < 0 ∨ k.n2 < least := by
  rcases hn with hn | hn
  · exact .inl hn
  · rcases h with ⟨h1, -⟩ | ⟨x, hx, h1, h2, -⟩
    · exact .inr (.inl (by omega))
    · refine .inr (.inr ?_)
      by_cases hc : k.n2 < least
      · exact hc
      · have : x ∈ foesU W u k.n2 us := foe_iff.2 ⟨hx, h1, by omega⟩
        rw [hn] at this; cases this
theorem near_some {W : Nat} {u : UnV} {rng : Int} {us : List UnV} {least : Int} {x0 : UnV} {tl : List UnV} (h : LeastU W u us least) (hl : ∀ x ∈ us, 0 ≤ x.life ∧ x.life ≤ 1000000) (hf : foesU W u rng us = x0 :: tl) : farU W u (minU (keyU W u) x0 tl) = least := by
  have hm := minU_mem (keyU W u) tl x0
  rw [← hf] at hm
  obtain ⟨m1, m2, m3⟩ := foe_iff.1 hm
  rcases h with ⟨-, h2⟩ | ⟨x, hx, h1, h2, h3⟩
  · exact absurd (h2 _ m1) m2
  · have a1 := h3 _ m1 m2
    have hxf : x ∈ foesU W u rng us := foe_iff.2 ⟨hx, h1, by omega⟩
    rw [hf] at hxf
    have a2 := minU_le (keyU W u) tl x0 x hxf
    have a3 := hl x hx
    have a4 := hl _ m1
    generalize minU (keyU W u) x0 tl = m at *
    unfold keyU at a2
    omega
end Go.Proofs.YteieikgkmfglaaaGreatDoor

namespace Go.Proofs.YteieikgkmfglaaaGreatDoor
set_option linter.unusedVariables false

/-- where the first of which p holds stands, else -1. -/
def fsti (p : UnV → Bool) : List UnV → Int
  | [] => -1
  | x :: l => if p x then 0 else if fsti p l = -1 then -1 else fsti p l + 1
theorem fsti_fst (p : UnV → Bool) : ∀ l, FstU p l (fsti p l)
  | [] => .inl ⟨rfl, rfl⟩
  | x :: l => by
    unfold fsti
    cases hp : p x with
    | true => exact .inr ⟨0, x, by simp, rfl, hp, rfl⟩
    | false =>
      rw [if_neg (by simp)]
      rcases fsti_fst p l with ⟨h1, h2⟩ | ⟨k, y, h1, h2, h3, h4⟩
      · rw [if_pos h1]
        exact .inl ⟨rfl, by rw [List.any_cons, hp, h2]; rfl⟩
      · rw [if_neg (by omega)]
        exact .inr ⟨k + 1, y, by omega, by rw [List.getElem?_cons_succ]; exact h2, h3, by rw [List.take_succ_cons, List.any_cons, hp, h4]; rfl⟩
/-- whom a unit of a kind strikes. -/
def tgt (W : Nat) (u : UnV) (k : KV) (us : List UnV) : Int :=
  if k.n1 = 0 then -1 else match foesU W u k.n2 us with
    | [] => -1
    | x0 :: tl => fsti (fun o => o.id == (minU (keyU W u) x0 tl).id) us
theorem tg_eq {W : Nat} {u : UnV} {k : KV} {us : List UnV} {t : Int} (h : TgSays W u k us t) : t = tgt W u k us := by
  unfold tgt
  rcases h with ⟨h1, h2⟩ | ⟨h1, h2, h3⟩ | ⟨h1, x0, tl, h2, h3⟩
  · rw [if_pos h1]; exact h2
  · rw [if_neg h1, h2]; exact h3
  · rw [if_neg h1, h2]
    exact h3.one (fsti_fst _ _)
def tgtOf (ks : List KV) (W : Nat) (us : List UnV) (u : UnV) : Int := match ks[u.kind.toNat]? with
  | none => -1
  | some k => tgt W u k us
def hitOf (ks : List KV) (u : UnV) : Int := match ks[u.kind.toNat]? with
  | none => 0
  | some k => k.n1
/-- one strikes. -/
def stk (ks : List KV) (W : Nat) (us : List UnV) (s : List Int × List EvV) (u : UnV) : List Int × List EvV :=
  if tgtOf ks W us u = -1 then s else (s.1.set (tgtOf ks W us u).toNat (s.1.getD (tgtOf ks W us u).toNat 0 + hitOf ks u), s.2 ++ [⟨2, u.id, (us[(tgtOf ks W us u).toNat]?.map UnV.id).getD 0⟩])
def strikes (ks : List KV) (W : Nat) (us l : List UnV) : List Int × List EvV := l.foldl (stk ks W us) (List.replicate us.length 0, [])
theorem strikes_next {ks : List KV} {W : Nat} {us l : List UnV} {n : Nat} {u : UnV} (h : l[n]? = some u) : strikes ks W us (l.take (n + 1)) = stk ks W us (strikes ks W us (l.take n)) u := by
  obtain ⟨hi, e⟩ := List.getElem?_eq_some_iff.1 h
  unfold strikes
  rw [List.take_succ_eq_append_getElem hi, List.foldl_append, e]
  rfl
theorem stk_len {ks : List KV} {W : Nat} {us : List UnV} {s : List Int × List EvV} {u : UnV} : (stk ks W us s u).1.length = s.1.length := by
  unfold stk
  split
  · rfl
  · simp
theorem strikes_len {ks : List KV} {W : Nat} {us : List UnV} : ∀ (l : List UnV) (s : List Int × List EvV), (l.foldl (stk ks W us) s).1.length = s.1.length
  | [], s => rfl
  | u :: l, s => by
    rw [List.foldl_cons, strikes_len l, stk_len]
theorem strikes_len' {ks : List KV} {W : Nat} {us l : List UnV} : (strikes ks W us l).1.length = us.length := by
  unfold strikes
  rw [strikes_len]
  simp
/-- numbers from 0 to m. -/
def Upto (m : Int) (l : List Int) : Prop := ∀ x ∈ l, 0 ≤ x ∧ x ≤ m
theorem Upto.at_ {m : Int} {l : List Int} (h : Upto m l) (hm : 0 ≤ m) (i : Nat) : 0 ≤ l.getD i 0 ∧ l.getD i 0 ≤ m := by
  rw [List.getD_eq_getElem?_getD]
  cases hi : l[i]? with
  | none => simp; omega
  | some x => simp; exact h x (List.mem_of_getElem? hi)
theorem stk_upto {ks : List KV} {W : Nat} {us : List UnV} {s : List Int × List EvV} {u : UnV} {m : Int} (hm : 0 ≤ m) (h : Upto m s.1) (hh : 0 ≤ hitOf ks u ∧ hitOf ks u ≤ 1000) : Upto (m + 1000) (stk ks W us s u).1 := by
  unfold stk
  split
  · intro x hx
    have := h x hx
    omega
  · intro x hx
    have h0 := h.at_ hm (tgtOf ks W us u).toNat
    rcases List.mem_or_eq_of_mem_set hx with hx | hx
    · have := h x hx
      omega
    · omega
theorem hit_in {ks : List KV} (h : Kd.kindsFault (ks.map KV.k) = 0) (u : UnV) : 0 ≤ hitOf ks u ∧ hitOf ks u ≤ 1000 := by
  unfold hitOf
  split
  · omega
  · rename_i k hk
    have := kind_nums h (List.mem_of_getElem? hk)
    omega
theorem strikes_upto {ks : List KV} {W : Nat} {us : List UnV} (h : Kd.kindsFault (ks.map KV.k) = 0) : ∀ (n : Nat), n ≤ us.length → Upto (1000 * (n : Int)) (strikes ks W us (us.take n)).1
  | 0, _ => by
    intro x hx
    have : x ∈ List.replicate us.length (0 : Int) := hx
    have := List.eq_of_mem_replicate this
    omega
  | n + 1, hn => by
    obtain ⟨u, hu⟩ : ∃ u, us[n]? = some u := ⟨_, List.getElem?_eq_getElem (by omega)⟩
    rw [strikes_next hu]
    have h9 := strikes_upto (ks := ks) (W := W) (us := us) h n (by omega)
    have h8 := stk_upto (W := W) (us := us) (m := 1000 * (n : Int)) (by omega) h9 (hit_in h u)
    intro x hx
    have := h8 x hx
    omega
/-- those that are struck. -/
def hurt (us : List UnV) (lost : List Int) : List UnV := us.zipWith (fun u n => { u with life := u.life - n }) lost
def hurtN (us : List UnV) (lost : List Int) (n : Nat) : List UnV := hurt (us.take n) (lost.take n) ++ us.drop n
theorem hurtN_zero (us : List UnV) (lost : List Int) : hurtN us lost 0 = us := by simp [hurtN, hurt]
theorem hurtN_all {us : List UnV} {lost : List Int} (hl : lost.length = us.length) : hurtN us lost us.length = hurt us lost := by
  unfold hurtN
  rw [List.take_of_length_le (Nat.le_refl _), List.take_of_length_le (by omega), List.drop_of_length_le (Nat.le_refl _), List.append_nil]
theorem hurt_len {us : List UnV} {lost : List Int} (hl : lost.length = us.length) : (hurt us lost).length = us.length := by
  unfold hurt
  rw [List.length_zipWith, hl, Nat.min_self]
theorem hurtN_len {us : List UnV} {lost : List Int} {n : Nat} (hl : lost.length = us.length) (hn : n ≤ us.length) : (hurtN us lost n).length = us.length := by
  unfold hurtN
  rw [List.length_append, hurt_len (by simp [hl]), List.length_take, List.length_drop]
  omega
theorem hurtN_at {us : List UnV} {lost : List Int} {n : Nat} {u : UnV} (hl : lost.length = us.length) (hu : us[n]? = some u) : (hurtN us lost n)[n]? = some u := by
  have hn : n < us.length := (List.getElem?_eq_some_iff.1 hu).1
  unfold hurtN
  have h1 : (hurt (us.take n) (lost.take n)).length = n := by rw [hurt_len (by simp [hl]), List.length_take]; omega
  rw [List.getElem?_append_right (by omega), h1, Nat.sub_self, List.getElem?_drop, Nat.add_zero]
  exact hu
theorem hurtN_next {us : List UnV} {lost : List Int} {n : Nat} {u : UnV} {x : Int} (hl : lost.length = us.length) (hu : us[n]? = some u) (hx : lost[n]? = some x) : (hurtN us lost n).set n { u with life := u.life - x } = hurtN us lost (n + 1) := by
  obtain ⟨hn, e1⟩ := List.getElem?_eq_some_iff.1 hu
  obtain ⟨hn2, e2⟩ := List.getElem?_eq_some_iff.1 hx
  have h1 : (hurt (us.take n) (lost.take n)).length = n := by rw [hurt_len (by simp [hl]), List.length_take]; omega
  unfold hurtN
  rw [List.set_append_right _ _ (by omega), h1, Nat.sub_self, List.drop_eq_getElem_cons hn, List.set_cons_zero]
  rw [List.take_succ_eq_append_getElem hn, List.take_succ_eq_append_getElem hn2, e1, e2]
  unfold hurt
  rw [List.zipWith_append (by simp [hl])]
  simp
theorem hurt_at {us : List UnV} {lost : List Int} {n : Nat} {u : UnV} {x : Int} (hu : us[n]? = some u) (hx : lost[n]? = some x) : (hurt us lost)[n]? = some { u with life := u.life - x } := by
  unfold hurt
  rw [List.getElem?_zipWith, hu, hx]
end Go.Proofs.YteieikgkmfglaaaGreatDoor

namespace Go.Proofs.YteieikgkmfglaaaGreatDoor
set_option linter.unusedVariables false

/-- whom the reference has found among the first m ones, and how far it is. -/
def RBest (W : Nat) (u : UnV) (rng : Int) (us : List UnV) (m : Nat) (best far : Int) : Prop :=
  (best = -1 ∧ foesU W u rng (us.take m) = [])
  ∨ ∃ (b : Nat) (x x0 : UnV) (tl : List UnV), best = b ∧ b < m ∧ us[b]? = some x ∧ far = farU W u x ∧ foesU W u rng (us.take m) = x0 :: tl ∧ minU (keyU W u) x0 tl = x
theorem foes_next {W : Nat} {u : UnV} {rng : Int} {us : List UnV} {m : Nat} {y : UnV} (hy : us[m]? = some y) : foesU W u rng (us.take (m + 1)) = foesU W u rng (us.take m) ++ (if safeU W u rng y then [] else [y]) := by
  obtain ⟨hi, e⟩ := List.getElem?_eq_some_iff.1 hy
  unfold foesU
  rw [List.take_succ_eq_append_getElem hi, List.filter_append, e]
  cases h : safeU W u rng y <;> simp [h]
theorem minU_snoct (d : UnV → Int) (m y : UnV) (l : List UnV) : minU d m (l ++ [y]) = if d y < d (minU d m l) then y else minU d m l := by
  unfold minU
  rw [List.foldl_append]
  rfl
theorem RBest.start (W : Nat) (u : UnV) (rng : Int) (us : List UnV) (far : Int) : RBest W u rng us 0 (-1) far := .inl ⟨rfl, rfl⟩
theorem RBest.safe {W : Nat} {u : UnV} {rng : Int} {us : List UnV} {m : Nat} {y : UnV} {best far : Int} (h : RBest W u rng us m best far) (hy : us[m]? = some y) (hs : safeU W u rng y = true) : RBest W u rng us (m + 1) best far := by
  have e := foes_next (W := W) (u := u) (rng := rng) hy
  rw [if_pos hs, List.append_nil] at e
  rcases h with ⟨h1, h2⟩ | ⟨b, x, x0, tl, h1, h2, h3, h4, h5, h6⟩
  · exact .inl ⟨h1, e.trans h2⟩
  · exact .inr ⟨b, x, x0, tl, h1, by omega, h3, h4, e.trans h5, h6⟩
theorem RBest.first {W : Nat} {u : UnV} {rng : Int} {us : List UnV} {m : Nat} {y : UnV} {far : Int} (h : RBest W u rng us m (-1) far) (hy : us[m]? = some y) (hs : safeU W u rng y = false) : RBest W u rng us (m + 1) (m : Nat) (farU W u y) := by
  have e := foes_next (W := W) (u := u) (rng := rng) hy
  rw [if_neg (by rw [hs]; simp)] at e
  rcases h with ⟨-, h2⟩ | ⟨b, x, x0, tl, h1, h2, h3, h4, h5, h6⟩
  · rw [h2] at e
    exact .inr ⟨m, y, y, [], rfl, by omega, hy, rfl, e, rfl⟩
  · omega
theorem RBest.nearer {W : Nat} {u : UnV} {rng : Int} {us : List UnV} {m b : Nat} {x y : UnV} {far : Int} (h : RBest W u rng us m (b : Nat) far) (hx : us[b]? = some x) (hy : us[m]? = some y) (hs : safeU W u rng y = false) (hk : keyU W u y < keyU W u x) : RBest W u rng us (m + 1) (m : Nat) (farU W u y) := by
  have e := foes_next (W := W) (u := u) (rng := rng) hy
  rw [if_neg (by rw [hs]; simp)] at e
  rcases h with ⟨h1, -⟩ | ⟨b', x', x0, tl, h1, h2, h3, h4, h5, h6⟩
  · omega
  · obtain rfl : b = b' := by omega
    rw [hx] at h3
    cases h3
    rw [h5, List.cons_append] at e
    exact .inr ⟨m, y, x0, tl ++ [y], rfl, by omega, hy, rfl, e, by rw [minU_snoct, h6, if_pos hk]⟩
theorem RBest.keeps {W : Nat} {u : UnV} {rng : Int} {us : List UnV} {m b : Nat} {x y : UnV} {far : Int} (h : RBest W u rng us m (b : Nat) far) (hx : us[b]? = some x) (hy : us[m]? = some y) (hs : safeU W u rng y = false) (hk : ¬ keyU W u y < keyU W u x) : RBest W u rng us (m + 1) (b : Nat) far := by
  have e := foes_next (W := W) (u := u) (rng := rng) hy
  rw [if_neg (by rw [hs]; simp)] at e
  rcases h with ⟨h1, -⟩ | ⟨b', x', x0, tl, h1, h2, h3, h4, h5, h6⟩
  · omega
  · obtain rfl : b = b' := by omega
    rw [hx] at h3
    cases h3
    rw [h5, List.cons_append] at e
    exact .inr ⟨b, x, x0, tl ++ [y], rfl, by omega, hx, h4, e, by rw [minU_snoct, h6, if_neg hk]⟩
/-- what is known of the best one. -/
theorem RBest.who {W : Nat} {u : UnV} {rng : Int} {us : List UnV} {m : Nat} {best far : Int} (h : RBest W u rng us m best far) (hm : m ≤ us.length) : best = -1 ∨ ∃ (b : Nat) (x : UnV), best = b ∧ b < us.length ∧ us[b]? = some x ∧ far = farU W u x := by
  rcases h with ⟨h1, -⟩ | ⟨b, x, x0, tl, h1, h2, h3, h4, h5, h6⟩
  · exact .inl h1
  · exact .inr ⟨b, x, h1, by omega, h3, h4⟩
theorem key_lt {W : Nat} {u x y : UnV} (hx : 0 ≤ x.life ∧ x.life ≤ 1000000) (hy : 0 ≤ y.life ∧ y.life ≤ 1000000) : keyU W u y < keyU W u x ↔ farU W u y < farU W u x ∨ (farU W u y = farU W u x ∧ y.life < x.life) := by
  unfold keyU
  have h1 := farN_ge W u.at_.toNat x.at_.toNat
  have h2 := farN_ge W u.at_.toNat y.at_.toNat
  unfold farU
  omega
/-- at the end it is the one whom the unit strikes. -/
theorem RBest.done {ks : List KV} {X : WV} {W : Nat} {u : UnV} {k : KV} {best far : Int} (hr : WRight ks X) (h : RBest W u k.n2 X.us X.us.length best far) (hn : k.n1 ≠ 0) : best = tgt W u k X.us := by
  have e : X.us.take X.us.length = X.us := List.take_of_length_le (Nat.le_refl _)
  unfold tgt
  rw [if_neg hn]
  rcases h with ⟨h1, h2⟩ | ⟨b, x, x0, tl, h1, h2, h3, h4, h5, h6⟩
  · rw [e] at h2
    rw [h2]
    exact h1
  · rw [e] at h5
    rw [h5]
    show best = fsti (fun o => o.id == (minU (keyU W u) x0 tl).id) X.us
    rw [h6, h1]
    exact (fst_is hr h3 rfl (fsti_fst _ _)).symm
theorem tg_is (W : Nat) (u : UnV) (k : KV) (us : List UnV) : TgSays W u k us (tgt W u k us) := by
  by_cases h : k.n1 = 0
  · exact .inl ⟨h, by unfold tgt; rw [if_pos h]⟩
  · cases hf : foesU W u k.n2 us with
    | nil => exact .inr (.inl ⟨h, hf, by unfold tgt; rw [if_neg h, hf]⟩)
    | cons x0 tl => exact .inr (.inr ⟨h, x0, tl, hf, by unfold tgt; rw [if_neg h, hf]; exact fsti_fst _ _⟩)
/-- one is struck once more. -/
theorem hurt_set {us : List UnV} {ls : List Int} {n : Nat} {x : UnV} {a b c : Int} (hx : us[n]? = some x) (ha : ls[n]? = some a) (hc : c = x.life - b) : (hurt us ls).set n { x with life := c } = hurt us (ls.set n b) := by
  subst hc
  unfold hurt
  refine List.ext_getElem? fun i => ?_
  rw [List.getElem?_set]
  by_cases h : n = i
  · subst h
    have h1 : n < (us.zipWith (fun u n => { u with life := u.life - n }) ls).length := by
      rw [List.length_zipWith]
      have := (List.getElem?_eq_some_iff.1 hx).1
      have := (List.getElem?_eq_some_iff.1 ha).1
      omega
    have h2 := (List.getElem?_eq_some_iff.1 ha).1
    rw [if_pos rfl, if_pos h1, List.getElem?_zipWith, hx, List.getElem?_set, if_pos rfl, if_pos h2]
  · rw [if_neg h, List.getElem?_zipWith, List.getElem?_zipWith, List.getElem?_set, if_neg h]
theorem hurt_zero : ∀ (us : List UnV), hurt us (List.replicate us.length 0) = us
  | [] => rfl
  | u :: us => by
    have h := hurt_zero us
    unfold hurt at h ⊢
    rw [List.length_cons, List.replicate_succ, List.zipWith_cons_cons, h]
    simp
theorem tgt_none {W : Nat} {u : UnV} {k : KV} {us : List UnV} (hn : k.n1 = 0) : tgt W u k us = -1 := by unfold tgt; rw [if_pos hn]
theorem safe_iff {W : Nat} {u y : UnV} {rng : Int} : safeU W u rng y = true ↔ y.player = u.player ∨ rng < farU W u y := by
  unfold safeU
  simp
end Go.Proofs.YteieikgkmfglaaaGreatDoor

namespace Go.Proofs.YteieikgkmfglaaaGreatDoor
open Go.RowKit

set_option maxHeartbeats 400000 in
theorem ref_root (n : Int) (w : World) (h0 : 0 ≤ n) (h1 : n ≤ 9223372036854775807) :
    Calls Tryz.prog 156 #[.int .i64 n] w fun e w' => ∃ r, Ma.Sq r n ∧ e = .returned (.int .i64 r) ∧ w' = w := by
  go_enter Tryz.func156, Tryz.ntmps156
  go_wp2
  go_loop [3, 4] (fun low high => ∃ l h : Int, low = .int .i64 l ∧ high = .int .i64 h ∧ 0 ≤ l ∧ l < h ∧ h ≤ 3037000500 ∧ l * l ≤ n ∧ n < h * h) (fun low high => (intOf high - intOf low).toNat)
  case atStart => exact ⟨0, 3037000500, rfl, rfl, by omega, by omega, by omega, by omega, by omega⟩
  case round =>
    obtain ⟨l, h, rfl, rfl, l0, lh, hh, hl, hu⟩ := hrel
    by_cases ht : 1 < h - l
    · have Hl : Hid (l * l ≤ n) := hl
      have Hu : Hid (n < h * h) := hu
      clear hl hu
      have m1 : l < (l + h) / 2 := by omega
      have m2 : (l + h) / 2 < h := by omega
      have m3 := Ma.mul_mono ((l + h) / 2) 3037000499 (by omega) (by omega)
      have m4 := Int.mul_nonneg (a := (l + h) / 2) (b := (l + h) / 2) (by omega) (by omega)
      by_cases hm : (l + h) / 2 * ((l + h) / 2) ≤ n
      · go_wp2
        go_round
        case rel => exact ⟨(l + h) / 2, h, rfl, rfl, by omega, m2, hh, hm, Hu⟩
        case measure => simp [intOf]; omega
      · go_wp2
        go_round
        case rel => exact ⟨l, (l + h) / 2, rfl, rfl, l0, m1, by omega, Hl, by omega⟩
        case measure => simp [intOf]; omega
    · have e : h = l + 1 := by omega
      subst e
      have Hl : Hid (Ma.Sq l n) := ⟨l0, hl, hu⟩
      clear hl hu
      go_wp2
      go_ret
      exact ⟨l, Hl, rfl, rfl⟩

set_option maxHeartbeats 400000 in
theorem ref_far (a b c d : Int) (w : World) (ha : In6 a) (hb : In6 b) (hc : In6 c) (hd : In6 d) :
    Calls Tryz.prog 136 #[.int .i64 a, .int .i64 b, .int .i64 c, .int .i64 d] w fun e w' => ∃ r, Ma.Sq r ((a - c) * (a - c) + (b - d) * (b - d)) ∧ e = .returned (.int .i64 r) ∧ w' = w := by
  obtain ⟨ha1, ha2⟩ := ha
  obtain ⟨hb1, hb2⟩ := hb
  obtain ⟨hc1, hc2⟩ := hc
  obtain ⟨hd1, hd2⟩ := hd
  obtain ⟨s10, s11⟩ := sqb (a - c) (by omega) (by omega)
  obtain ⟨s20, s21⟩ := sqb (b - d) (by omega) (by omega)
  go_enter Tryz.func136, Tryz.ntmps136
  go_wp2_with (go_at_call 156; refine (ref_root _ _ (by omega) (by omega)).mono ?_; rintro e w' ⟨r, hr, rfl, rfl⟩)
  go_ret
  exact ⟨r, hr, rfl, rfl⟩
end Go.Proofs.YteieikgkmfglaaaGreatDoor

namespace Go.Proofs.YteieikgkmfglaaaGreatDoor
open Go.RowKit
set_option linter.unusedVariables false

theorem sq_ex (n : Nat) : ∃ r : Int, Ma.Sq r n := by
  induction n with
  | zero => exact ⟨0, by decide, by decide, by decide⟩
  | succ n ih =>
    obtain ⟨r, h0, h1, h2⟩ := ih
    by_cases h : ((n + 1 : Nat) : Int) < (r + 1) * (r + 1)
    · exact ⟨r, h0, by omega, h⟩
    · have e := Ma.sq_expand (r + 1) 1
      exact ⟨r + 1, by omega, by omega, by omega⟩

set_option maxHeartbeats 1000000 in
theorem ref_apart (v : Value) (W H : Nat) (gs os : List Int) (a b : Nat) (r : Int) (w : World) (h : Fl w v W H gs os) (h1 : 0 < W) (h2 : W ≤ 12) (h3 : H ≤ 12) (ha : a < W * H) (hb : b < W * H)
    (hr : Ma.Sq r ((((a % W : Nat) : Int) - (b % W : Nat)) * (((a % W : Nat) : Int) - (b % W : Nat)) + (((a / W : Nat) : Int) - (b / W : Nat)) * (((a / W : Nat) : Int) - (b / W : Nat)))) :
    Calls Tryz.prog 110 #[v, .int .i64 (a : Nat), .int .i64 (b : Nat)] w fun e w' => e = .returned (.int .i64 r) ∧ Below w.heap.size w w' := by
  obtain ⟨u1, u2, rfl, -, -⟩ := h
  have hm : W * H ≤ 144 := Nat.mul_le_mul h2 h3
  have a1 : a / W < H := Nat.div_lt_of_lt_mul ha
  have a2 : b / W < H := Nat.div_lt_of_lt_mul hb
  have a3 := Nat.mod_lt a h1
  have a4 := Nat.mod_lt b h1
  have e1 : (a : Int) % (W : Int) = (a % W : Nat) := rfl
  have e2 : (a : Int) / (W : Int) = (a / W : Nat) := rfl
  have e3 : (b : Int) % (W : Int) = (b % W : Nat) := rfl
  have e4 : (b : Int) / (W : Int) = (b / W : Nat) := rfl
  have A1 : a ≤ 144 := by omega
  have B1 : b ≤ 144 := by omega
  generalize a % W = p at *
  generalize a / W = m at *
  generalize b % W = q at *
  generalize b / W = n at *
  have hw : ¬ (W : Int) = 0 := by omega
  have K : Hid (∀ W', Calls Tryz.prog 136 #[.int .i64 (p : Nat), .int .i64 (m : Nat), .int .i64 (q : Nat), .int .i64 (n : Nat)] W' fun e w' => e = .returned (.int .i64 r) ∧ w' = W') := fun W' =>
    (ref_far p m q n W' ⟨by omega, by omega⟩ ⟨by omega, by omega⟩ ⟨by omega, by omega⟩ ⟨by omega, by omega⟩).mono fun e w' ⟨r', h1, h2, h3⟩ => ⟨by rw [h2, Ma.sq_uniq _ _ _ h1 hr], h3⟩
  have m1 : m ≤ 144 := by omega
  have n1 : n ≤ 144 := by omega
  clear ha hb hr a1 a2 a3 a4
  generalize hw0 : w.alloc (Obj.cells #[.int .i64 (W : Nat), .int .i64 (H : Nat), u1, u2] 25) = w0
  have B0 : Hid (Below w.heap.size w w0) := by rw [← hw0]; exact (Below.refl _ _).alloc (Nat.le_refl _) _
  have f0 : w0.cell? ⟨w.heap.size, 0, none⟩ = some (.int .i64 (W : Nat)) := by rw [← hw0]; simp
  have Hw : Hid (w.alloc (Obj.cells #[.int .i64 (W : Nat), .int .i64 (H : Nat), u1, u2] 25) = w0) := hw0
  clear hw0
  go_enter Tryz.func110, Tryz.ntmps110
  go_wp2_with fail
  rw [Hw.out]
  go_quiet ((go_at_call 136; exact Calls.quiet_of_same (K.out _)))
  go_wp2
  go_ret
  exact ⟨rfl, _root_.Go.below_drewN B0.out _⟩
end Go.Proofs.YteieikgkmfglaaaGreatDoor

namespace Go.Proofs.YteieikgkmfglaaaGreatDoor
open Go.RowKit
set_option linter.unusedVariables false

theorem self_ge (x : Int) : 0 ≤ x * x := by
  rcases Int.le_total 0 x with h | h
  · exact Int.mul_nonneg h h
  · have e : x * x = (-x) * (-x) := by rw [Int.neg_mul_neg]
    rw [e]
    exact Int.mul_nonneg (by omega) (by omega)
theorem rapart_any (v : Value) (W H : Nat) (gs os : List Int) (a b : Nat) (w : World) (h : Fl w v W H gs os) (h1 : 0 < W) (h2 : W ≤ 12) (h3 : H ≤ 12) (ha : a < W * H) (hb : b < W * H) :
    Calls Tryz.prog 110 #[v, .int .i64 (a : Nat), .int .i64 (b : Nat)] w fun e w' => e = .returned (.int .i64 (farN W a b)) ∧ Below w.heap.size w w' := by
  have hm : W * H ≤ 144 := Nat.mul_le_mul h2 h3
  have s1 : 0 ≤ (((a % W : Nat) : Int) - ((b % W : Nat) : Int)) * (((a % W : Nat) : Int) - ((b % W : Nat) : Int)) := self_ge _
  have s2 : 0 ≤ (((a / W : Nat) : Int) - ((b / W : Nat) : Int)) * (((a / W : Nat) : Int) - ((b / W : Nat) : Int)) := self_ge _
  obtain ⟨n, hn⟩ : ∃ n : Nat, (((a % W : Nat) : Int) - ((b % W : Nat) : Int)) * (((a % W : Nat) : Int) - ((b % W : Nat) : Int)) + (((a / W : Nat) : Int) - ((b / W : Nat) : Int)) * (((a / W : Nat) : Int) - ((b / W : Nat) : Int)) = n := ⟨Int.toNat _, (Int.toNat_of_nonneg (Int.add_nonneg s1 s2)).symm⟩
  obtain ⟨r, hr⟩ := sq_ex n
  rw [← hn] at hr
  have e := farN_eq (W := W) (a := a) (b := b) h2 (by omega) (by omega) h1 hr
  rw [e]
  exact ref_apart v W H gs os a b r w h h1 h2 h3 ha hb hr
end Go.Proofs.YteieikgkmfglaaaGreatDoor

namespace Go.Proofs.YteieikgkmfglaaaGreatDoor
open Go.RowKit
set_option linter.unusedVariables false

set_option maxRecDepth 100000 in
set_option maxHeartbeats 2000000 in
theorem apart_any (H : Int) (u1 u2 : Value) (Wn a b : Nat) (w : World) (h1 : 0 < Wn) (h2 : Wn ≤ 12) (ha : a ≤ 144) (hb : b ≤ 144) :
    Calls Tryz.prog 141 #[.agg #[.int .i64 (Wn : Nat), .int .i64 H, u1, u2], .int .i64 (a : Nat), .int .i64 (b : Nat)] w fun e w' => e = .returned (.int .i64 (farN Wn a b)) ∧ Below w.heap.size w w' := by
  obtain ⟨ca, hca⟩ : ∃ n, a % Wn = n := ⟨_, rfl⟩
  obtain ⟨ra, hra⟩ : ∃ n, a / Wn = n := ⟨_, rfl⟩
  obtain ⟨cb, hcb⟩ : ∃ n, b % Wn = n := ⟨_, rfl⟩
  obtain ⟨rb, hrb⟩ : ∃ n, b / Wn = n := ⟨_, rfl⟩
  have hw : ¬ (Wn : Int) = 0 := by omega
  have e1 : (a : Int) % (Wn : Int) = (ca : Nat) := by rw [← hca]; rfl
  have e2 : (a : Int) / (Wn : Int) = (ra : Nat) := by rw [← hra]; rfl
  have e3 : (b : Int) % (Wn : Int) = (cb : Nat) := by rw [← hcb]; rfl
  have e4 : (b : Int) / (Wn : Int) = (rb : Nat) := by rw [← hrb]; rfl
  have l1 : ra ≤ 144 := by rw [← hra]; exact Nat.le_trans (Nat.div_le_self _ _) ha
  have l2 : rb ≤ 144 := by rw [← hrb]; exact Nat.le_trans (Nat.div_le_self _ _) hb
  have l3 : ca ≤ 144 := by rw [← hca]; exact Nat.le_trans (Nat.mod_le _ _) ha
  have l4 : cb ≤ 144 := by rw [← hcb]; exact Nat.le_trans (Nat.mod_le _ _) hb
  have FR : Hid (∀ r, Ma.Sq r (((ca : Int) - (cb : Nat)) * ((ca : Int) - (cb : Nat)) + ((ra : Int) - (rb : Nat)) * ((ra : Int) - (rb : Nat))) → farN Wn a b = r) := by
    intro r hr
    refine farN_eq h2 ha hb h1 ?_
    rw [hca, hra, hcb, hrb]
    exact hr
  have FO : Hid (∀ W, Calls Tryz.prog 160 #[.int .i64 (ca : Nat), .int .i64 (ra : Nat), .int .i64 (cb : Nat), .int .i64 (rb : Nat)] W fun e w' => e = .returned (.tuple #[.int .i64 (farN Wn a b), .nilIface]) ∧ w' = W) := fun W => by
    refine (far_ok _ _ _ _ W (small_in6 l3) (small_in6 l1) (small_in6 l4) (small_in6 l2)).mono ?_
    rintro e w' ⟨r, hr, rfl, rfl⟩
    rw [FR.out r hr]
    exact ⟨rfl, rfl⟩
  clear hca hra hcb hrb FR
  have B0 : Hid (Below w.heap.size w (w.alloc (Obj.cells #[.int .i64 (Wn : Nat), .int .i64 H, u1, u2] 25))) := (Below.refl _ _).alloc (Nat.le_refl _) _
  have c0 : (w.alloc (Obj.cells #[.int .i64 (Wn : Nat), .int .i64 H, u1, u2] 25)).cell? ⟨w.heap.size, 0, none⟩ = some (.int .i64 (Wn : Nat)) := by simp
  obtain ⟨f, hf⟩ : ∃ f, farN Wn a b = f := ⟨_, rfl⟩
  rw [hf] at FO ⊢
  clear hf
  go_enter Tryz.func141, Tryz.ntmps141
  go_upto_region 1 with fail
  generalize (w.alloc (Obj.cells #[.int .i64 (Wn : Nat), .int .i64 H, u1, u2] 25)) = w0 at *
  go_quiet ((go_at_call 160; exact Calls.quiet_of_same (FO.out _)))
  go_wp2
  go_ret
  exact ⟨rfl, ⟨B0.out.os, B0.out.tape, B0.out.output, B0.out.size, B0.out.block⟩⟩
end Go.Proofs.YteieikgkmfglaaaGreatDoor

namespace Go.Proofs.YteieikgkmfglaaaGreatDoor
open Go.RowKit
set_option linter.unusedVariables false

theorem or2_any (x y : Int) (b : Nat) (w : World) (h0 : w.cell? ⟨b, 0, none⟩ = some (.int .i64 x)) (h1 : w.cell? ⟨b, 1, none⟩ = some (.int .i64 y)) :
    Calls Tryz.prog 131 #[.slice (some ⟨b, 0, none⟩) 2 2] w fun e w' => e = .returned (.int .i64 (if x = 0 then y else x)) ∧ w' = w := by
  by_cases hx : x = 0
  · subst hx
    by_cases hy : y = 0
    · subst hy
      go_enter Tryz.func131, Tryz.ntmps131
      go_wp2
      refine wp_loop_rounds 3 ?_
      rw [rounds_succ]
      go_wp2
      rw [rounds_succ]
      go_wp2
      rw [rounds_succ]
      go_wp2
      go_ret
      exact ⟨rfl, rfl⟩
    · have hyb : (y == 0) = false := beq_eq_false_iff_ne.2 hy
      go_enter Tryz.func131, Tryz.ntmps131
      go_wp2
      refine wp_loop_rounds 2 ?_
      rw [rounds_succ]
      go_wp2
      rw [rounds_succ]
      go_wp2
      go_ret
      exact ⟨by simp, rfl⟩
  · have hxb : (x == 0) = false := beq_eq_false_iff_ne.2 hx
    go_enter Tryz.func131, Tryz.ntmps131
    go_wp2
    refine wp_loop_rounds 1 ?_
    rw [rounds_succ]
    go_wp2
    go_ret
    exact ⟨by simp, rfl⟩

/-- a cell of a field. -/
def InF (u : UnV) : Prop := 0 ≤ u.at_ ∧ u.at_ ≤ 144
/-- target's boxes: the world, the unit. -/
structure Tb (w : World) (bw bu : Nat) (X : WV) (u1 u2 u3 u4 u5 : Value) (u : UnV) : Prop where
  x : Bw w bw X u1 u2 u3 u4 u5
  u : Unc w ⟨bu, 0, none⟩ u
theorem Tb.below {w V : World} {bw bu n : Nat} {X : WV} {u1 u2 u3 u4 u5 : Value} {u : UnV} (h : Tb w bw bu X u1 u2 u3 u4 u5 u) (hb : Below n w V) (h1 : bw < n) (h2 : bu < n) : Tb V bw bu X u1 u2 u3 u4 u5 u :=
  ⟨h.x.below hb h1, h.u.below hb h2⟩
set_option maxRecDepth 100000 in
set_option maxHeartbeats 2000000 in
theorem far_fg (X : WV) (u o : UnV) (Wn bw bu : Nat) (u1 u2 u3 u4 u5 : Value) (w : World) (hT : Tb w bw bu X u1 u2 u3 u4 u5 u) (hW : X.wide = (Wn : Nat)) (h1 : 0 < Wn) (h2 : Wn ≤ 12) (hu : InF u) (ho : InF o) :
    Calls Tryz.prog 140 #[o.val, .pointer (some ⟨bw, 0, none⟩), .pointer (some ⟨bu, 0, none⟩)] w fun e w' => e = .returned (.int .i64 (farU Wn u o)) ∧ Below w.heap.size w w' := by
  obtain ⟨an, han⟩ : ∃ n : Nat, u.at_ = n := ⟨u.at_.toNat, by have := hu.1; omega⟩
  obtain ⟨cn, hcn⟩ : ∃ n : Nat, o.at_ = n := ⟨o.at_.toNat, by have := ho.1; omega⟩
  have FU : Hid (farU Wn u o = farN Wn an cn) := by unfold Hid farU; rw [han, hcn]; rfl
  have LL : Hid (0 < Wn ∧ Wn ≤ 12 ∧ an ≤ 144 ∧ cn ≤ 144) := ⟨h1, h2, by have := hu.2; omega, by have := ho.2; omega⟩
  have HE : Hid (u.at_ = (an : Nat) ∧ o.at_ = (cn : Nat) ∧ X.wide = (Wn : Nat)) := ⟨han, hcn, hW⟩
  have T0 : Hid (Tb w bw bu X u1 u2 u3 u4 u5 u) := hT
  have B0 : Hid (Below w.heap.size w (w.alloc (Obj.cells #[.int .i64 o.id, .int .i64 o.player, .int .i64 o.kind, .int .i64 o.at_, .int .i64 o.life, .int .i64 o.load, .int .i64 o.task, .int .i64 o.goal] 44))) := (Below.refl _ _).alloc (Nat.le_refl _) _
  have O0 : Hid (Unc (w.alloc (Obj.cells #[.int .i64 o.id, .int .i64 o.player, .int .i64 o.kind, .int .i64 o.at_, .int .i64 o.life, .int .i64 o.load, .int .i64 o.task, .int .i64 o.goal] 44)) ⟨w.heap.size, 0, none⟩ o) := Unc.mk' o rfl
  clear hT han hcn hW h1 h2 hu ho
  unfold UnV.val
  go_enter Tryz.func140, Tryz.ntmps140
  go_upto_region 1 with fail
  generalize (w.alloc (Obj.cells #[.int .i64 o.id, .int .i64 o.player, .int .i64 o.kind, .int .i64 o.at_, .int .i64 o.life, .int .i64 o.load, .int .i64 o.task, .int .i64 o.goal] 44)) = w0 at *
  have T1 := T0.out.below B0.out T0.out.x.lt T0.out.u.lt
  obtain ⟨x0, x1, x2, x3, x4, x5, x6, x7, x8⟩ := T1.x
  obtain ⟨y0, y1, y2, y3, y4, y5, y6, y7⟩ := T1.u
  obtain ⟨q0, q1, q2, q3, q4, q5, q6, q7⟩ := O0.out
  rw [HE.out.1] at y3
  rw [HE.out.2.1] at q3
  rw [HE.out.2.2] at x2
  clear T1
  go_wp2_with fail
  refine (apart_any _ _ _ Wn an cn w0 LL.out.1 LL.out.2.1 LL.out.2.2.1 LL.out.2.2.2).mono ?_
  rintro e w1 ⟨rfl, hb⟩
  have B1 : Hid (Below w.heap.size w w1) := B0.out.trans (hb.mono B0.out.size)
  clear hb x0 x1 x2 x3 x4 x5 x6 x7 x8 y0 y1 y2 y3 y4 y5 y6 y7 q0 q1 q2 q3 q4 q5 q6 q7
  obtain ⟨f, hf⟩ : ∃ f, farN Wn an cn = f := ⟨_, rfl⟩
  rw [hf] at FU ⊢
  clear hf
  go_wp2
  go_ret
  exact ⟨by rw [FU.out]; rfl, B1.out⟩

set_option maxRecDepth 100000 in
set_option maxHeartbeats 4000000 in
theorem safe_fg (X : WV) (u o : UnV) (Wn bw bu bf bk : Nat) (rng : Int) (u1 u2 u3 u4 u5 : Value) (w : World) (hT : Tb w bw bu X u1 u2 u3 u4 u5 u) (hF : w.cell? ⟨bf, 0, none⟩ = some (.func (Fn.func 140) #[] #[.pointer (some ⟨bw, 0, none⟩), .pointer (some ⟨bu, 0, none⟩)])) (hK : w.cell? ⟨bk, 3, none⟩ = some (.int .i64 rng)) (hW : X.wide = (Wn : Nat)) (h1 : 0 < Wn) (h2 : Wn ≤ 12) (hu : InF u) (ho : InF o) :
    Calls Tryz.prog 142 #[o.val, .pointer (some ⟨bu, 0, none⟩), .pointer (some ⟨bf, 0, none⟩), .pointer (some ⟨bk, 0, none⟩)] w fun e w' => e = .returned (.bool (safeU Wn u rng o)) ∧ Below w.heap.size w w' := by
  have T0 : Hid (Tb w bw bu X u1 u2 u3 u4 u5 u) := hT
  have GG : Hid (X.wide = (Wn : Nat) ∧ 0 < Wn ∧ Wn ≤ 12 ∧ InF u ∧ InF o) := ⟨hW, h1, h2, hu, ho⟩
  have CF : Hid (w.cell? ⟨bf, 0, none⟩ = some (.func (Fn.func 140) #[] #[.pointer (some ⟨bw, 0, none⟩), .pointer (some ⟨bu, 0, none⟩)]) ∧ w.cell? ⟨bk, 3, none⟩ = some (.int .i64 rng) ∧ bf < w.heap.size ∧ bk < w.heap.size) := ⟨hF, hK, cell_lt hF, cell_lt hK⟩
  have B0 : Hid (Below w.heap.size w (w.alloc (Obj.cells #[.int .i64 o.id, .int .i64 o.player, .int .i64 o.kind, .int .i64 o.at_, .int .i64 o.life, .int .i64 o.load, .int .i64 o.task, .int .i64 o.goal] 44))) := (Below.refl _ _).alloc (Nat.le_refl _) _
  have O0 : Hid (Unc (w.alloc (Obj.cells #[.int .i64 o.id, .int .i64 o.player, .int .i64 o.kind, .int .i64 o.at_, .int .i64 o.life, .int .i64 o.load, .int .i64 o.task, .int .i64 o.goal] 44)) ⟨w.heap.size, 0, none⟩ o) := Unc.mk' o rfl
  have CB : Hid (∀ V, Below w.heap.size w V → Unc V ⟨w.heap.size, 0, none⟩ o → (V.cell? ⟨w.heap.size, 1, none⟩ = some (.int .i64 o.player) ∧ V.cell? ⟨bu, 1, none⟩ = some (.int .i64 u.player) ∧ V.cell? ⟨bf, 0, none⟩ = some (.func (Fn.func 140) #[] #[.pointer (some ⟨bw, 0, none⟩), .pointer (some ⟨bu, 0, none⟩)]) ∧ V.cell? ⟨bk, 3, none⟩ = some (.int .i64 rng) ∧ Unc V ⟨w.heap.size, 0, none⟩ o ∧ Tb V bw bu X u1 u2 u3 u4 u5 u)) := fun V hb h0 =>
    ⟨by have := h0.c1; rw [Nat.zero_add] at this; exact this, by have := (T0.out.u.below hb T0.out.u.lt).c1; rw [Nat.zero_add] at this; exact this, by rw [hb.cell (p := ⟨bf, 0, none⟩) CF.out.2.2.1]; exact CF.out.1, by rw [hb.cell (p := ⟨bk, 3, none⟩) CF.out.2.2.2]; exact CF.out.2.1, h0, T0.out.below hb T0.out.x.lt T0.out.u.lt⟩
  clear hT hF hK hW h1 h2 hu ho
  unfold UnV.val
  go_enter Tryz.func142, Tryz.ntmps142
  go_upto_region 1 with fail
  generalize (w.alloc (Obj.cells #[.int .i64 o.id, .int .i64 o.player, .int .i64 o.kind, .int .i64 o.at_, .int .i64 o.life, .int .i64 o.load, .int .i64 o.task, .int .i64 o.goal] 44)) = w0 at *
  by_cases hp : o.player = u.player
  · have S1 : Hid (safeU Wn u rng o = true) := by unfold Hid safeU; rw [hp]; simp
    obtain ⟨d1, d2, d3, d4, ⟨q0, q1, q2, q3, q4, q5, q6, q7⟩, -⟩ := CB.out w0 B0.out O0.out
    rw [hp] at d1 q1
    go_quiet (fail)
    go_wp2
    go_ret
    exact ⟨by rw [S1.out]; rfl, ⟨B0.out.os, B0.out.tape, B0.out.output, B0.out.size, B0.out.block⟩⟩
  · have hp' : (o.player == u.player) = false := by rw [beq_eq_false_iff_ne]; exact hp
    have S1 : Hid (safeU Wn u rng o = decide (rng < farU Wn u o)) := by unfold Hid safeU; rw [hp']; rfl
    clear hp
    refine wp_region_two [(true, 0), (true, 1), (true, 2), (true, 3), (true, 4), (true, 5), (true, 6), (true, 7), (true, 9), (true, 10), (false, 8)] [(true, 11), (true, 12), (false, 13)] (fun V => (V.cell? ⟨w.heap.size, 1, none⟩ = some (.int .i64 o.player) ∧ V.cell? ⟨bu, 1, none⟩ = some (.int .i64 u.player) ∧ V.cell? ⟨bf, 0, none⟩ = some (.func (Fn.func 140) #[] #[.pointer (some ⟨bw, 0, none⟩), .pointer (some ⟨bu, 0, none⟩)]) ∧ V.cell? ⟨bk, 3, none⟩ = some (.int .i64 rng) ∧ Unc V ⟨w.heap.size, 0, none⟩ o ∧ Tb V bw bu X u1 u2 u3 u4 u5 u)) (by kernel_rfl) (by kernel_rfl) (by kernel_rfl) (by decide +kernel) (by decide +kernel) (CB.out _ B0.out.drew (O0.out.below ((Below.refl _ _).drew) O0.out.lt)) ?_
    have B1 : Hid (Below w.heap.size w { w0 with drawn := w0.drawn + 1 }) := B0.out.drew
    have O1 : Hid (Unc { w0 with drawn := w0.drawn + 1 } ⟨w.heap.size, 0, none⟩ o) := O0.out.below ((Below.refl _ _).drew) O0.out.lt
    generalize ({ w0 with drawn := w0.drawn + 1 } : World) = w1 at *
    clear B0 O0
    refine headT_read rfl (.pointer (some ⟨w.heap.size, 1, none⟩)) (by go_simp) (fun V hV => by go_simp) ?_
    go_simp
    refine headT_read rfl (.int .i64 o.player) (by go_simp) (fun V hV => by obtain ⟨d1, d2, d3, d4, ⟨q0, q1, q2, q3, q4, q5, q6, q7⟩, -⟩ := hV; go_simp) ?_
    go_simp
    refine headT_read rfl (.pointer (some ⟨bu, 1, none⟩)) (by go_simp) (fun V hV => by go_simp) ?_
    go_simp
    refine headT_read rfl (.int .i64 u.player) (by go_simp) (fun V hV => by obtain ⟨d1, d2, d3, d4, ⟨q0, q1, q2, q3, q4, q5, q6, q7⟩, -⟩ := hV; go_simp) ?_
    go_simp
    refine headT_read rfl (.bool false) (by go_simp) (fun V hV => by go_simp) ?_
    go_simp
    refine headT_read rfl (.bool false) (by go_simp) (fun V hV => by go_simp) ?_
    go_simp
    refine headT_read rfl (.func (Fn.func 140) #[] #[.pointer (some ⟨bw, 0, none⟩), .pointer (some ⟨bu, 0, none⟩)]) (by go_simp) (fun V hV => by obtain ⟨d1, d2, d3, d4, ⟨q0, q1, q2, q3, q4, q5, q6, q7⟩, -⟩ := hV; go_simp) ?_
    go_simp
    refine headT_read rfl (.agg #[.int .i64 o.id, .int .i64 o.player, .int .i64 o.kind, .int .i64 o.at_, .int .i64 o.life, .int .i64 o.load, .int .i64 o.task, .int .i64 o.goal]) (by go_simp) (fun V hV => by obtain ⟨d1, d2, d3, d4, ⟨q0, q1, q2, q3, q4, q5, q6, q7⟩, -⟩ := hV; go_simp) ?_
    go_simp
    refine headT_read rfl (.pointer (some ⟨bk, 3, none⟩)) (by go_simp) (fun V hV => by go_simp) ?_
    go_simp
    refine headT_read rfl (.int .i64 rng) (by go_simp) (fun V hV => by obtain ⟨d1, d2, d3, d4, ⟨q0, q1, q2, q3, q4, q5, q6, q7⟩, -⟩ := hV; go_simp) ?_
    go_simp
    refine headT_call rfl 140 (#[o.val] ++ #[.pointer (some ⟨bw, 0, none⟩), .pointer (some ⟨bu, 0, none⟩)]) (by go_simp) (by go_simp; rfl) ?_
    refine (far_fg X u o Wn bw bu _ _ _ _ _ w1 (T0.out.below B1.out T0.out.x.lt T0.out.u.lt) GG.out.1 GG.out.2.1 GG.out.2.2.1 GG.out.2.2.2.1 GG.out.2.2.2.2).mono ?_
    rintro e w2 ⟨rfl, hb⟩
    have B2 : Hid (Below w.heap.size w w2) := B1.out.trans (hb.mono B1.out.size)
    refine ⟨_, rfl, CB.out _ B2.out (O1.out.below hb O1.out.lt), ?_⟩
    clear hb B1 O1
    go_simp
    obtain ⟨t, ht⟩ : ∃ t, farU Wn u o = t := ⟨_, rfl⟩
    rw [ht] at S1 ⊢
    clear ht
    refine sched_read rfl (.bool (decide (rng < t))) (by go_simp) (fun V hV => by go_simp) ?_
    go_simp
    refine sched_read rfl (.bool (decide (rng < t))) (by go_simp) (fun V hV => by go_simp) ?_
    go_simp
    refine sched_value rfl (.bool (decide (rng < t))) w2 (by go_simp) (by go_simp) trivial ?_
    go_simp
    unfold wpSched
    go_wp2
    go_ret
    exact ⟨by rw [S1.out]; rfl, B2.out⟩

set_option maxRecDepth 100000 in
set_option maxHeartbeats 4000000 in
theorem soon_fg (X : WV) (u a b : UnV) (Wn bw bu bf : Nat) (u1 u2 u3 u4 u5 : Value) (w : World) (hT : Tb w bw bu X u1 u2 u3 u4 u5 u) (hF : w.cell? ⟨bf, 0, none⟩ = some (.func (Fn.func 140) #[] #[.pointer (some ⟨bw, 0, none⟩), .pointer (some ⟨bu, 0, none⟩)])) (hW : X.wide = (Wn : Nat)) (h1 : 0 < Wn) (h2 : Wn ≤ 12) (hu : InF u) (ha : InF a) (hb : InF b) (la : 0 ≤ a.life ∧ a.life ≤ 1000000) (lb : 0 ≤ b.life ∧ b.life ≤ 1000000) :
    Calls Tryz.prog 144 #[a.val, b.val, .pointer (some ⟨bf, 0, none⟩)] w fun e w' => e = .returned (.int .i64 (soonU Wn u a b)) ∧ Below w.heap.size w w' := by
  have T0 : Hid (Tb w bw bu X u1 u2 u3 u4 u5 u) := hT
  have GG : Hid (X.wide = (Wn : Nat) ∧ 0 < Wn ∧ Wn ≤ 12 ∧ InF u ∧ InF a ∧ InF b) := ⟨hW, h1, h2, hu, ha, hb⟩
  have CF : Hid (w.cell? ⟨bf, 0, none⟩ = some (.func (Fn.func 140) #[] #[.pointer (some ⟨bw, 0, none⟩), .pointer (some ⟨bu, 0, none⟩)]) ∧ bf < w.heap.size) := ⟨hF, cell_lt hF⟩
  have wl : IntKind.i64.wrap (a.life - b.life) = a.life - b.life := by rw [IntKind.wrap_i64]; omega
  have wf : IntKind.i64.wrap (farU Wn u a - farU Wn u b) = farU Wn u a - farU Wn u b := by
    have g1 := farN_ge Wn u.at_.toNat a.at_.toNat
    have g2 := farN_ge Wn u.at_.toNat b.at_.toNat
    unfold farU
    rw [IntKind.wrap_i64]; omega
  have B0 : Hid (Below w.heap.size w ((w.alloc (Obj.cells #[.int .i64 a.id, .int .i64 a.player, .int .i64 a.kind, .int .i64 a.at_, .int .i64 a.life, .int .i64 a.load, .int .i64 a.task, .int .i64 a.goal] 44)).alloc (Obj.cells #[.int .i64 b.id, .int .i64 b.player, .int .i64 b.kind, .int .i64 b.at_, .int .i64 b.life, .int .i64 b.load, .int .i64 b.task, .int .i64 b.goal] 44))) := ((Below.refl _ _).alloc (Nat.le_refl _) _).alloc (by simp) _
  have A0 : Hid (Unc ((w.alloc (Obj.cells #[.int .i64 a.id, .int .i64 a.player, .int .i64 a.kind, .int .i64 a.at_, .int .i64 a.life, .int .i64 a.load, .int .i64 a.task, .int .i64 a.goal] 44)).alloc (Obj.cells #[.int .i64 b.id, .int .i64 b.player, .int .i64 b.kind, .int .i64 b.at_, .int .i64 b.life, .int .i64 b.load, .int .i64 b.task, .int .i64 b.goal] 44)) ⟨w.heap.size, 0, none⟩ a) := (Unc.mk' a rfl).below ((Below.refl _ _).alloc (Nat.le_refl _) _) (by simp)
  have V0 : Hid (Unc ((w.alloc (Obj.cells #[.int .i64 a.id, .int .i64 a.player, .int .i64 a.kind, .int .i64 a.at_, .int .i64 a.life, .int .i64 a.load, .int .i64 a.task, .int .i64 a.goal] 44)).alloc (Obj.cells #[.int .i64 b.id, .int .i64 b.player, .int .i64 b.kind, .int .i64 b.at_, .int .i64 b.life, .int .i64 b.load, .int .i64 b.task, .int .i64 b.goal] 44)) ⟨w.heap.size + 1, 0, none⟩ b) := Unc.mk' b (by simp)
  have CB : Hid (∀ V, Below w.heap.size w V → Unc V ⟨w.heap.size, 0, none⟩ a → Unc V ⟨w.heap.size + 1, 0, none⟩ b → (V.cell? ⟨bf, 0, none⟩ = some (.func (Fn.func 140) #[] #[.pointer (some ⟨bw, 0, none⟩), .pointer (some ⟨bu, 0, none⟩)]) ∧ Unc V ⟨w.heap.size, 0, none⟩ a ∧ Unc V ⟨w.heap.size + 1, 0, none⟩ b ∧ V.cell? ⟨w.heap.size, 4, none⟩ = some (.int .i64 a.life) ∧ V.cell? ⟨w.heap.size + 1, 4, none⟩ = some (.int .i64 b.life))) := fun V hb h0 h1 =>
    ⟨by rw [hb.cell (p := ⟨bf, 0, none⟩) CF.out.2]; exact CF.out.1, h0, h1, by have := h0.c4; rw [Nat.zero_add] at this; exact this, by have := h1.c4; rw [Nat.zero_add] at this; exact this⟩
  clear hT hF hW h1 h2 hu ha hb la lb
  unfold UnV.val
  go_enter Tryz.func144, Tryz.ntmps144
  go_upto_region 1 with fail
  generalize ((w.alloc (Obj.cells #[.int .i64 a.id, .int .i64 a.player, .int .i64 a.kind, .int .i64 a.at_, .int .i64 a.life, .int .i64 a.load, .int .i64 a.task, .int .i64 a.goal] 44)).alloc (Obj.cells #[.int .i64 b.id, .int .i64 b.player, .int .i64 b.kind, .int .i64 b.at_, .int .i64 b.life, .int .i64 b.load, .int .i64 b.task, .int .i64 b.goal] 44)) = w0 at *
  refine wp_region_two [(true, 0), (true, 1), (true, 3), (true, 4), (true, 7), (true, 8), (true, 9), (true, 10), (true, 11), (false, 2), (false, 5), (true, 6), (false, 12), (false, 13)] [(false, 14)] (fun V => (V.cell? ⟨bf, 0, none⟩ = some (.func (Fn.func 140) #[] #[.pointer (some ⟨bw, 0, none⟩), .pointer (some ⟨bu, 0, none⟩)]) ∧ Unc V ⟨w.heap.size, 0, none⟩ a ∧ Unc V ⟨w.heap.size + 1, 0, none⟩ b ∧ V.cell? ⟨w.heap.size, 4, none⟩ = some (.int .i64 a.life) ∧ V.cell? ⟨w.heap.size + 1, 4, none⟩ = some (.int .i64 b.life))) (by kernel_rfl) (by kernel_rfl) (by kernel_rfl) (by decide +kernel) (by decide +kernel) (CB.out _ B0.out.drew (A0.out.below ((Below.refl _ _).drew) A0.out.lt) (V0.out.below ((Below.refl _ _).drew) V0.out.lt)) ?_
  have B1 : Hid (Below w.heap.size w { w0 with drawn := w0.drawn + 1 }) := B0.out.drew
  have A1 : Hid (Unc { w0 with drawn := w0.drawn + 1 } ⟨w.heap.size, 0, none⟩ a) := A0.out.below ((Below.refl _ _).drew) A0.out.lt
  have V1 : Hid (Unc { w0 with drawn := w0.drawn + 1 } ⟨w.heap.size + 1, 0, none⟩ b) := V0.out.below ((Below.refl _ _).drew) V0.out.lt
  generalize ({ w0 with drawn := w0.drawn + 1 } : World) = w1 at *
  clear B0 A0 V0
  refine headT_read rfl (.func (Fn.func 140) #[] #[.pointer (some ⟨bw, 0, none⟩), .pointer (some ⟨bu, 0, none⟩)]) (by go_simp) (fun V hV => by obtain ⟨d1, ⟨q0, q1, q2, q3, q4, q5, q6, q7⟩, ⟨r0, r1, r2, r3, r4, r5, r6, r7⟩, d2, d3⟩ := hV; go_simp) ?_
  go_simp
  refine headT_read rfl (.agg #[.int .i64 a.id, .int .i64 a.player, .int .i64 a.kind, .int .i64 a.at_, .int .i64 a.life, .int .i64 a.load, .int .i64 a.task, .int .i64 a.goal]) (by go_simp) (fun V hV => by obtain ⟨d1, ⟨q0, q1, q2, q3, q4, q5, q6, q7⟩, ⟨r0, r1, r2, r3, r4, r5, r6, r7⟩, d2, d3⟩ := hV; go_simp) ?_
  go_simp
  refine headT_read rfl (.func (Fn.func 140) #[] #[.pointer (some ⟨bw, 0, none⟩), .pointer (some ⟨bu, 0, none⟩)]) (by go_simp) (fun V hV => by obtain ⟨d1, ⟨q0, q1, q2, q3, q4, q5, q6, q7⟩, ⟨r0, r1, r2, r3, r4, r5, r6, r7⟩, d2, d3⟩ := hV; go_simp) ?_
  go_simp
  refine headT_read rfl (.agg #[.int .i64 b.id, .int .i64 b.player, .int .i64 b.kind, .int .i64 b.at_, .int .i64 b.life, .int .i64 b.load, .int .i64 b.task, .int .i64 b.goal]) (by go_simp) (fun V hV => by obtain ⟨d1, ⟨q0, q1, q2, q3, q4, q5, q6, q7⟩, ⟨r0, r1, r2, r3, r4, r5, r6, r7⟩, d2, d3⟩ := hV; go_simp) ?_
  go_simp
  refine headT_read rfl (.pointer (some ⟨w.heap.size, 4, none⟩)) (by go_simp) (fun V hV => by go_simp) ?_
  go_simp
  refine headT_read rfl (.int .i64 a.life) (by go_simp) (fun V hV => by obtain ⟨d1, ⟨q0, q1, q2, q3, q4, q5, q6, q7⟩, ⟨r0, r1, r2, r3, r4, r5, r6, r7⟩, d2, d3⟩ := hV; go_simp) ?_
  go_simp
  refine headT_read rfl (.pointer (some ⟨w.heap.size + 1, 4, none⟩)) (by go_simp) (fun V hV => by go_simp) ?_
  go_simp
  refine headT_read rfl (.int .i64 b.life) (by go_simp) (fun V hV => by obtain ⟨d1, ⟨q0, q1, q2, q3, q4, q5, q6, q7⟩, ⟨r0, r1, r2, r3, r4, r5, r6, r7⟩, d2, d3⟩ := hV; go_simp) ?_
  go_simp
  refine headT_read rfl (.int .i64 (a.life - b.life)) (by go_simp) (fun V hV => by go_simp) ?_
  go_simp
  refine headT_call rfl 140 (#[a.val] ++ #[.pointer (some ⟨bw, 0, none⟩), .pointer (some ⟨bu, 0, none⟩)]) (by go_simp) (by go_simp; rfl) ?_
  refine (far_fg X u a Wn bw bu _ _ _ _ _ w1 (T0.out.below B1.out T0.out.x.lt T0.out.u.lt) GG.out.1 GG.out.2.1 GG.out.2.2.1 GG.out.2.2.2.1 GG.out.2.2.2.2.1).mono ?_
  rintro e w2 ⟨rfl, hb⟩
  have B2 : Hid (Below w.heap.size w w2) := B1.out.trans (hb.mono B1.out.size)
  have A2 : Hid (Unc w2 ⟨w.heap.size, 0, none⟩ a) := A1.out.below hb A1.out.lt
  have V2 : Hid (Unc w2 ⟨w.heap.size + 1, 0, none⟩ b) := V1.out.below hb V1.out.lt
  refine ⟨_, rfl, CB.out _ B2.out A2.out V2.out, ?_⟩
  clear hb B1 A1 V1
  go_simp
  refine headT_call rfl 140 (#[b.val] ++ #[.pointer (some ⟨bw, 0, none⟩), .pointer (some ⟨bu, 0, none⟩)]) (by go_simp) (by go_simp; rfl) ?_
  refine (far_fg X u b Wn bw bu _ _ _ _ _ w2 (T0.out.below B2.out T0.out.x.lt T0.out.u.lt) GG.out.1 GG.out.2.1 GG.out.2.2.1 GG.out.2.2.2.1 GG.out.2.2.2.2.2).mono ?_
  rintro e w3 ⟨rfl, hb⟩
  have B3 : Hid (Below w.heap.size w w3) := B2.out.trans (hb.mono B2.out.size)
  have A3 : Hid (Unc w3 ⟨w.heap.size, 0, none⟩ a) := A2.out.below hb A2.out.lt
  have V3 : Hid (Unc w3 ⟨w.heap.size + 1, 0, none⟩ b) := V2.out.below hb V2.out.lt
  refine ⟨_, rfl, CB.out _ B3.out A3.out V3.out, ?_⟩
  clear hb B2 A2 V2
  go_simp
  obtain ⟨fa, hfa⟩ : ∃ t, farU Wn u a = t := ⟨_, rfl⟩
  obtain ⟨fb, hfb⟩ : ∃ t, farU Wn u b = t := ⟨_, rfl⟩
  have SO : Hid (soonU Wn u a b = if fa - fb = 0 then a.life - b.life else fa - fb) := by unfold Hid soonU; rw [hfa, hfb]
  rw [hfa, hfb] at wf
  rw [hfa, hfb]
  clear hfa hfb
  refine headT_read rfl (.int .i64 (fa - fb)) (by go_simp) (fun V hV => by go_simp) ?_
  go_simp
  have BA : Hid (Below w3.heap.size w3 (w3.alloc (Obj.cells #[.int .i64 (fa - fb), .int .i64 (a.life - b.life)] 3))) := (Below.refl _ _).alloc (Nat.le_refl _) _
  have s0 : (w3.alloc (Obj.cells #[.int .i64 (fa - fb), .int .i64 (a.life - b.life)] 3)).cell? ⟨w3.heap.size, 0, none⟩ = some (.int .i64 (fa - fb)) := by simp
  have s1 : (w3.alloc (Obj.cells #[.int .i64 (fa - fb), .int .i64 (a.life - b.life)] 3)).cell? ⟨w3.heap.size, 1, none⟩ = some (.int .i64 (a.life - b.life)) := by simp
  refine headT_value rfl (.slice (some ⟨w3.heap.size, 0, none⟩) 2 2) (w3.alloc (Obj.cells #[.int .i64 (fa - fb), .int .i64 (a.life - b.life)] 3)) (by go_simp) (by go_simp) (CB.out _ (B3.out.trans (BA.out.mono B3.out.size)) (A3.out.below BA.out A3.out.lt) (V3.out.below BA.out V3.out.lt)) ?_
  go_simp
  generalize (w3.alloc (Obj.cells #[.int .i64 (fa - fb), .int .i64 (a.life - b.life)] 3)) = w4 at *
  have B4 : Hid (Below w.heap.size w w4) := B3.out.trans (BA.out.mono B3.out.size)
  have A4 : Hid (Unc w4 ⟨w.heap.size, 0, none⟩ a) := A3.out.below BA.out A3.out.lt
  have V4 : Hid (Unc w4 ⟨w.heap.size + 1, 0, none⟩ b) := V3.out.below BA.out V3.out.lt
  refine headT_call rfl 131 #[.slice (some ⟨w3.heap.size, 0, none⟩) 2 2] (by go_simp) (by go_simp) ?_
  refine (or2_any _ _ _ w4 s0 s1).mono ?_
  rintro e w5 ⟨rfl, rfl⟩
  refine ⟨_, rfl, CB.out _ B4.out A4.out V4.out, ?_⟩
  rw [← SO.out]
  obtain ⟨t, ht⟩ : ∃ t, soonU Wn u a b = t := ⟨_, rfl⟩
  have ST : Hid (soonU Wn u a b = t) := ht
  rw [ht]
  clear ht SO s0 s1 BA
  go_simp
  refine sched_value rfl (.int .i64 t) w5 (by go_simp) (by go_simp) trivial ?_
  go_simp
  unfold wpSched
  go_wp2
  go_ret
  exact ⟨by rw [ST.out]; rfl, B4.out⟩
end Go.Proofs.YteieikgkmfglaaaGreatDoor

namespace Go.Proofs.YteieikgkmfglaaaGreatDoor
open Go.RowKit
set_option linter.unusedVariables false

theorem field_id (m : UnV) (W : World) : (Instr.field 44 (.agg #[.int .i64 m.id, .int .i64 m.player, .int .i64 m.kind, .int .i64 m.at_, .int .i64 m.life, .int .i64 m.load, .int .i64 m.task, .int .i64 m.goal]) 0).run Tryz.prog W = .ok (.int .i64 m.id) W := by kernel_rfl
set_option maxRecDepth 100000 in
set_option maxHeartbeats 4000000 in
theorem target_any (vk vw : Value) (ks : List KV) (X : WV) (u : UnV) (Wn : Nat) (k : KV) (w : World) (hk : Kl w vk ks) (hw : Wl w vw X) (e1 : X.wide = (Wn : Nat)) (h1 : 0 < Wn) (h2 : Wn ≤ 12) (hl : X.us.length ≤ 1000000)
    (hu : InF u) (hk0 : 0 ≤ u.kind) (hk' : ks[u.kind.toNat]? = some k) (hus : ∀ h ∈ X.us, InF h ∧ 0 ≤ h.life ∧ h.life ≤ 1000000) :
    Calls Tryz.prog 113 #[vk, vw, u.val] w fun e w' => ∃ t, e = .returned (.int .i64 t) ∧ TgSays Wn u k X.us t ∧ Below w.heap.size w w' := by
  obtain ⟨kn, hkn⟩ : ∃ n : Nat, u.kind = n := ⟨u.kind.toNat, by omega⟩
  have hkk : ks[kn]? = some k := by rw [hkn, Int.toNat_natCast] at hk'; exact hk'
  have hkl : kn < ks.length := (List.getElem?_eq_some_iff.1 hkk).1
  have H : Hid (Wl w vw X) := hw
  have GD : Hid (X.wide = (Wn : Nat) ∧ 0 < Wn ∧ Wn ≤ 12 ∧ InF u ∧ X.us.length ≤ 1000000 ∧ ∀ h ∈ X.us, InF h ∧ 0 ≤ h.life ∧ h.life ≤ 1000000) := ⟨e1, h1, h2, hu, hl, hus⟩
  obtain ⟨p1, q1, p2, q2, p3, q3, p4, q4, p5, q5, rfl⟩ := wl_shape9 hw
  obtain ⟨pk, qk, rfl, ck1, ck2, kc⟩ := hk
  obtain ⟨xk, rfl, hxl, hxc⟩ := kc (by intro h; subst h; simp at hkl)
  have KK : Hid (Kc w (xk.add (kn * 11)) k ∧ (xk.add (kn * 11)).block < w.heap.size) := ⟨hxc kn k hkk, by rw [add_block]; exact hxl⟩
  have HE : Hid (u.kind = (kn : Nat)) := hkn
  clear hw e1 h1 h2 hl hu hk0 hk' hus hkn kc hxc hxl hkk
  unfold UnV.val
  go_enter Tryz.func113, Tryz.ntmps113
  go_upto_region 1 with fail
  have B0 : Hid (Below w.heap.size w ((w.alloc (Obj.cells #[.int .i64 X.turn, .int .i64 X.next, .int .i64 X.wide, .int .i64 X.high, .slice p1 X.gs.length q1, .slice p2 X.os.length q2, .slice p3 X.gold.length q3, .slice p4 X.us.length q4, .slice p5 X.qs.length q5] 29)).alloc (Obj.cells #[.int .i64 u.id, .int .i64 u.player, .int .i64 u.kind, .int .i64 u.at_, .int .i64 u.life, .int .i64 u.load, .int .i64 u.task, .int .i64 u.goal] 44))) := ((Below.refl _ _).alloc (Nat.le_refl _) _).alloc (by simp) _
  have T0 : Hid (Tb ((w.alloc (Obj.cells #[.int .i64 X.turn, .int .i64 X.next, .int .i64 X.wide, .int .i64 X.high, .slice p1 X.gs.length q1, .slice p2 X.os.length q2, .slice p3 X.gold.length q3, .slice p4 X.us.length q4, .slice p5 X.qs.length q5] 29)).alloc (Obj.cells #[.int .i64 u.id, .int .i64 u.player, .int .i64 u.kind, .int .i64 u.at_, .int .i64 u.life, .int .i64 u.load, .int .i64 u.task, .int .i64 u.goal] 44)) w.heap.size (w.heap.size + 1) X (.slice p1 X.gs.length q1) (.slice p2 X.os.length q2) (.slice p3 X.gold.length q3) (.slice p4 X.us.length q4) (.slice p5 X.qs.length q5) u) := ⟨(Bw.mk' X _ _ _ _ _ rfl).below ((Below.refl _ _).alloc (Nat.le_refl _) _) (by simp), Unc.mk' u (by simp)⟩
  have Z0 : Hid (((w.alloc (Obj.cells #[.int .i64 X.turn, .int .i64 X.next, .int .i64 X.wide, .int .i64 X.high, .slice p1 X.gs.length q1, .slice p2 X.os.length q2, .slice p3 X.gold.length q3, .slice p4 X.us.length q4, .slice p5 X.qs.length q5] 29)).alloc (Obj.cells #[.int .i64 u.id, .int .i64 u.player, .int .i64 u.kind, .int .i64 u.at_, .int .i64 u.life, .int .i64 u.load, .int .i64 u.task, .int .i64 u.goal] 44)).heap.size = w.heap.size + 2) := by unfold Hid; simp
  generalize ((w.alloc (Obj.cells #[.int .i64 X.turn, .int .i64 X.next, .int .i64 X.wide, .int .i64 X.high, .slice p1 X.gs.length q1, .slice p2 X.os.length q2, .slice p3 X.gold.length q3, .slice p4 X.us.length q4, .slice p5 X.qs.length q5] 29)).alloc (Obj.cells #[.int .i64 u.id, .int .i64 u.player, .int .i64 u.kind, .int .i64 u.at_, .int .i64 u.life, .int .i64 u.load, .int .i64 u.task, .int .i64 u.goal] 44)) = w0 at *
  obtain ⟨z0, z1, z2, z3, z4, z5, z6, z7, z8, z9, z10⟩ := KK.out.1.below B0.out KK.out.2
  obtain ⟨y0, y1, y2, y3, y4, y5, y6, y7⟩ := T0.out.u
  rw [HE.out] at y2
  go_upto_region 2 with fail
  have BK : Hid (Below w0.heap.size w0 (w0.alloc (Obj.cells #[.string k.b, .int .i64 k.n0, .int .i64 k.n1, .int .i64 k.n2, .int .i64 k.n3, .int .i64 k.n4, .int .i64 k.n5, .int .i64 k.n6, .int .i64 k.n7, .bool k.f, .bool k.t] 68))) := (Below.refl _ _).alloc (Nat.le_refl _) _
  have K1 : Hid (Kc (w0.alloc (Obj.cells #[.string k.b, .int .i64 k.n0, .int .i64 k.n1, .int .i64 k.n2, .int .i64 k.n3, .int .i64 k.n4, .int .i64 k.n5, .int .i64 k.n6, .int .i64 k.n7, .bool k.f, .bool k.t] 68)) ⟨w.heap.size + 2, 0, none⟩ k) := kind_new k Z0.out
  have Z1 : Hid ((w0.alloc (Obj.cells #[.string k.b, .int .i64 k.n0, .int .i64 k.n1, .int .i64 k.n2, .int .i64 k.n3, .int .i64 k.n4, .int .i64 k.n5, .int .i64 k.n6, .int .i64 k.n7, .bool k.f, .bool k.t] 68)).heap.size = w.heap.size + 3) := by have := Z0.out; unfold Hid; simp; omega
  rw [Z0.out]
  generalize (w0.alloc (Obj.cells #[.string k.b, .int .i64 k.n0, .int .i64 k.n1, .int .i64 k.n2, .int .i64 k.n3, .int .i64 k.n4, .int .i64 k.n5, .int .i64 k.n6, .int .i64 k.n7, .bool k.f, .bool k.t] 68)) = w1 at *
  have B1 : Hid (Below w.heap.size w w1) := B0.out.trans (BK.out.mono B0.out.size)
  have T1 : Hid (Tb w1 (w.heap.size) (w.heap.size + 1) X (.slice p1 X.gs.length q1) (.slice p2 X.os.length q2) (.slice p3 X.gold.length q3) (.slice p4 X.us.length q4) (.slice p5 X.qs.length q5) u) := T0.out.below BK.out T0.out.x.lt T0.out.u.lt
  clear z0 z1 z2 z3 z4 z5 z6 z7 z8 z9 z10 y0 y1 y2 y3 y4 y5 y6 y7 B0 BK T0 Z0
  have c2 : w1.cell? ⟨w.heap.size + 2, 2, none⟩ = some (.int .i64 k.n1) := by have := K1.out.c2; rw [Nat.zero_add] at this; exact this
  by_cases h0 : k.n1 = 0
  · have N1 : Hid (k.n1 = 0) := h0
    rw [h0] at c2
    go_wp2
    go_ret
    exact ⟨-1, rfl, .inl ⟨N1.out, rfl⟩, B1.out⟩
  have N1 : Hid (k.n1 ≠ 0) := h0
  have h0' : (k.n1 == 0) = false := by rw [beq_eq_false_iff_ne]; exact h0
  clear h0
  have sf : ∀ (a : Addr) (f : Fn) (x y : Array Value) (w : World) (m : Mode), (store a (.func f x y) m).run Tryz.prog w = stored Tryz.prog w a (.func f x y) m := fun a f x y w m => run_store _ w a _ m rfl
  go_upto_region 5 with fail
  clear sf
  have BF : Hid (Below w1.heap.size w1 (w1.alloc (Obj.cells #[.func (Fn.func 140) #[] #[.pointer (some ⟨w.heap.size, 0, none⟩), .pointer (some ⟨w.heap.size + 1, 0, none⟩)]] 193))) := (Below.refl _ _).alloc (Nat.le_refl _) _
  have F2 : Hid ((w1.alloc (Obj.cells #[.func (Fn.func 140) #[] #[.pointer (some ⟨w.heap.size, 0, none⟩), .pointer (some ⟨w.heap.size + 1, 0, none⟩)]] 193)).cell? ⟨w.heap.size + 3, 0, none⟩ = some (.func (Fn.func 140) #[] #[.pointer (some ⟨w.heap.size, 0, none⟩), .pointer (some ⟨w.heap.size + 1, 0, none⟩)])) := cell_of_new Z1.out rfl
  have Z2 : Hid (w.heap.size + 3 < (w1.alloc (Obj.cells #[.func (Fn.func 140) #[] #[.pointer (some ⟨w.heap.size, 0, none⟩), .pointer (some ⟨w.heap.size + 1, 0, none⟩)]] 193)).heap.size) := by have := Z1.out; unfold Hid; simp; omega
  rw [Z1.out]
  generalize (w1.alloc (Obj.cells #[.func (Fn.func 140) #[] #[.pointer (some ⟨w.heap.size, 0, none⟩), .pointer (some ⟨w.heap.size + 1, 0, none⟩)]] 193)) = w2 at *
  have B2 : Hid (Below w.heap.size w w2) := B1.out.trans (BF.out.mono B1.out.size)
  have T2 : Hid (Tb w2 (w.heap.size) (w.heap.size + 1) X (.slice p1 X.gs.length q1) (.slice p2 X.os.length q2) (.slice p3 X.gold.length q3) (.slice p4 X.us.length q4) (.slice p5 X.qs.length q5) u) := T1.out.below BF.out T1.out.x.lt T1.out.u.lt
  have K2 : Hid (w2.cell? ⟨w.heap.size + 2, 3, none⟩ = some (.int .i64 k.n2)) := by have := (K1.out.below BF.out K1.out.lt).c3; rw [Nat.zero_add] at this; exact this
  clear c2 B1 T1 K1 Z1 BF h0'
  obtain ⟨x0, x1, x2, x3, x4, x5, x6, x7, x8⟩ := T2.out.x
  have US : Hid (Unl w (.slice p4 X.us.length q4) X.us) := H.out.slices.2.2.2.1
  go_wp2_with fail
  refine (clone_any _ X.us w2 (US.out.below B2.out) GD.out.2.2.2.2.1).mono ?_
  rintro e w3 ⟨v, rfl, ho, hb⟩
  have O3 : Hid (Uno w3 w2.heap.size v X.us) := ho
  have B3 : Hid (Below w2.heap.size w2 w3) := hb
  have TT : Hid (∀ W, Below w2.heap.size w2 W → Tb W (w.heap.size) (w.heap.size + 1) X (.slice p1 X.gs.length q1) (.slice p2 X.os.length q2) (.slice p3 X.gold.length q3) (.slice p4 X.us.length q4) (.slice p5 X.qs.length q5) u ∧ W.cell? ⟨w.heap.size + 3, 0, none⟩ = some (.func (Fn.func 140) #[] #[.pointer (some ⟨w.heap.size, 0, none⟩), .pointer (some ⟨w.heap.size + 1, 0, none⟩)]) ∧ W.cell? ⟨w.heap.size + 2, 3, none⟩ = some (.int .i64 k.n2)) := fun W hW =>
    ⟨T2.out.below hW T2.out.x.lt T2.out.u.lt, by rw [hW.cell (p := ⟨w.heap.size + 3, 0, none⟩) Z2.out]; exact F2.out, by rw [hW.cell (p := ⟨w.heap.size + 2, 3, none⟩) (show w.heap.size + 2 < w2.heap.size by have := Z2.out; omega)]; exact K2.out⟩
  have PR : Hid (∀ W, Below w2.heap.size w2 W → ∀ h ∈ X.us, Calls Tryz.prog 142 (#[h.val] ++ #[.pointer (some ⟨w.heap.size + 1, 0, none⟩), .pointer (some ⟨w.heap.size + 3, 0, none⟩), .pointer (some ⟨w.heap.size + 2, 0, none⟩)]) W fun e w' => e = .returned (.bool (safeU Wn u k.n2 h)) ∧ Below W.heap.size W w') := fun W hW h hh =>
    safe_fg X u h Wn _ _ _ _ k.n2 _ _ _ _ _ W (TT.out W hW).1 (TT.out W hW).2.1 (TT.out W hW).2.2 GD.out.1 GD.out.2.1 GD.out.2.2.1 GD.out.2.2.2.1 (GD.out.2.2.2.2.2 h hh).1
  clear ho hb x0 x1 x2 x3 x4 x5 x6 x7 x8 F2 K2
  go_wp2_with fail
  refine (del_any 142 (by intro args w; go_simp) v #[.pointer (some ⟨w.heap.size + 1, 0, none⟩), .pointer (some ⟨w.heap.size + 3, 0, none⟩), .pointer (some ⟨w.heap.size + 2, 0, none⟩)] X.us (safeU Wn u k.n2) w3 w2.heap.size O3.out B3.out.size GD.out.2.2.2.2.1 (fun W hW h hh => PR.out W (B3.out.trans hW) h hh)).mono ?_
  rintro e w4 ⟨v4, rfl, ho, hb⟩
  have B4 : Hid (Below w2.heap.size w2 w4) := B3.out.trans hb
  have L4 : Hid (Unl w4 v4 (foesU Wn u k.n2 X.us)) := ho.l
  obtain ⟨a4, c4, rfl⟩ := ho.len
  obtain ⟨hs, hhs⟩ : ∃ hs, foesU Wn u k.n2 X.us = hs := ⟨_, rfl⟩
  have HS : Hid (foesU Wn u k.n2 X.us = hs) := hhs
  have e4 : (X.us.filter (fun o => !safeU Wn u k.n2 o)).length = hs.length := by rw [← hhs]; rfl
  rw [hhs, e4] at L4
  rw [e4]
  clear ho hb e4 hhs O3 B3 PR
  have BW : Hid (Below w.heap.size w w4) := B2.out.trans (B4.out.mono B2.out.size)
  cases hs with
  | nil =>
    simp only [List.length_nil]
    go_wp2
    go_ret
    exact ⟨-1, rfl, .inr (.inl ⟨N1.out, HS.out, rfl⟩), BW.out⟩
  | cons f0 tl =>
    have HM : Hid (∀ h ∈ f0 :: tl, h ∈ X.us) := fun h hh => by rw [← HS.out] at hh; exact (List.mem_filter.1 hh).1
    have TL : Hid (tl.length ≤ 1000000) := by
      have h1 : (foesU Wn u k.n2 X.us).length ≤ X.us.length := List.length_filter_le _ _
      rw [HS.out, List.length_cons] at h1
      have h2 := GD.out.2.2.2.2.1
      unfold Hid
      omega
    have hne : (((f0 :: tl).length : Nat) : Int) ≠ 0 := by rw [List.length_cons]; omega
    have hne' : ((((f0 :: tl).length : Nat) : Int) == 0) = false := by rw [beq_eq_false_iff_ne]; exact hne
    obtain ⟨n, hn⟩ : ∃ n, (f0 :: tl).length = n := ⟨_, rfl⟩
    have HN : Hid ((f0 :: tl).length = n) := hn
    rw [hn] at hne hne' ⊢
    clear hn
    have L5 : Hid (Unl w4 (.slice a4 n c4) (f0 :: tl)) := by rw [← HN.out]; exact L4.out
    clear L4
    go_upto_region 10 with fail
    have BX : Hid (∀ V, Below w2.heap.size w2 V → Bw V (w.heap.size) X (.slice p1 X.gs.length q1) (.slice p2 X.os.length q2) (.slice p3 X.gold.length q3) (.slice p4 X.us.length q4) (.slice p5 X.qs.length q5)) := fun V hV => (TT.out V hV).1.x
    refine wp_region_two [(true, 0), (true, 1), (true, 2), (false, 3), (true, 4), (false, 5)] [(false, 6)] (fun V => Bw V (w.heap.size) X (.slice p1 X.gs.length q1) (.slice p2 X.os.length q2) (.slice p3 X.gold.length q3) (.slice p4 X.us.length q4) (.slice p5 X.qs.length q5)) (by kernel_rfl) (by kernel_rfl) (by kernel_rfl) (by decide +kernel) (by decide +kernel) (BX.out _ B4.out.drew) ?_
    have B5 : Hid (Below w2.heap.size w2 { w4 with drawn := w4.drawn + 1 }) := B4.out.drew
    have L6 : Hid (Unl { w4 with drawn := w4.drawn + 1 } (.slice a4 n c4) (f0 :: tl)) := L5.out.below ((Below.refl _ _).drew)
    generalize ({ w4 with drawn := w4.drawn + 1 } : World) = w5 at *
    clear B4 L5 BW
    refine headT_read rfl (.agg #[.int .i64 X.turn, .int .i64 X.next, .int .i64 X.wide, .int .i64 X.high, .slice p1 X.gs.length q1, .slice p2 X.os.length q2, .slice p3 X.gold.length q3, .slice p4 X.us.length q4, .slice p5 X.qs.length q5]) (by go_simp) (fun V hV => by obtain ⟨x0, x1, x2, x3, x4, x5, x6, x7, x8⟩ := hV; go_simp) ?_
    go_simp
    refine headT_read rfl (.slice a4 n c4) (by go_simp) (fun V hV => by go_simp) ?_
    go_simp
    refine headT_read rfl (.func (Fn.func 144) #[] #[.pointer (some ⟨w.heap.size + 3, 0, none⟩)]) (by go_simp) (fun V hV => by go_simp) ?_
    go_simp
    refine headT_call rfl 145 #[.slice a4 n c4, .func (Fn.func 144) #[] #[.pointer (some ⟨w.heap.size + 3, 0, none⟩)]] (by go_simp) (by go_simp) ?_
    refine (min_gen 144 (by intro args w; go_simp) _ #[.pointer (some ⟨w.heap.size + 3, 0, none⟩)] f0 tl (keyU Wn u) (soonU Wn u) w5 L6.out TL.out (fun a ha b hb => soon_key (GD.out.2.2.2.2.2 a (HM.out a ha)).2 (GD.out.2.2.2.2.2 b (HM.out b hb)).2) (fun W hW a ha b hb => ?_)).mono ?_
    · have hWW := B5.out.trans (hW.mono B5.out.size)
      exact soon_fg X u a b Wn _ _ _ _ _ _ _ _ W (TT.out W hWW).1 (TT.out W hWW).2.1 GD.out.1 GD.out.2.1 GD.out.2.2.1 GD.out.2.2.2.1 (GD.out.2.2.2.2.2 a (HM.out a ha)).1 (GD.out.2.2.2.2.2 b (HM.out b hb)).1 (GD.out.2.2.2.2.2 a (HM.out a ha)).2 (GD.out.2.2.2.2.2 b (HM.out b hb)).2
    rintro e w6 ⟨rfl, hb⟩
    have B6 : Hid (Below w2.heap.size w2 w6) := B5.out.trans (hb.mono B5.out.size)
    refine ⟨_, rfl, BX.out _ B6.out, ?_⟩
    clear hb L6 B5
    obtain ⟨m, hm⟩ : ∃ m, minU (keyU Wn u) f0 tl = m := ⟨_, rfl⟩
    have MM : Hid (minU (keyU Wn u) f0 tl = m) := hm
    rw [hm]
    clear hm
    unfold UnV.val
    have hfi := fun W => field_id m W
    go_simp
    refine headT_read rfl (.int .i64 m.id) (by go_simp) (fun V hV => by go_simp) ?_
    go_simp
    refine headT_call rfl 40 #[.agg #[.int .i64 X.turn, .int .i64 X.next, .int .i64 X.wide, .int .i64 X.high, .slice p1 X.gs.length q1, .slice p2 X.os.length q2, .slice p3 X.gold.length q3, .slice p4 X.us.length q4, .slice p5 X.qs.length q5], .int .i64 m.id] (by go_simp) (by go_simp) ?_
    refine (wfind_any _ X m.id w6 (H.out.below (B2.out.trans (B6.out.mono B2.out.size)))).mono ?_
    rintro e w7 ⟨r, rfl, hf, hb⟩
    have B7 : Hid (Below w2.heap.size w2 w7) := B6.out.trans (hb.mono B6.out.size)
    have RR : Hid (TgSays Wn u k X.us r) := .inr (.inr ⟨N1.out, f0, tl, HS.out, by rw [MM.out]; exact hf⟩)
    refine ⟨_, rfl, BX.out _ B7.out, ?_⟩
    clear hb hf hfi
    go_simp
    refine sched_value rfl (.int .i64 r) w7 (by go_simp) (by go_simp) trivial ?_
    go_simp
    unfold wpSched
    go_wp2
    go_ret
    exact ⟨r, rfl, RR.out, B2.out.trans (B7.out.mono B2.out.size)⟩

end Go.Proofs.YteieikgkmfglaaaGreatDoor

namespace Go.Proofs.YteieikgkmfglaaaGreatDoor
open Go.RowKit
set_option linter.unusedVariables false

theorem right_fit {ks : List KV} {X : WV} (h : WRight ks X) : ∀ u ∈ X.us, InF u ∧ 0 ≤ u.life ∧ u.life ≤ 1000000 := by
  intro u hu
  obtain ⟨i, hi⟩ := List.mem_iff_getElem?.1 hu
  obtain ⟨k, f⟩ := h.fine hi
  obtain ⟨Wn, Hn, e1, e2, G⟩ := h.good
  have h1 := f.at_
  have h2 := f.life
  have h3 := kind_nums h.kinds (List.mem_of_getElem? f.kk)
  have h4 := G.gl
  have h5 := G.pos.2
  exact ⟨⟨h1.1, by omega⟩, by omega, by omega⟩
/-- what Target tells. -/
def TarSays (ks : List KV) (X : WV) (i t F : Int) : Prop :=
  (Wd.wfault ks X ≠ 0 ∧ F = Wd.wfault ks X ∧ t = 0) ∨ (Wd.wfault ks X = 0 ∧ ¬ (0 ≤ i ∧ i < (X.us.length : Int)) ∧ F = 6 ∧ t = 0)
  ∨ (Wd.wfault ks X = 0 ∧ F = 0 ∧ ∃ (n Wn : Nat) (u : UnV) (k : KV), i = n ∧ X.us[n]? = some u ∧ X.wide = (Wn : Nat) ∧ 0 < Wn ∧ Wn ≤ 12 ∧ ks[u.kind.toNat]? = some k ∧ TgSays Wn u k X.us t)
end Go.Proofs.YteieikgkmfglaaaGreatDoor

