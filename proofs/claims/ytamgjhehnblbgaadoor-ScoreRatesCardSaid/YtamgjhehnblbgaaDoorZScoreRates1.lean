/- An error that is told. · Ratings as mathematics. · score.within, hope, Rate. · The reference's Rate. · What plain.Told and marchsame.Error answer of nil, and of an Errno: errors.As is walked at the target *api.Errno. · An error that is told is the reference's. · The walk of ScoreRates, out of the contracts of what it calls. -/
import Derived.Test.YtamgjhehnblbgaaDoorRows
import Derived.WalkKit
import Derived.WalkSpells
import Derived.WalkLawsBesides
import Derived.Deep.DeepCutAuto
import Derived.LaidEql
import Derived.Stop.Asserts
import Derived.RowKitTokens
namespace Go.Proofs.YtamgjhehnblbgaaDoor

/-- v tells the fault n. -/
def Er (v : Value) (n : Int) : Prop := (n = 0 ∧ v = .nilIface) ∨ (n ≠ 0 ∧ v = .iface 50 (.int .i64 n))
theorem Er.nil : Er .nilIface 0 := .inl ⟨rfl, rfl⟩
theorem Er.no {n : Int} (h : n ≠ 0) : Er (.iface 50 (.int .i64 n)) n := .inr ⟨h, rfl⟩
end Go.Proofs.YtamgjhehnblbgaaDoor

namespace Go.Proofs.YtamgjhehnblbgaaDoor.Sc

/-- q is n over d, rounded to 0. -/
def Tq (n d q : Int) : Prop := (0 ≤ n ∧ d * q ≤ n ∧ n < d * q + d) ∨ (n ≤ 0 ∧ n ≤ d * q ∧ d * q < n + d)
theorem tq_of (n d : Int) (hd : 0 < d) : Tq n d (n.tdiv d) := by
  by_cases h : 0 ≤ n
  · left
    rw [Int.tdiv_eq_ediv_of_nonneg h]
    exact ⟨h, Int.mul_ediv_self_le (by omega), Int.lt_mul_ediv_self_add hd⟩
  · right
    have e : n.tdiv d = -((-n) / d) := by
      rw [← Int.tdiv_eq_ediv_of_nonneg (by omega : 0 ≤ -n), Int.neg_tdiv, Int.neg_neg]
    rw [e]
    have h1 := Int.mul_ediv_self_le (x := -n) (k := d) (by omega)
    have h2 := Int.lt_mul_ediv_self_add (x := -n) (k := d) hd
    rw [Int.mul_neg]
    omega
def In (a b h : Int) : Prop := (0 ≤ a ∧ a ≤ 4000) ∧ (0 ≤ b ∧ b ≤ 4000) ∧ 0 ≤ h ∧ h ≤ 2
/-- what is hoped for. -/
def Hope (a b e : Int) : Prop := ∃ t, Tq (a - b) 2 t ∧ e = min (max (500 + t) 50) 950
/-- m goes from the second to the first. -/
def Goes (a b h m : Int) : Prop := ∃ e g, Hope a b e ∧ Tq ((500 * h - e) * 32) 1000 g ∧ m = max (max (min (min g (4000 - a)) b) (-a)) (b - 4000)
theorem hope_in {a b e : Int} (h : Hope a b e) : 50 ≤ e ∧ e ≤ 950 := by
  obtain ⟨t, -, rfl⟩ := h
  omega
theorem hope_uniq {a b e f : Int} (h : Hope a b e) (k : Hope a b f) : e = f := by
  obtain ⟨t, ht, rfl⟩ := h
  obtain ⟨s, hs, rfl⟩ := k
  unfold Tq at ht hs
  omega
theorem hope_turn {a b e f : Int} (h : Hope a b e) (k : Hope b a f) : e + f = 1000 := by
  obtain ⟨t, ht, rfl⟩ := h
  obtain ⟨s, hs, rfl⟩ := k
  unfold Tq at ht hs
  omega
theorem hope_mono {a c b e f : Int} (h : Hope a b e) (k : Hope c b f) (hc : a ≤ c) : e ≤ f := by
  obtain ⟨t, ht, rfl⟩ := h
  obtain ⟨s, hs, rfl⟩ := k
  unfold Tq at ht hs
  omega
theorem goes_uniq {a b h m n : Int} (k : Goes a b h m) (l : Goes a b h n) : m = n := by
  obtain ⟨e, g, he, hg, rfl⟩ := k
  obtain ⟨f, d, hf, hd, rfl⟩ := l
  obtain rfl := hope_uniq he hf
  unfold Tq at hg hd
  omega
theorem goes_in {a b h m : Int} (i : In a b h) (k : Goes a b h m) : (0 ≤ a + m ∧ a + m ≤ 4000) ∧ (0 ≤ b - m ∧ b - m ≤ 4000) ∧ (h = 2 → 0 ≤ m) ∧ (h = 0 → m ≤ 0) := by
  obtain ⟨e, g, he, hg, rfl⟩ := k
  have := hope_in he
  obtain ⟨⟨a1, a2⟩, ⟨b1, b2⟩, h1, h2⟩ := i
  unfold Tq at hg
  refine ⟨by omega, by omega, ?_, ?_⟩
  · rintro rfl; omega
  · rintro rfl; omega
theorem goes_turn {a b h m n : Int} (i : In a b h) (k : Goes a b h m) (l : Goes b a (2 - h) n) : m + n = 0 := by
  obtain ⟨e, g, he, hg, rfl⟩ := k
  obtain ⟨f, d, hf, hd, rfl⟩ := l
  have ht := hope_turn he hf
  obtain ⟨⟨a1, a2⟩, ⟨b1, b2⟩, h1, h2⟩ := i
  have e1 : g + d = 0 := by
    unfold Tq at hg hd
    omega
  omega
theorem goes_mono {a b c m n : Int} (ha : 0 ≤ a) (hc : a ≤ c) (h4 : c ≤ 4000) (hb : 0 ≤ b ∧ b ≤ 4000) (k : Goes a b 2 m) (l : Goes c b 2 n) : n ≤ m := by
  obtain ⟨e, g, he, hg, rfl⟩ := k
  obtain ⟨f, d, hf, hd, rfl⟩ := l
  have ht := hope_mono he hf hc
  have h1 := hope_in he
  have h2 := hope_in hf
  have e1 : d ≤ g ∧ 0 ≤ d := by
    unfold Tq at hg hd
    omega
  omega
end Go.Proofs.YtamgjhehnblbgaaDoor.Sc

namespace Go.Proofs.YtamgjhehnblbgaaDoor
open Go.RowKit
set_option linter.unusedVariables false

set_option maxHeartbeats 400000 in
theorem scw_yes (x l m : Int) (w : World) (h1 : l ≤ x) (h2 : x ≤ m) :
    Calls Tryd.prog 14 #[.int .i64 x, .int .i64 l, .int .i64 m] w fun e w' => e = .returned (.bool true) ∧ w' = w := by
  go_enter Tryd.func14, Tryd.ntmps14
  go_wp2
  go_ret
  exact ⟨rfl, rfl⟩
set_option maxHeartbeats 400000 in
theorem scw_no (x l m : Int) (w : World) (h : ¬ (l ≤ x ∧ x ≤ m)) :
    Calls Tryd.prog 14 #[.int .i64 x, .int .i64 l, .int .i64 m] w fun e w' => e = .returned (.bool false) ∧ w' = w := by
  by_cases h1 : l ≤ x
  · have h2 : ¬ x ≤ m := fun h2 => h ⟨h1, h2⟩
    clear h
    go_enter Tryd.func14, Tryd.ntmps14
    go_wp2
    go_ret
    exact ⟨rfl, rfl⟩
  · clear h
    go_enter Tryd.func14, Tryd.ntmps14
    go_wp2
    go_ret
    exact ⟨rfl, rfl⟩
theorem ret_num {a b : Int} (h : a = b) : Ending.returned (.int .i64 a) = Ending.returned (.int .i64 b) := by rw [h]
theorem hope_of {a b t e : Int} (h : (a - b).tdiv 2 = t) (he : e = min (max (500 + t) 50) 950) : Sc.Hope a b e := ⟨t, by rw [← h]; exact Sc.tq_of _ _ (by decide), he⟩
set_option maxHeartbeats 1000000 in
theorem hope_any (a b : Int) (w : World) (ha : 0 ≤ a ∧ a ≤ 4000) (hb : 0 ≤ b ∧ b ≤ 4000) :
    Calls Tryd.prog 15 #[.int .i64 a, .int .i64 b] w fun e w' => ∃ x, Sc.Hope a b x ∧ e = .returned (.int .i64 x) ∧ w' = w := by
  have TQ : Hid (Sc.Tq (a - b) 2 ((a - b).tdiv 2)) := Sc.tq_of _ _ (by decide)
  obtain ⟨t, ht⟩ : ∃ t, (a - b).tdiv 2 = t := ⟨_, rfl⟩
  have HT : Hid ((a - b).tdiv 2 = t) := ht
  rw [ht] at TQ
  have tb : -2000 ≤ t ∧ t ≤ 2000 := by have := TQ.out; unfold Sc.Tq at this; omega
  have w1 : IntKind.i64.wrap (a - b) = a - b := by rw [IntKind.wrap_i64]; omega
  have w2 : IntKind.i64.wrap (500 + t) = 500 + t := by rw [IntKind.wrap_i64]; omega
  obtain ⟨x, hx⟩ : ∃ x, min (max (500 + t) 50) 950 = x := ⟨_, rfl⟩
  have HX : Hid (min (max (500 + t) 50) 950 = x) := hx
  clear hx TQ
  go_enter Tryd.func15, Tryd.ntmps15
  go_wp2
  all_goals go_ret
  all_goals exact ⟨x, hope_of HT.out HX.out.symm, ret_num (by have := HX.out; omega), rfl⟩
theorem ret_two {a b x y : Int} {v : Value} (h : a = x) (k : b = y) : Ending.returned (.tuple #[.int .i64 a, .int .i64 b, v]) = Ending.returned (.tuple #[.int .i64 x, .int .i64 y, v]) := by rw [h, k]
set_option maxRecDepth 20000 in
set_option maxHeartbeats 4000000 in
theorem rate_ok (a b h : Int) (w : World) (i : Sc.In a b h) :
    Calls Tryd.prog 6 #[.int .i64 a, .int .i64 b, .int .i64 h] w fun e w' => ∃ m, Sc.Goes a b h m ∧ e = .returned (.tuple #[.int .i64 (a + m), .int .i64 (b - m), .nilIface]) ∧ w' = w := by
  obtain ⟨ha, hb, hh⟩ := i
  go_enter Tryd.func6, Tryd.ntmps6
  go_wp2_with fail
  refine (scw_yes a 0 4000 w ha.1 ha.2).mono ?_
  rintro e w1 ⟨rfl, rfl⟩
  go_wp2_with fail
  refine (scw_yes b 0 4000 _ hb.1 hb.2).mono ?_
  rintro e w1 ⟨rfl, rfl⟩
  go_wp2_with fail
  refine (scw_yes h 0 2 _ hh.1 hh.2).mono ?_
  rintro e w1 ⟨rfl, rfl⟩
  have v1 : IntKind.i64.wrap (500 * h) = 500 * h := by rw [IntKind.wrap_i64]; omega
  go_wp2_with fail
  refine (hope_any a b _ ha hb).mono ?_
  rintro e w1 ⟨x, hx, rfl, rfl⟩
  have HX : Hid (Sc.Hope a b x) := hx
  have xb := Sc.hope_in hx
  clear hx
  obtain ⟨n, hn⟩ : ∃ n, (500 * h - x) * 32 = n := ⟨_, rfl⟩
  obtain ⟨g, hg⟩ : ∃ g, n.tdiv 1000 = g := ⟨_, rfl⟩
  have GT : Hid (Sc.Tq ((500 * h - x) * 32) 1000 g) := by unfold Hid; rw [hn, ← hg]; exact Sc.tq_of _ _ (by decide)
  have gb : -31 ≤ g ∧ g ≤ 31 := by have := GT.out; unfold Sc.Tq at this; omega
  obtain ⟨m, hm⟩ : ∃ m, max (max (min (min g (4000 - a)) b) (-a)) (b - 4000) = m := ⟨_, rfl⟩
  have HM : Hid (max (max (min (min g (4000 - a)) b) (-a)) (b - 4000) = m) := hm
  have v2 : IntKind.i64.wrap (500 * h - x) = 500 * h - x := by rw [IntKind.wrap_i64]; omega
  have v3 : IntKind.i64.wrap n = n := by rw [IntKind.wrap_i64]; omega
  have v4 : IntKind.i64.wrap (4000 - a) = 4000 - a := by rw [IntKind.wrap_i64]; omega
  have v5 : IntKind.i64.wrap (b - 4000) = b - 4000 := by rw [IntKind.wrap_i64]; omega
  have v6 : IntKind.i64.wrap (-a) = -a := by rw [IntKind.wrap_i64]; omega
  have v7 : IntKind.i64.wrap g = g := by rw [IntKind.wrap_i64]; omega
  have GO : Hid (Sc.Goes a b h m) := ⟨x, g, HX.out, GT.out, hm.symm⟩
  clear hm xb
  go_wp2
  all_goals go_ret3
  all_goals refine ⟨m, GO.out, ?_, rfl⟩
  all_goals exact ret_two (by have := HM.out; omega) (by have := HM.out; omega)
set_option maxHeartbeats 1000000 in
theorem rate_bad (a b h : Int) (w : World) (i : ¬ Sc.In a b h) :
    Calls Tryd.prog 6 #[.int .i64 a, .int .i64 b, .int .i64 h] w fun e w' => e = .returned (.tuple #[.int .i64 0, .int .i64 0, .iface 50 (.int .i64 1)]) ∧ w' = w := by
  by_cases ha : 0 ≤ a ∧ a ≤ 4000
  · by_cases hb : 0 ≤ b ∧ b ≤ 4000
    · have hh : ¬ (0 ≤ h ∧ h ≤ 2) := fun hh => i ⟨ha, hb, hh⟩
      clear i
      go_enter Tryd.func6, Tryd.ntmps6
      go_wp2_with fail
      refine (scw_yes a 0 4000 w ha.1 ha.2).mono ?_
      rintro e w1 ⟨rfl, rfl⟩
      go_wp2_with fail
      refine (scw_yes b 0 4000 _ hb.1 hb.2).mono ?_
      rintro e w1 ⟨rfl, rfl⟩
      go_wp2_with fail
      refine (scw_no h 0 2 _ hh).mono ?_
      rintro e w1 ⟨rfl, rfl⟩
      go_wp2
      go_ret3
      exact ⟨rfl, rfl⟩
    · clear i
      go_enter Tryd.func6, Tryd.ntmps6
      go_wp2_with fail
      refine (scw_yes a 0 4000 w ha.1 ha.2).mono ?_
      rintro e w1 ⟨rfl, rfl⟩
      go_wp2_with fail
      refine (scw_no b 0 4000 _ hb).mono ?_
      rintro e w1 ⟨rfl, rfl⟩
      go_wp2
      go_ret3
      exact ⟨rfl, rfl⟩
  · clear i
    go_enter Tryd.func6, Tryd.ntmps6
    go_wp2_with fail
    refine (scw_no a 0 4000 w ha).mono ?_
    rintro e w1 ⟨rfl, rfl⟩
    go_wp2
    go_ret3
    exact ⟨rfl, rfl⟩
end Go.Proofs.YtamgjhehnblbgaaDoor

namespace Go.Proofs.YtamgjhehnblbgaaDoor
open Go.RowKit
set_option linter.unusedVariables false

set_option maxRecDepth 20000 in
set_option maxHeartbeats 4000000 in
theorem rrate_bad (a b h : Int) (w : World) (i : ¬ Sc.In a b h) :
    Calls Tryd.prog 5 #[.int .i64 a, .int .i64 b, .int .i64 h] w fun e w' => e = .returned (.tuple #[.int .i64 0, .int .i64 0, .int .i64 1]) ∧ w' = w := by
  have D : a < 0 ∨ (0 ≤ a ∧ 4000 < a) ∨ (0 ≤ a ∧ a ≤ 4000 ∧ b < 0) ∨ (0 ≤ a ∧ a ≤ 4000 ∧ 0 ≤ b ∧ 4000 < b) ∨ (0 ≤ a ∧ a ≤ 4000 ∧ 0 ≤ b ∧ b ≤ 4000 ∧ h < 0) ∨ (0 ≤ a ∧ a ≤ 4000 ∧ 0 ≤ b ∧ b ≤ 4000 ∧ 0 ≤ h ∧ 2 < h) := by unfold Sc.In at i; omega
  clear i
  go_enter Tryd.func5, Tryd.ntmps5
  rcases D with d | ⟨d1, d⟩ | ⟨d1, d2, d⟩ | ⟨d1, d2, d3, d⟩ | ⟨d1, d2, d3, d4, d⟩ | ⟨d1, d2, d3, d4, d5, d⟩
  all_goals (go_wp2; go_ret3; exact ⟨rfl, rfl⟩)
set_option maxRecDepth 20000 in
set_option maxHeartbeats 8000000 in
theorem rrate_ok (a b h : Int) (w : World) (i : Sc.In a b h) :
    Calls Tryd.prog 5 #[.int .i64 a, .int .i64 b, .int .i64 h] w fun e w' => ∃ m, Sc.Goes a b h m ∧ e = .returned (.tuple #[.int .i64 (a + m), .int .i64 (b - m), .int .i64 0]) ∧ w' = w := by
  obtain ⟨⟨a1, a2⟩, ⟨b1, b2⟩, h1, h2⟩ := i
  obtain ⟨t, ht⟩ : ∃ t, (a - b).tdiv 2 = t := ⟨_, rfl⟩
  have TQ : Hid (Sc.Tq (a - b) 2 t) := by unfold Hid; rw [← ht]; exact Sc.tq_of _ _ (by decide)
  have tb : -2000 ≤ t ∧ t ≤ 2000 := by have := TQ.out; unfold Sc.Tq at this; omega
  have w1 : IntKind.i64.wrap (a - b) = a - b := by rw [IntKind.wrap_i64]; omega
  have w2 : IntKind.i64.wrap (500 + t) = 500 + t := by rw [IntKind.wrap_i64]; omega
  have w3 : IntKind.i64.wrap (500 * h) = 500 * h := by rw [IntKind.wrap_i64]; omega
  go_enter Tryd.func5, Tryd.ntmps5
  have D : ∃ x, x = min (max (500 + t) 50) 950 ∧ (500 + t < 50 ∧ x = 50 ∨ ¬ 500 + t < 50 ∧ 950 < 500 + t ∧ x = 950 ∨ ¬ 500 + t < 50 ∧ ¬ 950 < 500 + t ∧ x = 500 + t) := ⟨_, rfl, by omega⟩
  obtain ⟨x, hx, D⟩ := D
  have HX : Hid (Sc.Hope a b x) := ⟨t, TQ.out, hx⟩
  have xb := Sc.hope_in HX.out
  clear hx
  obtain ⟨n, hn⟩ : ∃ n, (500 * h - x) * 32 = n := ⟨_, rfl⟩
  obtain ⟨g, hg⟩ : ∃ g, n.tdiv 1000 = g := ⟨_, rfl⟩
  have GT : Hid (Sc.Tq ((500 * h - x) * 32) 1000 g) := by unfold Hid; rw [hn, ← hg]; exact Sc.tq_of _ _ (by decide)
  have gb : -31 ≤ g ∧ g ≤ 31 := by have := GT.out; unfold Sc.Tq at this; omega
  have GO : Hid (Sc.Goes a b h (max (max (min (min g (4000 - a)) b) (-a)) (b - 4000))) := ⟨x, g, HX.out, GT.out, rfl⟩
  have HG : Hid (n.tdiv 1000 = g ∧ (500 * h - x) * 32 = n) := ⟨hg, hn⟩
  have v2 : IntKind.i64.wrap (500 * h - x) = 500 * h - x := by rw [IntKind.wrap_i64]; omega
  have v3 : IntKind.i64.wrap n = n := by rw [IntKind.wrap_i64]; omega
  have v4 : IntKind.i64.wrap g = g := by rw [IntKind.wrap_i64]; omega
  have DT : t < -450 ∨ (-450 ≤ t ∧ 450 < t) ∨ (-450 ≤ t ∧ t ≤ 450) := by omega
  rcases D with ⟨d1, rfl⟩ | ⟨d1, d2, rfl⟩ | ⟨d1, d2, rfl⟩
  all_goals
    clear GT HX DT
    go_upto_region 9 with fail
    clear w1 w2 w3 v2 v3 ht hn hg
    go_loop [10] (fun d => ∃ y : Int, d = .int .i64 y ∧ ((0 < g ∧ 0 ≤ y ∧ y ≤ g ∧ min g (min (4000 - a) b) ≤ y) ∨ (g ≤ 0 ∧ y = g))) (fun d => (intOf d).toNat)
    case atStart => exact ⟨g, by first | rfl | (rw [HG.out.1]), by omega⟩
    case round =>
      obtain ⟨y, rfl, hy⟩ := hrel
      have wa : IntKind.i64.wrap (a + y) = a + y := by rw [IntKind.wrap_i64]; omega
      have wb : IntKind.i64.wrap (b - y) = b - y := by rw [IntKind.wrap_i64]; omega
      have wy : IntKind.i64.wrap (y - 1) = y - 1 := by rw [IntKind.wrap_i64]; omega
      by_cases y0 : 0 < y
      · by_cases c1 : 4000 < a + y
        · go_wp2
          exact ⟨⟨y - 1, rfl, by omega⟩, by simp [intOf]; omega⟩
        · by_cases c2 : b - y < 0
          · go_wp2
            exact ⟨⟨y - 1, rfl, by omega⟩, by simp [intOf]; omega⟩
          · have F : Hid (max (max (min (min g (4000 - a)) b) (-a)) (b - 4000) = y) := by unfold Hid; omega
            have n0 : ¬ y < 0 := by omega
            clear wy hy
            go_wp2_with fail
            go_loop [10] (fun d => d = .int .i64 y) (fun d => 0)
            case atStart => rfl
            case round =>
              obtain rfl := hrel
              go_wp2
              go_ret3
              exact ⟨_, GO.out, by rw [F.out]; rfl, rfl⟩
      · by_cases y1 : y = 0
        · subst y1
          have F : Hid (max (max (min (min g (4000 - a)) b) (-a)) (b - 4000) = 0) := by unfold Hid; omega
          clear wy hy
          have va : IntKind.i64.wrap a = a := by rw [IntKind.wrap_i64]; omega
          have vb : IntKind.i64.wrap b = b := by rw [IntKind.wrap_i64]; omega
          go_wp2_with fail
          go_loop [10] (fun d => d = .int .i64 0) (fun d => 0)
          case atStart => rfl
          case round =>
            obtain rfl := hrel
            go_wp2
            go_ret3
            exact ⟨_, GO.out, by rw [F.out]; simp, rfl⟩
        · obtain ⟨g0, rfl⟩ : g < 0 ∧ y = g := by omega
          have g0' : y < 0 := g0
          clear hy wy
          go_wp2_with fail
          go_loop [10] (fun d => ∃ e : Int, d = .int .i64 e ∧ y ≤ e ∧ e ≤ 0 ∧ e ≤ max y (max (-a) (b - 4000))) (fun d => (-(intOf d)).toNat)
          case atStart => exact ⟨y, rfl, by omega, by omega, by omega⟩
          case round =>
            obtain ⟨e, rfl, e1, e2, e3⟩ := hrel
            have xa : IntKind.i64.wrap (a + e) = a + e := by rw [IntKind.wrap_i64]; omega
            have xb' : IntKind.i64.wrap (b - e) = b - e := by rw [IntKind.wrap_i64]; omega
            have xe : IntKind.i64.wrap (e + 1) = e + 1 := by rw [IntKind.wrap_i64]; omega
            by_cases l0 : e < 0
            · by_cases c1 : a + e < 0
              · go_wp2
                exact ⟨⟨e + 1, rfl, by omega, by omega, by omega⟩, by simp [intOf]; omega⟩
              · by_cases c2 : 4000 < b - e
                · go_wp2
                  exact ⟨⟨e + 1, rfl, by omega, by omega, by omega⟩, by simp [intOf]; omega⟩
                · have F : Hid (max (max (min (min y (4000 - a)) b) (-a)) (b - 4000) = e) := by unfold Hid; omega
                  clear xe e1 e2 e3
                  go_wp2
                  go_ret3
                  exact ⟨_, GO.out, by rw [F.out]; rfl, rfl⟩
            · have F : Hid (max (max (min (min y (4000 - a)) b) (-a)) (b - 4000) = e) := by unfold Hid; omega
              clear xe e1 e2 e3
              go_wp2
              go_ret3
              exact ⟨_, GO.out, by rw [F.out]; rfl, rfl⟩
end Go.Proofs.YtamgjhehnblbgaaDoor

namespace Go.Proofs.YtamgjhehnblbgaaDoor
open Go.RowKit Go.Extern.Stop Go.Stop Go.Extern

/-- the cell of errors.errorType. -/
def Et (w : World) : Prop := w.cell? ⟨0, 0, none⟩ = some (.iface 97 (.agg #[.pointer (some ⟨1, 25, none⟩)]))

theorem Et.lt {w : World} (h : Et w) : 0 < w.heap.size := by
  rcases Nat.lt_or_ge 0 w.heap.size with h1 | h1
  · exact h1
  · unfold Et at h
    simp [World.cell?, Array.getElem?_eq_none h1] at h
theorem Et.below {w w' : World} (h : Et w) (hb : Below w.heap.size w w') : Et w' := by
  unfold Et
  rw [hb.cell (p := ⟨0, 0, none⟩) h.lt]
  exact h
theorem Et.alloc {w : World} (h : Et w) (o : Obj) : Et (w.alloc o) := h.below ((Below.refl _ _).alloc (Nat.le_refl _) _)
theorem Et.drew {w : World} (h : Et w) : Et w.drew := h.below (Below.refl _ _).drew

theorem tk_valueOfP (t : Addr) (w : World) : (ReflectliteValue.unpack (.iface 66 (.pointer (some t)))).run Tryd.prog w
    = .ok (.agg #[.pointer (some ⟨1, 66, none⟩), .pointer (some ⟨w.heap.size, 0, none⟩), .int .u64 150]) (w.alloc (.cells #[.pointer (some t)] 66)) := by kernel_rfl
theorem tk_typeP (a : Addr) (w : World) : (ReflectliteValue.methodAny (ReflectliteValue.valueError "reflectlite.Value.Type" 0) (fun t _ _ _ => ReflectliteType.toType t) #[.agg #[.pointer (some ⟨1, 66, none⟩), .pointer (some a), .int .u64 150]]).run Tryd.prog w
    = .ok (.iface 97 (.agg #[.pointer (some ⟨1, 66, none⟩)])) w := by kernel_rfl
theorem tk_methodKind (h : Value) (w : World) : (Go.method 256 97 (.agg #[h]) "Kind").run Tryd.prog w = .ok (87, h) w := by kernel_rfl
theorem tk_kindP (w : World) : ((ReflectliteType.abiMethod fun t => (fun a : Nat => Value.int IntKind.u8 (a : Int)) <$> Rtype.kind t) #[.pointer (some ⟨1, 66, none⟩)]).run Tryd.prog w = .ok (.int .u8 22) w := by kernel_rfl
theorem tk_kindE (w : World) : ((ReflectliteType.abiMethod fun t => (fun a : Nat => Value.int IntKind.u8 (a : Int)) <$> Rtype.kind t) #[.pointer (some ⟨1, 50, none⟩)]).run Tryd.prog w = .ok (.int .u8 2) w := by kernel_rfl
theorem tk_open (z : Sem Value) (f : TypeId → Addr → Nat → Nat → Sem Value) (v : Value) :
    ReflectliteValue.method z f #[v] = (ReflectliteValue.parts v >>= fun o => o.elim z fun q => f q.1 q.2.1 q.2.2 (q.2.2 % 32)) := by
  refine (show ReflectliteValue.method z f #[v] = (ReflectliteValue.parts v >>= _) from rfl).trans ?_
  refine congrArg (ReflectliteValue.parts v >>= ·) (funext fun o => ?_)
  cases o <;> rfl
theorem tk_partsP (a : Addr) (w : World) : (ReflectliteValue.parts (.agg #[.pointer (some ⟨1, 66, none⟩), .pointer (some a), .int .u64 150])).run Tryd.prog w = .ok (some (66, a, 150)) w := by kernel_rfl
theorem tk_isNilP (a p : Addr) (W : World) (ha : W.cell? a = some (.pointer (some p))) :
    (ReflectliteValue.method (ReflectliteValue.valueError "reflectlite.Value.IsNil" 0) ReflectliteValue.isNil #[.agg #[.pointer (some ⟨1, 66, none⟩), .pointer (some a), .int .u64 150]]).run Tryd.prog W = .ok (.bool false) W := by
  rw [tk_open]
  simp only [Sem.run_bind, tk_partsP, Result.andThen]
  simp [ReflectliteValue.isNil, loadVar, isAgg, underlying, Tryd.underlying66, ha, Result.andThen]
theorem tk_methodElem (h : Value) (w : World) : (Go.method 256 97 (.agg #[h]) "Elem").run Tryd.prog w = .ok (97, .agg #[h]) w := by kernel_rfl
theorem tk_methodImplements (h : Value) (w : World) : (Go.method 256 97 (.agg #[h]) "Implements").run Tryd.prog w = .ok (98, .agg #[h]) w := by kernel_rfl
theorem tk_methodAssignableTo (h : Value) (w : World) : (Go.method 256 97 (.agg #[h]) "AssignableTo").run Tryd.prog w = .ok (95, .agg #[h]) w := by kernel_rfl
theorem tk_elemP (w : World) : (ReflectliteType.method ReflectliteType.elem #[.agg #[.pointer (some ⟨1, 66, none⟩)]]).run Tryd.prog w = .ok (.iface 97 (.agg #[.pointer (some ⟨1, 50, none⟩)])) w := by kernel_rfl
theorem tk_implementsE (w : World) : (ReflectliteType.relation "Implements" ReflectliteType.implements_ #[.agg #[.pointer (some ⟨1, 50, none⟩)], .iface 97 (.agg #[.pointer (some ⟨1, 25, none⟩)])]).run Tryd.prog w = .ok (.bool true) w := by kernel_rfl
theorem tk_typeOfE (v : Value) (w : World) : (ReflectliteType.typeOf #[.iface 50 v]).run Tryd.prog w = .ok (.iface 97 (.agg #[.pointer (some ⟨1, 50, none⟩)])) w := by kernel_rfl
theorem tk_assignableE (w : World) : (ReflectliteType.relation "AssignableTo" ReflectliteType.assignableTo #[.agg #[.pointer (some ⟨1, 50, none⟩)], .iface 97 (.agg #[.pointer (some ⟨1, 50, none⟩)])]).run Tryd.prog w = .ok (.bool true) w := by kernel_rfl
theorem tk_valueOfE (n : Int) (w : World) : (ReflectliteValue.unpack (.iface 50 (.int .i64 n))).run Tryd.prog w
    = .ok (.agg #[.pointer (some ⟨1, 50, none⟩), .pointer (some ⟨w.heap.size, 0, none⟩), .int .u64 130]) (w.alloc (.cells #[.int .i64 n] 50)) := by kernel_rfl
theorem tk_elemOfP (w : World) : (Rtype.elem? 66).run Tryd.prog w = .ok (some 50) w := by kernel_rfl
theorem tk_mkE (p : Addr) (w : World) : (ReflectliteValue.mk 50 p ReflectliteValue.flagAddr).run Tryd.prog w = .ok (.agg #[.pointer (some ⟨1, 50, none⟩), .pointer (some p), .int .u64 386]) w := by kernel_rfl
theorem tk_elemV (a p : Addr) (W : World) (ha : W.cell? a = some (.pointer (some p))) :
    (ReflectliteValue.method (ReflectliteValue.valueError "reflectlite.Value.Elem" 0) ReflectliteValue.elem #[.agg #[.pointer (some ⟨1, 66, none⟩), .pointer (some a), .int .u64 150]]).run Tryd.prog W
      = .ok (.agg #[.pointer (some ⟨1, 50, none⟩), .pointer (some p), .int .u64 386]) W := by
  rw [tk_open]
  simp only [Sem.run_bind, tk_partsP, Result.andThen]
  simp [ReflectliteValue.elem, loadVar, isAgg, underlying, Tryd.underlying66, ha, Result.andThen, tk_elemOfP, tk_mkE]
theorem tk_partsEa (a : Addr) (w : World) : (ReflectliteValue.parts (.agg #[.pointer (some ⟨1, 50, none⟩), .pointer (some a), .int .u64 386])).run Tryd.prog w = .ok (some (50, a, 386)) w := by kernel_rfl
theorem tk_partsE (a : Addr) (w : World) : (ReflectliteValue.parts (.agg #[.pointer (some ⟨1, 50, none⟩), .pointer (some a), .int .u64 130])).run Tryd.prog w = .ok (some (50, a, 130)) w := by kernel_rfl
theorem tk_directE (w : World) : (Rtype.directlyAssignable 50 50).run Tryd.prog w = .ok true w := by kernel_rfl
theorem tk_setE (ta b : Addr) (n : Int) (old : Value) (W : World) (hb : W.cell? b = some (.int .i64 n)) (ht : W.cell? ta = some old) (hf : W.frozen? ta = false) :
    (ReflectliteValue.set #[.agg #[.pointer (some ⟨1, 50, none⟩), .pointer (some ta), .int .u64 386], .agg #[.pointer (some ⟨1, 50, none⟩), .pointer (some b), .int .u64 130]]).run Tryd.prog W
      = .ok (.tuple #[]) (W.setCell ta (.int .i64 n)) := by
  rw [show ∀ X Y : Value, ReflectliteValue.set #[X, Y] = (ReflectliteValue.parts X >>= fun p => ReflectliteValue.parts Y >>= fun q => _) from fun _ _ => rfl]
  simp only [Sem.run_bind, tk_partsEa, tk_partsE, Result.andThen]
  simp [ReflectliteValue.flagAddr, loadVar, isAgg, underlying, Tryd.underlying50, hb, Result.andThen, tk_directE, storeVar, Value.cells, storeCells, Addr.add]
  rw [run_store Tryd.prog W ta _ _ (by rfl)]
  simp [ht, hf]

set_option maxHeartbeats 4000000 in
theorem as_hit (n : Int) (t : Addr) (old : Value) (w : World) (hg : w.cell? ⟨0, 0, none⟩ = some (.iface 97 (.agg #[.pointer (some ⟨1, 25, none⟩)]))) (ht0 : w.cell? t = some old) (hf0 : w.frozen? t = false) :
    Calls Tryd.prog 26 #[.iface 50 (.int .i64 n), .iface 66 (.pointer (some t))] w fun ev w' => ev = .returned (.bool true) ∧ w' = ((((w.alloc (.cells #[.pointer (some t)] 66)).alloc (.cells #[.pointer (some ⟨1, 66, none⟩), .pointer (some ⟨w.heap.size, 0, none⟩), .int .u64 150] 78)).alloc (.cells #[.pointer (some ⟨1, 66, none⟩), .pointer (some ⟨w.heap.size, 0, none⟩), .int .u64 150] 78)).alloc (.cells #[.int .i64 n] 50)).setCell t (.int .i64 n) := by
  have h6 := @run_callFunc_extern Tryd.prog 36 _ (fun args => ReflectliteValue.unpack (args.getD 0 (.tuple #[]))) Tryd.func36 (by kernel_rfl) (by kernel_rfl) (by kernel_rfl) (by kernel_rfl)
  have h7 := @run_callFunc_extern Tryd.prog 37 _ (ReflectliteValue.methodAny (ReflectliteValue.valueError "reflectlite.Value.Type" 0) (fun t _ _ _ => ReflectliteType.toType t)) Tryd.func37 (by kernel_rfl) (by kernel_rfl) (by kernel_rfl) (by kernel_rfl)
  have h8 := @run_callFunc_extern Tryd.prog 38 _ (ReflectliteValue.method (ReflectliteValue.valueError "reflectlite.Value.IsNil" 0) ReflectliteValue.isNil) Tryd.func38 (by kernel_rfl) (by kernel_rfl) (by kernel_rfl) (by kernel_rfl)
  have h27 := @run_callFunc_extern Tryd.prog 87 _ (ReflectliteType.abiMethod fun t => do pure (.int .u8 (← Rtype.kind t))) Tryd.func87 (by kernel_rfl) (by kernel_rfl) (by kernel_rfl) (by kernel_rfl)
  have h37 := @run_callFunc_extern Tryd.prog 97 _ (ReflectliteType.method ReflectliteType.elem) Tryd.func97 (by kernel_rfl) (by kernel_rfl) (by kernel_rfl) (by kernel_rfl)
  have h38 := @run_callFunc_extern Tryd.prog 98 _ (ReflectliteType.relation "Implements" ReflectliteType.implements_) Tryd.func98 (by kernel_rfl) (by kernel_rfl) (by kernel_rfl) (by kernel_rfl)
  have h10 := @run_callFunc_extern Tryd.prog 51 _ ReflectliteType.typeOf Tryd.func51 (by kernel_rfl) (by kernel_rfl) (by kernel_rfl) (by kernel_rfl)
  have h35 := @run_callFunc_extern Tryd.prog 95 _ (ReflectliteType.relation "AssignableTo" ReflectliteType.assignableTo) Tryd.func95 (by kernel_rfl) (by kernel_rfl) (by kernel_rfl) (by kernel_rfl)
  have h11 := @run_callFunc_extern Tryd.prog 52 _ (ReflectliteValue.method (ReflectliteValue.valueError "reflectlite.Value.Elem" 0) ReflectliteValue.elem) Tryd.func52 (by kernel_rfl) (by kernel_rfl) (by kernel_rfl) (by kernel_rfl)
  have h12 := @run_callFunc_extern Tryd.prog 53 _ ReflectliteValue.set Tryd.func53 (by kernel_rfl) (by kernel_rfl) (by kernel_rfl) (by kernel_rfl)
  have tO := tk_typeOfE
  have mA := tk_methodAssignableTo
  have a25 := tk_assignableE
  have v25 := tk_valueOfE
  have f6 := tk_valueOfP
  have f7 := tk_typeP
  have mK := tk_methodKind
  have mE := tk_methodElem
  have mI := tk_methodImplements
  have k27 := tk_kindP
  have k25 := tk_kindE
  have e27 := tk_elemP
  have i25 := tk_implementsE
  have n8 := tk_isNilP ⟨w.heap.size, 0, none⟩ t ((w.alloc (.cells #[.pointer (some t)] 66)).alloc (.cells #[.pointer (some ⟨1, 66, none⟩), .pointer (some ⟨w.heap.size, 0, none⟩), .int .u64 150] 78)) (by simp)
  have hlt : 0 < w.heap.size := Et.lt hg
  have hg2 : ((w.alloc (.cells #[.pointer (some t)] 66)).alloc (.cells #[.pointer (some ⟨1, 66, none⟩), .pointer (some ⟨w.heap.size, 0, none⟩), .int .u64 150] 78)).cell? ⟨0, 0, none⟩ = some (.iface 97 (.agg #[.pointer (some ⟨1, 25, none⟩)])) := by
    rw [World.cell?_alloc_lt _ _ ⟨0, 0, none⟩ (by simp; try omega), World.cell?_alloc_lt _ _ ⟨0, 0, none⟩ hlt]; exact hg
  have htl : t.block < w.heap.size := by
    rcases Nat.lt_or_ge t.block w.heap.size with h | h
    · exact h
    · simp [World.cell?, Array.getElem?_eq_none h] at ht0
  have el := tk_elemV ⟨w.heap.size, 0, none⟩ t (((w.alloc (.cells #[.pointer (some t)] 66)).alloc (.cells #[.pointer (some ⟨1, 66, none⟩), .pointer (some ⟨w.heap.size, 0, none⟩), .int .u64 150] 78)).alloc (.cells #[.pointer (some ⟨1, 66, none⟩), .pointer (some ⟨w.heap.size, 0, none⟩), .int .u64 150] 78)) (by rw [World.cell?_alloc_lt _ _ ⟨w.heap.size, 0, none⟩ (by simp; omega)]; simp)
  have st := tk_setE t ⟨w.heap.size + 1 + 1 + 1, 0, none⟩ n old ((((w.alloc (.cells #[.pointer (some t)] 66)).alloc (.cells #[.pointer (some ⟨1, 66, none⟩), .pointer (some ⟨w.heap.size, 0, none⟩), .int .u64 150] 78)).alloc (.cells #[.pointer (some ⟨1, 66, none⟩), .pointer (some ⟨w.heap.size, 0, none⟩), .int .u64 150] 78)).alloc (.cells #[.int .i64 n] 50))
    (by rw [World.cell?_alloc_at _ _ _ _ (by simp)]; rfl)
    (by rw [World.cell?_alloc_lt _ _ t (by simp; omega), World.cell?_alloc_lt _ _ t (by simp; omega), World.cell?_alloc_lt _ _ t (by simp; omega), World.cell?_alloc_lt _ _ t htl]; exact ht0)
    (by rw [World.frozen?_alloc_old _ _ t (by simp; omega), World.frozen?_alloc_old _ _ t (by simp; omega), World.frozen?_alloc_old _ _ t (by simp; omega), World.frozen?_alloc_old _ _ t (Nat.ne_of_lt htl)]; exact hf0)
  go_enter Tryd.func26, Tryd.ntmps26
  go_wp2
  refine wp_loop_rounds 1 ?_
  rw [rounds_succ]
  go_wp2
  go_ret
  exact ⟨rfl, rfl⟩

set_option maxHeartbeats 400000 in
theorem told_nil (w : World) : Calls Tryd.prog 16 #[.nilIface] w fun e w' => e = .returned (.int .i64 0) ∧ w' = w := by
  go_enter Tryd.func16, Tryd.ntmps16
  go_wp2
  go_ret
  exact ⟨rfl, rfl⟩

set_option maxHeartbeats 1000000 in
theorem told_hit (n : Int) (w : World) (hg : Et w) :
    Calls Tryd.prog 16 #[.iface 50 (.int .i64 n)] w fun e w' => e = .returned (.int .i64 n) ∧ Below w.heap.size w w' := by
  have hA : (w.alloc (.cells #[.int .i64 0] 50)).cell? ⟨0, 0, none⟩ = some (.iface 97 (.agg #[.pointer (some ⟨1, 25, none⟩)])) := hg.alloc _
  have hB : (w.alloc (.cells #[.int .i64 0] 50)).cell? ⟨w.heap.size, 0, none⟩ = some (.int .i64 0) := by simp
  have hC : (w.alloc (.cells #[.int .i64 0] 50)).frozen? ⟨w.heap.size, 0, none⟩ = false := by simp
  go_enter Tryd.func16, Tryd.ntmps16
  go_wp2_with (go_at_call 26; refine (as_hit _ _ (.int .i64 0) _ hA hB hC).mono ?_; rintro e w' ⟨rfl, rfl⟩)
  go_ret
  refine ⟨rfl, ?_⟩
  repeat (first | exact Below.refl _ _ | refine Below.alloc ?_ (by simp; try omega) _)

set_option maxHeartbeats 400000 in
theorem same_nil (x : Int) (w : World) : Calls Tryd.prog 7 #[.nilIface, .int .i64 x] w fun e w' => e = .returned (.bool (0 == x)) ∧ w' = w := by
  go_enter Tryd.func7, Tryd.ntmps7
  go_wp2_with (go_at_call 16; refine (told_nil _).mono ?_; rintro e w' ⟨rfl, rfl⟩)
  go_ret
  exact ⟨rfl, rfl⟩

set_option maxHeartbeats 400000 in
theorem same_hit (n x : Int) (w : World) (hg : Et w) : Calls Tryd.prog 7 #[.iface 50 (.int .i64 n), .int .i64 x] w fun e w' => e = .returned (.bool (n == x)) ∧ Below w.heap.size w w' := by
  have Hg : Hid (Et w) := hg
  clear hg
  go_enter Tryd.func7, Tryd.ntmps7
  go_wp2_with fail
  refine (told_hit _ _ Hg).mono ?_
  rintro e w1 ⟨rfl, hb⟩
  have Hb : Hid (Below w.heap.size w w1) := hb
  clear hb
  go_wp2
  go_ret
  exact ⟨rfl, Hb⟩
end Go.Proofs.YtamgjhehnblbgaaDoor

namespace Go.Proofs.YtamgjhehnblbgaaDoor
open Go.RowKit

theorem er_same (u : Value) (n : Int) (w : World) (h : Er u n) (hg : Et w) :
    Calls Tryd.prog 7 #[u, .int .i64 n] w fun e w' => e = .returned (.bool true) ∧ Below w.heap.size w w' := by
  rcases h with ⟨rfl, rfl⟩ | ⟨h0, rfl⟩
  · exact (same_nil 0 w).mono fun e w' ⟨h1, h2⟩ => ⟨h1, by rw [h2]; exact Below.refl _ _⟩
  · exact (same_hit n n w hg).mono fun e w' ⟨h1, h2⟩ => ⟨by rw [h1, beq_self_eq_true], h2⟩
end Go.Proofs.YtamgjhehnblbgaaDoor

namespace Go.Proofs.YtamgjhehnblbgaaDoor.scoreRates
open Go.RowKit
set_option linter.unusedVariables false

set_option maxRecDepth 20000 in
set_option maxHeartbeats 4000000 in
theorem walk (a b h : Int) (w : World) (_ : (Lit.int .i64 a).wf = true) (_ : (Lit.int .i64 b).wf = true) (_ : (Lit.int .i64 h).wf = true) (hg : Et w) :
    Calls Tryd.prog 3 #[.int .i64 a, .int .i64 b, .int .i64 h] w fun e w' => e = .returned (.bool true) ∧ Below w.heap.size w w' := by
  have ET : Hid (Et w) := hg
  clear hg
  by_cases hi : Sc.In a b h
  · have HI : Hid (Sc.In a b h) := hi
    clear hi
    go_enter Tryd.func3, Tryd.ntmps3
    go_wp2_with fail
    refine (rrate_ok a b h _ HI.out).mono ?_
    rintro e w1 ⟨m, hm, rfl, rfl⟩
    have HM : Hid (Sc.Goes a b h m) := hm
    clear hm
    go_wp2_with fail
    refine (rate_ok a b h _ HI.out).mono ?_
    rintro e w1 ⟨n, hn, rfl, rfl⟩
    obtain rfl := Sc.goes_uniq hn HM.out
    clear hn HM
    generalize a + n = x
    generalize b - n = y
    go_wp2_with fail
    refine (er_same _ 0 _ Er.nil ET.out).mono ?_
    rintro e w2 ⟨rfl, hb⟩
    have HB : Hid (Below w1.heap.size w1 w2) := hb
    clear hb
    go_wp2
    go_ret
    exact ⟨rfl, HB.out⟩
  · have HI : Hid (¬ Sc.In a b h) := hi
    clear hi
    go_enter Tryd.func3, Tryd.ntmps3
    go_wp2_with fail
    refine (rrate_bad a b h _ HI.out).mono ?_
    rintro e w1 ⟨rfl, rfl⟩
    go_wp2_with fail
    refine (rate_bad a b h _ HI.out).mono ?_
    rintro e w1 ⟨rfl, rfl⟩
    go_wp2_with fail
    refine (er_same _ 1 _ (Er.no (by decide)) ET.out).mono ?_
    rintro e w2 ⟨rfl, hb⟩
    have HB : Hid (Below w1.heap.size w1 w2) := hb
    clear hb
    go_wp2
    go_ret
    exact ⟨rfl, HB.out⟩
end Go.Proofs.YtamgjhehnblbgaaDoor.scoreRates

