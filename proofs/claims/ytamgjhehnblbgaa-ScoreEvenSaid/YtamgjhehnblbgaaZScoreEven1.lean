/- An error that is told. · Ratings as mathematics. · score.within, hope, Rate. · The walk of ScoreEven, out of the contracts of what it calls. -/
import Derived.Test.YtamgjhehnblbgaaRows
import Derived.WalkKit
import Derived.WalkSpells
import Derived.WalkLawsBesides
import Derived.Deep.DeepCutAuto
namespace Go.Proofs.Ytamgjhehnblbgaa

/-- v tells the fault n. -/
def Er (v : Value) (n : Int) : Prop := (n = 0 ∧ v = .nilIface) ∨ (n ≠ 0 ∧ v = .iface 42 (.int .i64 n))
theorem Er.nil : Er .nilIface 0 := .inl ⟨rfl, rfl⟩
theorem Er.no {n : Int} (h : n ≠ 0) : Er (.iface 42 (.int .i64 n)) n := .inr ⟨h, rfl⟩
end Go.Proofs.Ytamgjhehnblbgaa

namespace Go.Proofs.Ytamgjhehnblbgaa.Sc

/-- q is n over d, rounded to 0. -/
def Tq (n d q : Int) : Prop := (0 ≤ n ∧ d * q ≤ n ∧ n < d * q + d) ∨ (n ≤ 0 ∧ n ≤ d * q ∧ d * q < n + d)
theorem tq_of (n d : Int) (hd : 0 < d) : Tq n d (n.tdiv d) := by
  by_cases h : 0 ≤ n
  · left
    rw [Int.tdiv_eq_ediv_of_nonneg h]
    exact ⟨h, Int.mul_ediv_self_le (by omega), Int.lt_mul_ediv_self_add hd⟩
  · right
    have e : n.tdiv d = -((-n) / d) := by
      rw [← Int.tdiv_eq_ediv_of_nonneg (by omega : 0 ≤ -n), Int.neg_tdiv, Int.neg_neg]
    rw [e]
    have h1 := Int.mul_ediv_self_le (x := -n) (k := d) (by omega)
    have h2 := Int.lt_mul_ediv_self_add (x := -n) (k := d) hd
    rw [Int.mul_neg]
    omega
def In (a b h : Int) : Prop := (0 ≤ a ∧ a ≤ 4000) ∧ (0 ≤ b ∧ b ≤ 4000) ∧ 0 ≤ h ∧ h ≤ 2
/-- what is hoped for. -/
def Hope (a b e : Int) : Prop := ∃ t, Tq (a - b) 2 t ∧ e = min (max (500 + t) 50) 950
/-- m goes from the second to the first. -/
def Goes (a b h m : Int) : Prop := ∃ e g, Hope a b e ∧ Tq ((500 * h - e) * 32) 1000 g ∧ m = max (max (min (min g (4000 - a)) b) (-a)) (b - 4000)
theorem hope_in {a b e : Int} (h : Hope a b e) : 50 ≤ e ∧ e ≤ 950 := by
  obtain ⟨t, -, rfl⟩ := h
  omega
theorem hope_uniq {a b e f : Int} (h : Hope a b e) (k : Hope a b f) : e = f := by
  obtain ⟨t, ht, rfl⟩ := h
  obtain ⟨s, hs, rfl⟩ := k
  unfold Tq at ht hs
  omega
theorem hope_turn {a b e f : Int} (h : Hope a b e) (k : Hope b a f) : e + f = 1000 := by
  obtain ⟨t, ht, rfl⟩ := h
  obtain ⟨s, hs, rfl⟩ := k
  unfold Tq at ht hs
  omega
theorem hope_mono {a c b e f : Int} (h : Hope a b e) (k : Hope c b f) (hc : a ≤ c) : e ≤ f := by
  obtain ⟨t, ht, rfl⟩ := h
  obtain ⟨s, hs, rfl⟩ := k
  unfold Tq at ht hs
  omega
theorem goes_uniq {a b h m n : Int} (k : Goes a b h m) (l : Goes a b h n) : m = n := by
  obtain ⟨e, g, he, hg, rfl⟩ := k
  obtain ⟨f, d, hf, hd, rfl⟩ := l
  obtain rfl := hope_uniq he hf
  unfold Tq at hg hd
  omega
theorem goes_in {a b h m : Int} (i : In a b h) (k : Goes a b h m) : (0 ≤ a + m ∧ a + m ≤ 4000) ∧ (0 ≤ b - m ∧ b - m ≤ 4000) ∧ (h = 2 → 0 ≤ m) ∧ (h = 0 → m ≤ 0) := by
  obtain ⟨e, g, he, hg, rfl⟩ := k
  have := hope_in he
  obtain ⟨⟨a1, a2⟩, ⟨b1, b2⟩, h1, h2⟩ := i
  unfold Tq at hg
  refine ⟨by omega, by omega, ?_, ?_⟩
  · rintro rfl; omega
  · rintro rfl; omega
theorem goes_turn {a b h m n : Int} (i : In a b h) (k : Goes a b h m) (l : Goes b a (2 - h) n) : m + n = 0 := by
  obtain ⟨e, g, he, hg, rfl⟩ := k
  obtain ⟨f, d, hf, hd, rfl⟩ := l
  have ht := hope_turn he hf
  obtain ⟨⟨a1, a2⟩, ⟨b1, b2⟩, h1, h2⟩ := i
  have e1 : g + d = 0 := by
    unfold Tq at hg hd
    omega
  omega
theorem goes_mono {a b c m n : Int} (ha : 0 ≤ a) (hc : a ≤ c) (h4 : c ≤ 4000) (hb : 0 ≤ b ∧ b ≤ 4000) (k : Goes a b 2 m) (l : Goes c b 2 n) : n ≤ m := by
  obtain ⟨e, g, he, hg, rfl⟩ := k
  obtain ⟨f, d, hf, hd, rfl⟩ := l
  have ht := hope_mono he hf hc
  have h1 := hope_in he
  have h2 := hope_in hf
  have e1 : d ≤ g ∧ 0 ≤ d := by
    unfold Tq at hg hd
    omega
  omega
end Go.Proofs.Ytamgjhehnblbgaa.Sc

namespace Go.Proofs.Ytamgjhehnblbgaa
open Go.RowKit
set_option linter.unusedVariables false

set_option maxHeartbeats 400000 in
theorem scw_yes (x l m : Int) (w : World) (h1 : l ≤ x) (h2 : x ≤ m) :
    Calls Try.prog 8 #[.int .i64 x, .int .i64 l, .int .i64 m] w fun e w' => e = .returned (.bool true) ∧ w' = w := by
  go_enter Try.func8, Try.ntmps8
  go_wp2
  go_ret
  exact ⟨rfl, rfl⟩
set_option maxHeartbeats 400000 in
theorem scw_no (x l m : Int) (w : World) (h : ¬ (l ≤ x ∧ x ≤ m)) :
    Calls Try.prog 8 #[.int .i64 x, .int .i64 l, .int .i64 m] w fun e w' => e = .returned (.bool false) ∧ w' = w := by
  by_cases h1 : l ≤ x
  · have h2 : ¬ x ≤ m := fun h2 => h ⟨h1, h2⟩
    clear h
    go_enter Try.func8, Try.ntmps8
    go_wp2
    go_ret
    exact ⟨rfl, rfl⟩
  · clear h
    go_enter Try.func8, Try.ntmps8
    go_wp2
    go_ret
    exact ⟨rfl, rfl⟩
theorem ret_num {a b : Int} (h : a = b) : Ending.returned (.int .i64 a) = Ending.returned (.int .i64 b) := by rw [h]
theorem hope_of {a b t e : Int} (h : (a - b).tdiv 2 = t) (he : e = min (max (500 + t) 50) 950) : Sc.Hope a b e := ⟨t, by rw [← h]; exact Sc.tq_of _ _ (by decide), he⟩
set_option maxHeartbeats 1000000 in
theorem hope_any (a b : Int) (w : World) (ha : 0 ≤ a ∧ a ≤ 4000) (hb : 0 ≤ b ∧ b ≤ 4000) :
    Calls Try.prog 9 #[.int .i64 a, .int .i64 b] w fun e w' => ∃ x, Sc.Hope a b x ∧ e = .returned (.int .i64 x) ∧ w' = w := by
  have TQ : Hid (Sc.Tq (a - b) 2 ((a - b).tdiv 2)) := Sc.tq_of _ _ (by decide)
  obtain ⟨t, ht⟩ : ∃ t, (a - b).tdiv 2 = t := ⟨_, rfl⟩
  have HT : Hid ((a - b).tdiv 2 = t) := ht
  rw [ht] at TQ
  have tb : -2000 ≤ t ∧ t ≤ 2000 := by have := TQ.out; unfold Sc.Tq at this; omega
  have w1 : IntKind.i64.wrap (a - b) = a - b := by rw [IntKind.wrap_i64]; omega
  have w2 : IntKind.i64.wrap (500 + t) = 500 + t := by rw [IntKind.wrap_i64]; omega
  obtain ⟨x, hx⟩ : ∃ x, min (max (500 + t) 50) 950 = x := ⟨_, rfl⟩
  have HX : Hid (min (max (500 + t) 50) 950 = x) := hx
  clear hx TQ
  go_enter Try.func9, Try.ntmps9
  go_wp2
  all_goals go_ret
  all_goals exact ⟨x, hope_of HT.out HX.out.symm, ret_num (by have := HX.out; omega), rfl⟩
theorem ret_two {a b x y : Int} {v : Value} (h : a = x) (k : b = y) : Ending.returned (.tuple #[.int .i64 a, .int .i64 b, v]) = Ending.returned (.tuple #[.int .i64 x, .int .i64 y, v]) := by rw [h, k]
set_option maxRecDepth 20000 in
set_option maxHeartbeats 4000000 in
theorem rate_ok (a b h : Int) (w : World) (i : Sc.In a b h) :
    Calls Try.prog 5 #[.int .i64 a, .int .i64 b, .int .i64 h] w fun e w' => ∃ m, Sc.Goes a b h m ∧ e = .returned (.tuple #[.int .i64 (a + m), .int .i64 (b - m), .nilIface]) ∧ w' = w := by
  obtain ⟨ha, hb, hh⟩ := i
  go_enter Try.func5, Try.ntmps5
  go_wp2_with fail
  refine (scw_yes a 0 4000 w ha.1 ha.2).mono ?_
  rintro e w1 ⟨rfl, rfl⟩
  go_wp2_with fail
  refine (scw_yes b 0 4000 _ hb.1 hb.2).mono ?_
  rintro e w1 ⟨rfl, rfl⟩
  go_wp2_with fail
  refine (scw_yes h 0 2 _ hh.1 hh.2).mono ?_
  rintro e w1 ⟨rfl, rfl⟩
  have v1 : IntKind.i64.wrap (500 * h) = 500 * h := by rw [IntKind.wrap_i64]; omega
  go_wp2_with fail
  refine (hope_any a b _ ha hb).mono ?_
  rintro e w1 ⟨x, hx, rfl, rfl⟩
  have HX : Hid (Sc.Hope a b x) := hx
  have xb := Sc.hope_in hx
  clear hx
  obtain ⟨n, hn⟩ : ∃ n, (500 * h - x) * 32 = n := ⟨_, rfl⟩
  obtain ⟨g, hg⟩ : ∃ g, n.tdiv 1000 = g := ⟨_, rfl⟩
  have GT : Hid (Sc.Tq ((500 * h - x) * 32) 1000 g) := by unfold Hid; rw [hn, ← hg]; exact Sc.tq_of _ _ (by decide)
  have gb : -31 ≤ g ∧ g ≤ 31 := by have := GT.out; unfold Sc.Tq at this; omega
  obtain ⟨m, hm⟩ : ∃ m, max (max (min (min g (4000 - a)) b) (-a)) (b - 4000) = m := ⟨_, rfl⟩
  have HM : Hid (max (max (min (min g (4000 - a)) b) (-a)) (b - 4000) = m) := hm
  have v2 : IntKind.i64.wrap (500 * h - x) = 500 * h - x := by rw [IntKind.wrap_i64]; omega
  have v3 : IntKind.i64.wrap n = n := by rw [IntKind.wrap_i64]; omega
  have v4 : IntKind.i64.wrap (4000 - a) = 4000 - a := by rw [IntKind.wrap_i64]; omega
  have v5 : IntKind.i64.wrap (b - 4000) = b - 4000 := by rw [IntKind.wrap_i64]; omega
  have v6 : IntKind.i64.wrap (-a) = -a := by rw [IntKind.wrap_i64]; omega
  have v7 : IntKind.i64.wrap g = g := by rw [IntKind.wrap_i64]; omega
  have GO : Hid (Sc.Goes a b h m) := ⟨x, g, HX.out, GT.out, hm.symm⟩
  clear hm xb
  go_wp2
  all_goals go_ret3
  all_goals refine ⟨m, GO.out, ?_, rfl⟩
  all_goals exact ret_two (by have := HM.out; omega) (by have := HM.out; omega)
set_option maxHeartbeats 1000000 in
theorem rate_bad (a b h : Int) (w : World) (i : ¬ Sc.In a b h) :
    Calls Try.prog 5 #[.int .i64 a, .int .i64 b, .int .i64 h] w fun e w' => e = .returned (.tuple #[.int .i64 0, .int .i64 0, .iface 42 (.int .i64 1)]) ∧ w' = w := by
  by_cases ha : 0 ≤ a ∧ a ≤ 4000
  · by_cases hb : 0 ≤ b ∧ b ≤ 4000
    · have hh : ¬ (0 ≤ h ∧ h ≤ 2) := fun hh => i ⟨ha, hb, hh⟩
      clear i
      go_enter Try.func5, Try.ntmps5
      go_wp2_with fail
      refine (scw_yes a 0 4000 w ha.1 ha.2).mono ?_
      rintro e w1 ⟨rfl, rfl⟩
      go_wp2_with fail
      refine (scw_yes b 0 4000 _ hb.1 hb.2).mono ?_
      rintro e w1 ⟨rfl, rfl⟩
      go_wp2_with fail
      refine (scw_no h 0 2 _ hh).mono ?_
      rintro e w1 ⟨rfl, rfl⟩
      go_wp2
      go_ret3
      exact ⟨rfl, rfl⟩
    · clear i
      go_enter Try.func5, Try.ntmps5
      go_wp2_with fail
      refine (scw_yes a 0 4000 w ha.1 ha.2).mono ?_
      rintro e w1 ⟨rfl, rfl⟩
      go_wp2_with fail
      refine (scw_no b 0 4000 _ hb).mono ?_
      rintro e w1 ⟨rfl, rfl⟩
      go_wp2
      go_ret3
      exact ⟨rfl, rfl⟩
  · clear i
    go_enter Try.func5, Try.ntmps5
    go_wp2_with fail
    refine (scw_no a 0 4000 w ha).mono ?_
    rintro e w1 ⟨rfl, rfl⟩
    go_wp2
    go_ret3
    exact ⟨rfl, rfl⟩
end Go.Proofs.Ytamgjhehnblbgaa

namespace Go.Proofs.Ytamgjhehnblbgaa.scoreEven
open Go.RowKit
set_option linter.unusedVariables false

theorem fact : Sc.Goes 1000 1000 2 16 := ⟨500, 16, ⟨0, .inl (by omega), by decide⟩, .inl (by omega), by decide⟩
theorem in_fact : Sc.In 1000 1000 2 := by unfold Sc.In; omega
set_option maxRecDepth 20000 in
set_option maxHeartbeats 8000000 in
theorem bad (a b h m : Int) (w : World) (i : ¬ Sc.In a b h) :
    Calls Try.prog 3 #[.int .i64 a, .int .i64 b, .int .i64 h, .int .i64 m] w fun e w' => e = .returned (.bool true) ∧ Below w.heap.size w w' := by
  have I : Hid (¬ Sc.In a b h) := i
  have D : a < 0 ∨ (0 ≤ a ∧ 4000 < a) ∨ (0 ≤ a ∧ a ≤ 4000 ∧ b < 0) ∨ (0 ≤ a ∧ a ≤ 4000 ∧ 0 ≤ b ∧ 4000 < b) ∨ (0 ≤ a ∧ a ≤ 4000 ∧ 0 ≤ b ∧ b ≤ 4000 ∧ h < 0) ∨ (0 ≤ a ∧ a ≤ 4000 ∧ 0 ≤ b ∧ b ≤ 4000 ∧ 0 ≤ h ∧ 2 < h) := by unfold Sc.In at i; omega
  clear i
  go_enter Try.func3, Try.ntmps3
  go_wp2_with fail
  refine (rate_ok 1000 1000 2 w in_fact).mono ?_
  rintro e w1 ⟨x, hx, rfl, rfl⟩
  obtain rfl := Sc.goes_uniq hx fact
  clear hx
  go_wp2_with fail
  refine (rate_bad a b h _ I.out).mono ?_
  rintro e w1 ⟨rfl, rfl⟩
  have B : Hid (Below w1.heap.size w1 w1) := Below.refl _ _
  rcases D with d | ⟨d1, d⟩ | ⟨d1, d2, d⟩ | ⟨d1, d2, d3, d⟩ | ⟨d1, d2, d3, d4, d⟩ | ⟨d1, d2, d3, d4, d5, d⟩
  all_goals (go_wp2; go_ret; exact ⟨rfl, B.out⟩)
set_option maxRecDepth 20000 in
set_option maxHeartbeats 16000000 in
theorem good (a b h m : Int) (w : World) (i : Sc.In a b h) :
    Calls Try.prog 3 #[.int .i64 a, .int .i64 b, .int .i64 h, .int .i64 m] w fun e w' => e = .returned (.bool true) ∧ Below w.heap.size w w' := by
  have I : Hid (Sc.In a b h) := i
  obtain ⟨⟨a1, a2⟩, ⟨b1, b2⟩, h1, h2⟩ := i
  have J : Hid (Sc.In b a (2 - h)) := ⟨⟨b1, b2⟩, ⟨a1, a2⟩, by omega, by omega⟩
  go_enter Try.func3, Try.ntmps3
  go_wp2_with fail
  refine (rate_ok 1000 1000 2 w in_fact).mono ?_
  rintro e w1 ⟨x, hx, rfl, rfl⟩
  obtain rfl := Sc.goes_uniq hx fact
  clear hx
  go_wp2_with fail
  refine (rate_ok a b h _ I.out).mono ?_
  rintro e w1 ⟨x, hx, rfl, rfl⟩
  have GX : Hid (Sc.Goes a b h x) := hx
  obtain ⟨⟨r1, r2⟩, ⟨r3, r4⟩, r5, r6⟩ := Sc.goes_in I.out hx
  clear hx
  obtain ⟨p, hp⟩ : ∃ p, a + x = p := ⟨_, rfl⟩
  obtain ⟨q, hq⟩ : ∃ q, b - x = q := ⟨_, rfl⟩
  have PQ : Hid (a + x = p ∧ b - x = q) := ⟨hp, hq⟩
  rw [hp] at r1 r2 ⊢
  rw [hq] at r3 r4 ⊢
  have s1 : p + q = a + b := by omega
  have wp : IntKind.i64.wrap (a + b) = a + b := by rw [IntKind.wrap_i64]; omega
  have wh : IntKind.i64.wrap (2 - h) = 2 - h := by rw [IntKind.wrap_i64]; omega
  have t2 : h = 2 → ¬ p < a := fun e => by have := r5 e; omega
  have t0 : h = 0 → ¬ a < p := fun e => by have := r6 e; omega
  clear r5 r6 hp hq
  have B : Hid (Below w1.heap.size w1 w1) := Below.refl _ _
  have T2 : Hid (h = 2 → ¬ p < a) := t2
  have T0 : Hid (h = 0 → ¬ a < p) := t0
  clear t2 t0
  have tail : ∀ (y : Int), Sc.Goes b a (2 - h) y → Hid (b + y = q ∧ a - y = p) := fun y hy => by
    have := Sc.goes_turn I.out GX.out hy
    have := PQ.out
    unfold Hid
    omega
  have TL : Hid (∀ (y : Int), Sc.Goes b a (2 - h) y → Hid (b + y = q ∧ a - y = p)) := tail
  clear tail
  have sq : IntKind.i64.wrap (q + p) = a + b := by rw [IntKind.wrap_i64]; omega
  have sp : IntKind.i64.wrap (p + q) = a + b := by rw [IntKind.wrap_i64]; omega
  have d4 : (h = 0 ∧ ¬ a < p) ∨ h = 1 ∨ (h = 2 ∧ ¬ p < a) := by
    rcases (by omega : h = 0 ∨ h = 1 ∨ h = 2) with e | e | e
    · exact .inl ⟨e, T0.out e⟩
    · exact .inr (.inl e)
    · exact .inr (.inr ⟨e, T2.out e⟩)
  rcases d4 with ⟨rfl, d4⟩ | rfl | ⟨rfl, d4⟩
  all_goals
    simp only [show (2 : Int) - 0 = 2 from rfl, show (2 : Int) - 1 = 1 from rfl, show (2 : Int) - 2 = 0 from rfl] at J TL wh
    go_wp2_with fail
    refine (rate_ok b a _ _ J.out).mono ?_
    rintro e w2 ⟨y, hy, rfl, rfl⟩
    have YY := TL.out y hy
    obtain ⟨y1, y2⟩ := YY.out
    rw [y1, y2]
    clear hy y1 y2 YY
    by_cases c1 : m < a
    · go_wp2
      go_ret
      exact ⟨rfl, B.out⟩
    · by_cases c2 : 4000 < m
      · go_wp2
        go_ret
        exact ⟨rfl, B.out⟩
      · have JM : Hid (Sc.In m b 2) := ⟨⟨by omega, by omega⟩, ⟨b1, b2⟩, by omega, by omega⟩
        have JA : Hid (Sc.In a b 2) := ⟨⟨a1, a2⟩, ⟨b1, b2⟩, by omega, by omega⟩
        go_wp2_with fail
        refine (rate_ok m b 2 _ JM.out).mono ?_
        rintro e w2 ⟨s, hs, rfl, rfl⟩
        have GS : Hid (Sc.Goes m b 2 s) := hs
        have k1 := Sc.goes_in JM.out hs
        clear hs
        go_wp2_with fail
        refine (rate_ok a b 2 _ JA.out).mono ?_
        rintro e w2 ⟨t, ht, rfl, rfl⟩
        have k2 := Sc.goes_in JA.out ht
        have k3 := Sc.goes_mono a1 (by omega) (by omega) ⟨b1, b2⟩ ht GS.out
        clear ht
        obtain ⟨ms, hms⟩ : ∃ x, m + s = x := ⟨_, rfl⟩
        obtain ⟨at', hat⟩ : ∃ x, a + t = x := ⟨_, rfl⟩
        rw [hms] at k1 ⊢
        rw [hat] at k2 ⊢
        have x1 : IntKind.i64.wrap (ms - m) = ms - m := by rw [IntKind.wrap_i64]; omega
        have x2 : IntKind.i64.wrap (at' - a) = at' - a := by rw [IntKind.wrap_i64]; omega
        have x3 : ms - m ≤ at' - a := by omega
        clear k1 k2 k3 hms hat
        go_wp2
        go_ret
        exact ⟨rfl, B.out⟩
theorem walk (a0 a1 a2 a3 : Int) (w : World) (_ : (Lit.int .i64 a0).wf = true) (_ : (Lit.int .i64 a1).wf = true) (_ : (Lit.int .i64 a2).wf = true) (_ : (Lit.int .i64 a3).wf = true) :
    Calls Try.prog 3 #[.int .i64 a0, .int .i64 a1, .int .i64 a2, .int .i64 a3] w fun e w' => e = .returned (.bool true) ∧ Below w.heap.size w w' := by
  by_cases h : Sc.In a0 a1 a2
  · exact good a0 a1 a2 a3 w h
  · exact bad a0 a1 a2 a3 w h
end Go.Proofs.Ytamgjhehnblbgaa.scoreEven

