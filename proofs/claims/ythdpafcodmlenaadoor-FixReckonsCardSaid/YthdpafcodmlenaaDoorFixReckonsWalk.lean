/- The walk of FixReckons, out of the contracts of what it calls. -/
import Derived.Test.YthdpafcodmlenaaDoorTold
import Derived.Test.YthdpafcodmlenaaDoorFixH
import Derived.Test.YthdpafcodmlenaaDoorBigO
import Derived.Test.YthdpafcodmlenaaDoorRefSmall
import Derived.OpenShut
namespace Go.Proofs.YthdpafcodmlenaaDoor.fixReckons
open Go.RowKit

/-- an error, and the number that is told of it. -/
def Tl (v : Value) (E : Int) : Prop := (v = .nilIface ∧ E = 0) ∨ v = .iface 36 (.int .i64 E)

theorem same_tl (v : Value) (E : Int) (w : World) (hg : Et w) (h : Tl v E) :
    Calls Tryd.prog 6 #[v, .int .i64 E] w fun e w' => e = .returned (.bool true) ∧ Below w.heap.size w w' := by
  rcases h with ⟨rfl, rfl⟩ | rfl
  · refine (same_nil 0 w).mono ?_
    rintro e w1 ⟨rfl, rfl⟩
    exact ⟨rfl, Below.refl _ _⟩
  · refine (same_hit E E w hg).mono ?_
    rintro e w1 ⟨rfl, hb⟩
    exact ⟨by simp, hb⟩

theorem mul_pair (a b : Int) : ∃ (p E : Int) (v : Value), Tl v E ∧
    (∀ w, Calls Tryd.prog 4 #[.int .i64 a, .int .i64 b] w fun e w' => e = .returned (.tuple #[.int .i64 p, .int .i64 E]) ∧ Below w.heap.size w w') ∧
    (∀ w, Calls Tryd.prog 5 #[.int .i64 a, .int .i64 b] w fun e w' => e = .returned (.tuple #[.int .i64 p, v]) ∧ w' = w) := by
  by_cases h : InL a ∧ InL b
  · by_cases hp : InL (a * b / 65536)
    · refine ⟨a * b / 65536, 0, .nilIface, .inl ⟨rfl, rfl⟩, fun w => (ref_mul_in a b w h.1 h.2).mono ?_, fun w => (mul_in a b w h.1 h.2).mono ?_⟩
      · rintro e w1 ⟨⟨_, rfl⟩ | ⟨hn, rfl⟩, hb⟩
        · exact ⟨rfl, hb⟩
        · exact absurd hp hn
      · rintro e w1 ⟨⟨_, rfl⟩ | ⟨hn, rfl⟩, rfl⟩
        · exact ⟨rfl, rfl⟩
        · exact absurd hp hn
    · refine ⟨0, 4, .iface 36 (.int .i64 4), .inr rfl, fun w => (ref_mul_in a b w h.1 h.2).mono ?_, fun w => (mul_in a b w h.1 h.2).mono ?_⟩
      · rintro e w1 ⟨⟨hn, rfl⟩ | ⟨_, rfl⟩, hb⟩
        · exact absurd hn hp
        · exact ⟨rfl, hb⟩
      · rintro e w1 ⟨⟨hn, rfl⟩ | ⟨_, rfl⟩, rfl⟩
        · exact absurd hn hp
        · exact ⟨rfl, rfl⟩
  · exact ⟨0, 1, .iface 36 (.int .i64 1), .inr rfl, fun w => ref_mul_out a b w h, fun w => mul_range a b w h⟩

theorem div_pair (a b : Int) : ∃ (p E : Int) (v : Value), Tl v E ∧
    (∀ w, Calls Tryd.prog 7 #[.int .i64 a, .int .i64 b] w fun e w' => e = .returned (.tuple #[.int .i64 p, .int .i64 E]) ∧ Below w.heap.size w w') ∧
    (∀ w, Calls Tryd.prog 8 #[.int .i64 a, .int .i64 b] w fun e w' => e = .returned (.tuple #[.int .i64 p, v]) ∧ w' = w) := by
  by_cases h : InL a ∧ InL b ∧ b ≠ 0
  · obtain ⟨ha, hb, b0⟩ := h
    by_cases hp : InL (Ma.flr (a * 65536) b)
    · refine ⟨Ma.flr (a * 65536) b, 0, .nilIface, .inl ⟨rfl, rfl⟩, fun w => (ref_div_in a b w ha hb b0).mono ?_, fun w => (div_in a b w ha hb b0).mono ?_⟩
      · rintro e w1 ⟨⟨_, rfl⟩ | ⟨hn, rfl⟩, hb⟩
        · exact ⟨rfl, hb⟩
        · exact absurd hp hn
      · rintro e w1 ⟨⟨_, rfl⟩ | ⟨hn, rfl⟩, rfl⟩
        · exact ⟨rfl, rfl⟩
        · exact absurd hp hn
    · refine ⟨0, 4, .iface 36 (.int .i64 4), .inr rfl, fun w => (ref_div_in a b w ha hb b0).mono ?_, fun w => (div_in a b w ha hb b0).mono ?_⟩
      · rintro e w1 ⟨⟨hn, rfl⟩ | ⟨_, rfl⟩, hb⟩
        · exact absurd hn hp
        · exact ⟨rfl, hb⟩
      · rintro e w1 ⟨⟨hn, rfl⟩ | ⟨_, rfl⟩, rfl⟩
        · exact absurd hn hp
        · exact ⟨rfl, rfl⟩
  · exact ⟨0, 1, .iface 36 (.int .i64 1), .inr rfl, fun w => ref_div_out a b w h, fun w => div_range a b w h⟩

set_option maxHeartbeats 1000000 in
theorem walk_by (a b : Int) (w : World) (hg : Et w) (p1 E1 p2 E2 : Int) (v1 v2 : Value) (t1 : Tl v1 E1) (t2 : Tl v2 E2) (hin : In6 a ∨ ¬ In6 a)
    (r1 : ∀ w, Calls Tryd.prog 4 #[.int .i64 a, .int .i64 b] w fun e w' => e = .returned (.tuple #[.int .i64 p1, .int .i64 E1]) ∧ Below w.heap.size w w')
    (f1 : ∀ w, Calls Tryd.prog 5 #[.int .i64 a, .int .i64 b] w fun e w' => e = .returned (.tuple #[.int .i64 p1, v1]) ∧ w' = w)
    (r2 : ∀ w, Calls Tryd.prog 7 #[.int .i64 a, .int .i64 b] w fun e w' => e = .returned (.tuple #[.int .i64 p2, .int .i64 E2]) ∧ Below w.heap.size w w')
    (f2 : ∀ w, Calls Tryd.prog 8 #[.int .i64 a, .int .i64 b] w fun e w' => e = .returned (.tuple #[.int .i64 p2, v2]) ∧ w' = w) :
    Calls Tryd.prog 3 #[.int .i64 a, .int .i64 b] w fun e w' => e = .returned (.bool true) ∧ Below w.heap.size w w' := by
  have R1 : Hid (∀ w, Calls Tryd.prog 4 #[.int .i64 a, .int .i64 b] w fun e w' => e = .returned (.tuple #[.int .i64 p1, .int .i64 E1]) ∧ Below w.heap.size w w') := r1
  have F1 : Hid (∀ w, Calls Tryd.prog 5 #[.int .i64 a, .int .i64 b] w fun e w' => e = .returned (.tuple #[.int .i64 p1, v1]) ∧ w' = w) := f1
  have R2 : Hid (∀ w, Calls Tryd.prog 7 #[.int .i64 a, .int .i64 b] w fun e w' => e = .returned (.tuple #[.int .i64 p2, .int .i64 E2]) ∧ Below w.heap.size w w') := r2
  have F2 : Hid (∀ w, Calls Tryd.prog 8 #[.int .i64 a, .int .i64 b] w fun e w' => e = .returned (.tuple #[.int .i64 p2, v2]) ∧ w' = w) := f2
  have Hg : Hid (Et w) := hg
  have T1 : Hid (Tl v1 E1) := t1
  have T2 : Hid (Tl v2 E2) := t2
  clear r1 f1 r2 f2 hg t1 t2
  rcases hin with hin | hin
  all_goals
    have Hin : Hid _ := hin
    first
      | (obtain ⟨i1, i2⟩ := hin)
      | (have i3 := out6 a hin)
    go_enter Tryd.func3, Tryd.ntmps3
    go_wp2_with fail
    refine Calls.mono (R1.out _) ?_
    rintro e w1 ⟨rfl, hb1⟩
    have B1 : Hid (Below w.heap.size w w1) := hb1
    clear hb1
    go_wp2_with fail
    refine Calls.mono (F1.out _) ?_
    rintro e w2 ⟨rfl, rfl⟩
    go_wp2_with fail
    refine Calls.mono (same_tl v1 E1 _ (Et.below Hg.out B1) T1) ?_
    rintro e w3 ⟨rfl, hb3⟩
    have B3 : Hid (Below w.heap.size w w3) := B1.out.trans (hb3.mono B1.out.size)
    clear hb3
    go_wp2_with fail
    refine Calls.mono (R2.out _) ?_
    rintro e w4 ⟨rfl, hb4⟩
    have B4 : Hid (Below w.heap.size w w4) := B3.out.trans (hb4.mono B3.out.size)
    clear hb4
    go_wp2_with fail
    refine Calls.mono (F2.out _) ?_
    rintro e w5 ⟨rfl, rfl⟩
    go_wp2_with fail
    refine Calls.mono (same_tl v2 E2 _ (Et.below Hg.out B4) T2) ?_
    rintro e w6 ⟨rfl, hb6⟩
    have B6 : Hid (Below w.heap.size w w6) := B4.out.trans (hb6.mono B4.out.size)
    clear hb6
    go_wp2_with fail
    first
      | refine Calls.mono (small_yes a _ Hin.out) ?_
      | refine Calls.mono (small_no a _ Hin.out) ?_
    rintro e w7 ⟨rfl, rfl⟩
    go_wp2_with fail
    first
      | refine Calls.mono (of_ok a _ i1 i2) ?_
      | refine Calls.mono (of_bad a _ i3) ?_
    rintro e w8 ⟨rfl, rfl⟩
    go_wp2_with fail
    refine Calls.mono (same_tl _ _ _ (Et.below Hg.out B6) (by first | exact .inl ⟨rfl, rfl⟩ | exact .inr rfl)) ?_
    rintro e w9 ⟨rfl, hb9⟩
    have B9 : Hid (Below w.heap.size w w9) := B6.out.trans (hb9.mono B6.out.size)
    clear hb9
    go_wp2
    go_ret
    exact ⟨rfl, B9⟩

theorem walk (a0 a1 : Int) (_ : (Lit.int .i64 a0).wf = true) (_ : (Lit.int .i64 a1).wf = true) (w : World) (hg : Et w) :
    Calls Tryd.prog 3 #[.int .i64 a0, .int .i64 a1] w fun e w' => e = .returned (.bool true) ∧ Below w.heap.size w w' := by
  obtain ⟨p1, E1, v1, t1, r1, f1⟩ := mul_pair a0 a1
  obtain ⟨p2, E2, v2, t2, r2, f2⟩ := div_pair a0 a1
  exact walk_by a0 a1 w hg p1 E1 p2 E2 v1 v2 t1 t2 (Classical.em _) r1 f1 r2 f2
end Go.Proofs.YthdpafcodmlenaaDoor.fixReckons
