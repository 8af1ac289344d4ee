/- For every two integers of type int: FixTurns returns true, and its arguments read as they did (either way a product is the same; what is multiplied and divided again is off by less than one part for each). No condition. -/
import Derived.Test.YtmggciglokjcbaaRows
import Derived.Test.YtmggciglokjcbaaFixH
import Derived.Deep.QuietTactic
import Derived.BigQuiet
import Derived.WalkKit
import Derived.ProofKit
import Derived.OpenShut
namespace Go.Proofs.Ytmggciglokjcbaa.fixTurns
open Go.ChangeShapes Go.WideShapes Go.ChangeAt Go.RowKit
set_option linter.unusedVariables false

theorem own : ownKnob Try.prog.godebug = none := by kernel_rfl


theorem div_two (w : World) :
    Calls Try.prog 10 #[.int .i64 196608, .int .i64 131072] w fun e w' => e = .returned (.tuple #[.int .i64 98304, .nilIface]) ∧ w' = w := by
  refine (div_in 196608 131072 w (by unfold InL; omega) (by unfold InL; omega) (by omega)).mono ?_
  have e0 : Ma.flr (196608 * 65536) 131072 = 98304 := by unfold Ma.flr; rw [if_pos (by omega)]; omega
  rw [e0]
  rintro e w1 ⟨⟨h, rfl⟩ | ⟨h, rfl⟩, rfl⟩
  · exact ⟨rfl, rfl⟩
  · exact absurd (by unfold InL; omega) h

theorem grown_drewN (w : World) (n : Nat) : Grown w (w.drewN n) := by
  induction n with
  | zero => exact Grown.refl _
  | succ n ih => exact Grown.drew ih

theorem mul_fine (a b : Int) (w : World) (ha : InL a) (hb : InL b) (hp : InL (a * b / 65536)) :
    Calls Try.prog 7 #[.int .i64 a, .int .i64 b] w fun e w' => e = .returned (.tuple #[.int .i64 (a * b / 65536), .nilIface]) ∧ w' = w := by
  refine (mul_in a b w ha hb).mono ?_
  rintro e w1 ⟨⟨h, rfl⟩ | ⟨h, rfl⟩, rfl⟩
  · exact ⟨rfl, rfl⟩
  · exact absurd hp h

theorem mul_full (a b : Int) (w : World) (ha : InL a) (hb : InL b) (hp : ¬ InL (a * b / 65536)) :
    Calls Try.prog 7 #[.int .i64 a, .int .i64 b] w fun e w' => e = .returned (.tuple #[.int .i64 0, .iface 31 (.int .i64 4)]) ∧ w' = w := by
  refine (mul_in a b w ha hb).mono ?_
  rintro e w1 ⟨⟨h, rfl⟩ | ⟨h, rfl⟩, rfl⟩
  · exact absurd h hp
  · exact ⟨rfl, rfl⟩

/-- what is multiplied and divided again. -/
theorem near (a b : Int) (ha : InL a) (hb : 65536 ≤ b) : Ma.flr (a * b / 65536 * 65536) b ≤ a ∧ a - Ma.flr (a * b / 65536 * 65536) b ≤ 1 ∧ InL (Ma.flr (a * b / 65536 * 65536) b) := by
  have hf : Ma.flr (a * b / 65536 * 65536) b = a * b / 65536 * 65536 / b := by unfold Ma.flr; rw [if_pos (by omega)]
  rw [hf]
  have x1 : a * b / 65536 * 65536 ≤ a * b := by omega
  have x2 : a * b < a * b / 65536 * 65536 + 65536 := by omega
  generalize hX : a * b / 65536 * 65536 = X at *
  have z1 : X / b ≤ a := by
    have : X / b < a + 1 := (Int.ediv_lt_iff_lt_mul (by omega)).2 (by rw [Int.add_mul]; omega)
    omega
  have z2 : a - 1 ≤ X / b := (Int.le_ediv_iff_mul_le (by omega)).2 (by rw [Int.sub_mul]; omega)
  obtain ⟨a1, a2⟩ := ha
  refine ⟨z1, by omega, ?_, by omega⟩
  by_cases h : a = -1099511627776
  · subst h
    exact (Int.le_ediv_iff_mul_le (by omega)).2 (by omega)
  · omega

set_option maxHeartbeats 400000 in
theorem w_range (a0 a1 : Int) (w : World) (h : ¬ (InL a0 ∧ InL a1)) :
    Calls Try.prog 6 #[.int .i64 a0, .int .i64 a1] w fun e w' => e = .returned (.bool true) ∧ Grown w w' := by
  have HX : Hid (¬ (InL a0 ∧ InL a1)) := h
  clear h
  go_enter Try.func6, Try.ntmps6
  go_wp2_with fail
  refine (div_two _).mono ?_
  rintro e w1 ⟨rfl, rfl⟩
  go_wp2_with fail
  refine (mul_range _ _ _ HX).mono ?_
  rintro e w1 ⟨rfl, rfl⟩
  go_wp2_with fail
  refine (mul_range _ _ _ (fun h => HX ⟨h.2, h.1⟩)).mono ?_
  rintro e w1 ⟨rfl, rfl⟩
  go_wp2
  go_quiet (fail)
  go_wp2
  go_ret
  exact ⟨rfl, grown_drewN _ _⟩

set_option maxHeartbeats 400000 in
theorem w_full (a0 a1 : Int) (w : World) (ha : InL a0) (hb : InL a1) (h : ¬ InL (a0 * a1 / 65536)) :
    Calls Try.prog 6 #[.int .i64 a0, .int .i64 a1] w fun e w' => e = .returned (.bool true) ∧ Grown w w' := by
  have HX : Hid (¬ InL (a0 * a1 / 65536)) := h
  have HY : Hid (¬ InL (a1 * a0 / 65536)) := by rw [Int.mul_comm a1 a0]; exact h
  have HA : Hid (InL a0) := ha
  have HB : Hid (InL a1) := hb
  clear h ha hb
  go_enter Try.func6, Try.ntmps6
  go_wp2_with fail
  refine (div_two _).mono ?_
  rintro e w1 ⟨rfl, rfl⟩
  go_wp2_with fail
  refine (mul_full _ _ _ HA HB HX).mono ?_
  rintro e w1 ⟨rfl, rfl⟩
  go_wp2_with fail
  refine (mul_full _ _ _ HB HA HY).mono ?_
  rintro e w1 ⟨rfl, rfl⟩
  go_wp2
  go_quiet (fail)
  go_wp2
  go_ret
  exact ⟨rfl, grown_drewN _ _⟩

set_option maxHeartbeats 400000 in
theorem w_far (a0 a1 : Int) (w : World) (ha : InL a0) (hb : InL a1) (h : InL (a0 * a1 / 65536)) (hc : a1 < 65536 ∨ 1000000000 < a1) :
    Calls Try.prog 6 #[.int .i64 a0, .int .i64 a1] w fun e w' => e = .returned (.bool true) ∧ Grown w w' := by
  have HX : Hid (InL (a0 * a1 / 65536)) := h
  have HY : Hid (InL (a1 * a0 / 65536)) := by rw [Int.mul_comm a1 a0]; exact h
  have HA : Hid (InL a0) := ha
  have HB : Hid (InL a1) := hb
  clear h ha hb
  rcases hc with hc | hc
  · go_enter Try.func6, Try.ntmps6
    go_wp2_with fail
    refine (div_two _).mono ?_
    rintro e w1 ⟨rfl, rfl⟩
    go_wp2_with fail
    refine (mul_fine _ _ _ HA HB HX).mono ?_
    rintro e w1 ⟨rfl, rfl⟩
    go_wp2_with fail
    refine (mul_fine _ _ _ HB HA HY).mono ?_
    rintro e w1 ⟨rfl, rfl⟩
    rw [Int.mul_comm a1 a0]
    generalize a0 * a1 / 65536 = x
    go_wp2
    go_quiet (fail)
    go_wp2
    go_ret
    exact ⟨rfl, grown_drewN _ _⟩
  · have hd : ¬ a1 < 65536 := by omega
    go_enter Try.func6, Try.ntmps6
    go_wp2_with fail
    refine (div_two _).mono ?_
    rintro e w1 ⟨rfl, rfl⟩
    go_wp2_with fail
    refine (mul_fine _ _ _ HA HB HX).mono ?_
    rintro e w1 ⟨rfl, rfl⟩
    go_wp2_with fail
    refine (mul_fine _ _ _ HB HA HY).mono ?_
    rintro e w1 ⟨rfl, rfl⟩
    rw [Int.mul_comm a1 a0]
    generalize a0 * a1 / 65536 = x
    go_wp2
    go_quiet (fail)
    go_wp2
    go_ret
    exact ⟨rfl, grown_drewN _ _⟩

set_option maxHeartbeats 400000 in
theorem w_near (a0 a1 : Int) (w : World) (ha : InL a0) (hb : InL a1) (h : InL (a0 * a1 / 65536)) (h1 : ¬ a1 < 65536) (h2 : ¬ 1000000000 < a1) :
    Calls Try.prog 6 #[.int .i64 a0, .int .i64 a1] w fun e w' => e = .returned (.bool true) ∧ Grown w w' := by
  obtain ⟨q1, q2, q3⟩ := near a0 a1 ha (by omega)
  obtain ⟨a1', a2'⟩ := ha
  have HX : Hid (InL (a0 * a1 / 65536)) := h
  have HY : Hid (InL (a1 * a0 / 65536)) := by rw [Int.mul_comm a1 a0]; exact h
  have HA : Hid (InL a0) := ⟨a1', a2'⟩
  have HB : Hid (InL a1) := hb
  have HQ : Hid (InL (Ma.flr (a0 * a1 / 65536 * 65536) a1)) := q3
  have Hq1 : Hid (Ma.flr (a0 * a1 / 65536 * 65536) a1 ≤ a0) := q1
  have Hq2 : Hid (a0 - Ma.flr (a0 * a1 / 65536 * 65536) a1 ≤ 1) := q2
  clear h hb q1 q2 q3
  go_enter Try.func6, Try.ntmps6
  go_wp2_with fail
  refine (div_two _).mono ?_
  rintro e w1 ⟨rfl, rfl⟩
  go_wp2_with fail
  refine (mul_fine _ _ _ HA HB HX).mono ?_
  rintro e w1 ⟨rfl, rfl⟩
  go_wp2_with fail
  refine (mul_fine _ _ _ HB HA HY).mono ?_
  rintro e w1 ⟨rfl, rfl⟩
  rw [Int.mul_comm a1 a0]
  generalize a0 * a1 / 65536 = x at *
  go_wp2
  go_quiet (fail)
  go_wp2_with fail
  refine (div_in _ _ _ HX HB (by omega)).mono ?_
  rintro e w1 ⟨⟨hz, rfl⟩ | ⟨hz, rfl⟩, rfl⟩
  · obtain ⟨z1, z2⟩ := hz
    have y1 := Hq1.out
    have y2 := Hq2.out
    generalize Ma.flr (x * 65536) a1 = z at *
    clear Hq1 Hq2 HQ
    go_wp2
    go_ret
    exact ⟨rfl, grown_drewN _ _⟩
  · exact absurd HQ hz

theorem walk (a0 : Int) (a1 : Int) (w0 : (Lit.int .i64 a0).wf = true) (w1 : (Lit.int .i64 a1).wf = true) (w : World) :
    Calls Try.prog 6 #[.int .i64 a0, .int .i64 a1] w fun e w' => e = .returned (.bool true) ∧ Grown w w' := by
  by_cases h : InL a0 ∧ InL a1
  · obtain ⟨ha, hb⟩ := h
    by_cases hp : InL (a0 * a1 / 65536)
    · by_cases h1 : a1 < 65536
      · exact w_far a0 a1 w ha hb hp (.inl h1)
      · by_cases h2 : 1000000000 < a1
        · exact w_far a0 a1 w ha hb hp (.inr h2)
        · exact w_near a0 a1 w ha hb hp h1 h2
    · exact w_full a0 a1 w ha hb hp
  · exact w_range a0 a1 w h

set_option maxRecDepth 100000 in
theorem lifted (os : Os) (started : os.Started) (H : Type) (enc : TypeId × Value → H) :
    ReturnsInHanded {} Try.checked os 6 .any (Rows.fixTurnsSpec.pre6 enc Try.prog Try.f6 Rows.fixTurnsRow.domain false) (Rows.fixTurnsSpec.post enc Try.prog Try.f6 false true false false) := by
  refine returnsInHanded_of_change (C := Try.checked) own started (by kernel_rfl) Try.func6
    (ChangeSpec.witness6 (enc := enc) (C := Try.checked) false ⟨#[], #[.int .i64 0, .int .i64 0], []⟩ 8 (by kernel_rfl) (by kernel_rfl) (by kernel_rfl) (by kernel_rfl)) ?_
  intro W base args ds gs before hval0 hW hcnd _
  have hval : ∀ (j : Nat) t v, Try.f6.params[j]? = some t → args[j]? = some v → Value.okWide Try.prog W .any base t v := hval0
  have hW' := hW
  obtain ⟨p, q, hA0, hV, rfl, hfz, hnd⟩ := hW
  have hA : DataW.TrodAll enc Try.prog W 0 (fun _ => true) true Try.f6.params.toList args.toList ds p := hA0
  rw [Try.params6] at hA hval
  obtain ⟨v0, vs0, d0, ds0, p0, q0, hargs, rfl, rfl, h0, r0⟩ := trodAll_cons hA
  obtain ⟨v1, vs1, d1, ds1, p1, q1, rfl, rfl, rfl, h1, r1⟩ := trodAll_cons r0
  obtain ⟨rfl, rfl, rfl⟩ := trodAll_nil r1
  obtain rfl : args = #[v0, v1] := by cases args; simp_all
  obtain ⟨rfl, rfl⟩ := trodVars_none hV
  obtain ⟨a0, rfl, rfl, rfl, w0⟩ := open_int Try.underlying3 (hval 0 3 v0 rfl rfl) h0
  obtain ⟨a1, rfl, rfl, rfl, w1⟩ := open_int Try.underlying3 (hval 1 3 v1 rfl rfl) h1
  clear hA0 hval0
  simp only [List.append_nil] at hW'
  refine (walk a0 a1 w0 w1 W).mono fun e W' ⟨he, hg⟩ => ?_
  subst he
  exact ⟨_, rfl, post_of_same (pa := []) (pv := []) hW' (fun _ _ _ => (trodAll_cons_mk (shut_bool Try.underlying4 _) trodAll_mk0)) (fun sp _ => (trodAll_cons_mk (shut_int Try.underlying3 w0) (trodAll_cons_mk (shut_int Try.underlying3 w1) trodAll_mk0))) (fun _ _ => rfl) rfl
    (hg.frame _) hg.2.1 (ok_one (by kernel_rfl) rfl (okWide_bool_mk Try.underlying4 _))⟩

theorem over : Rows.fixTurnsRow.holds Try.pinned (OpenSpec.ofChange Rows.fixTurnsSpec) :=
  OpenClaim.holds_of_wide 6 Try.f6 rfl rfl rfl rfl rfl rfl rfl ⟨rfl, rfl, rfl, rfl, rfl⟩ rfl rfl rfl rfl rfl (by kernel_rfl) Try.func6 (by kernel_rfl)
    (of_decide_eq_true (by kernel_rfl)) (by unfold Func.isWrapper; first | (rw [if_pos (by decide +kernel)]; kernel_rfl) | (rw [if_neg (by decide +kernel)]; exact ⟨rfl, rfl⟩))
    (fun os started H enc _ => lifted os started H enc)

theorem proved : Rows.FixTurnsSaid :=
  over
end Go.Proofs.Ytmggciglokjcbaa.fixTurns

namespace Go.Proofs.Ytmggciglokjcbaa
theorem fixTurns_holds : Rows.FixTurnsSaid := fixTurns.proved
#print axioms fixTurns_holds
end Go.Proofs.Ytmggciglokjcbaa
