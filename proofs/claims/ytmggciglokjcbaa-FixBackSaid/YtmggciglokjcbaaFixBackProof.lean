/- For every two integers of type int: FixBack returns true, and its arguments read as they did (a whole number with a part is that number; times one, and over one, any is itself; a whole is not above, and less than one below). No condition. -/
import Derived.Test.YtmggciglokjcbaaRows
import Derived.Test.YtmggciglokjcbaaFixH
import Derived.Deep.QuietTactic
import Derived.BigQuiet
import Derived.WalkKit
import Derived.ProofKit
import Derived.OpenShut
namespace Go.Proofs.Ytmggciglokjcbaa.fixBack
open Go.ChangeShapes Go.WideShapes Go.ChangeAt Go.RowKit
set_option linter.unusedVariables false

theorem own : ownKnob Try.prog.godebug = none := by kernel_rfl


theorem whole_back (n : Int) : n * 65536 / 65536 = n := by omega

theorem mul_two (w : World) :
    Calls Try.prog 7 #[.int .i64 98304, .int .i64 131072] w fun e w' => e = .returned (.tuple #[.int .i64 196608, .nilIface]) ∧ w' = w := by
  refine (mul_in 98304 131072 w (by unfold InL; omega) (by unfold InL; omega)).mono ?_
  rintro e w1 ⟨⟨h, rfl⟩ | ⟨h, rfl⟩, rfl⟩
  · have e0 : (98304 * 131072 : Int) / 65536 = 196608 := by omega
    rw [e0]; exact ⟨rfl, rfl⟩
  · exact absurd (by unfold InL; omega) h

theorem mul_one (a : Int) (w : World) (ha : InL a) :
    Calls Try.prog 7 #[.int .i64 a, .int .i64 65536] w fun e w' => e = .returned (.tuple #[.int .i64 a, .nilIface]) ∧ w' = w := by
  refine (mul_in a 65536 w ha (by unfold InL; omega)).mono ?_
  rw [whole_back]
  rintro e w1 ⟨⟨h, rfl⟩ | ⟨h, rfl⟩, rfl⟩
  · exact ⟨rfl, rfl⟩
  · exact absurd ha h

theorem div_one (a : Int) (w : World) (ha : InL a) :
    Calls Try.prog 10 #[.int .i64 a, .int .i64 65536] w fun e w' => e = .returned (.tuple #[.int .i64 a, .nilIface]) ∧ w' = w := by
  refine (div_in a 65536 w ha (by unfold InL; omega) (by omega)).mono ?_
  have e0 : Ma.flr (a * 65536) 65536 = a := by unfold Ma.flr; rw [if_pos (by omega)]; exact whole_back a
  rw [e0]
  rintro e w1 ⟨⟨h, rfl⟩ | ⟨h, rfl⟩, rfl⟩
  · exact ⟨rfl, rfl⟩
  · exact absurd ha h

theorem grown_drewN (w : World) (n : Nat) : Grown w (w.drewN n) := by
  induction n with
  | zero => exact Grown.refl _
  | succ n ih => exact Grown.drew ih

set_option maxHeartbeats 400000 in
theorem in_out (a0 a1 : Int) (w : World) (n1 : -1000000 ≤ a0) (n2 : a0 ≤ 1000000) (hx : ¬ InL a1) :
    Calls Try.prog 3 #[.int .i64 a0, .int .i64 a1] w fun e w' => e = .returned (.bool true) ∧ Grown w w' := by
  have HX : Hid (¬ InL a1) := hx
  have ho := outL a1 hx
  clear hx
  rcases ho with ho | ho
  · have h1 : ¬ -1000000000 ≤ a1 := by omega
    go_enter Try.func3, Try.ntmps3
    go_wp2_with fail
    refine (mul_two _).mono ?_
    rintro e w1 ⟨rfl, rfl⟩
    go_wp2_with fail
    refine (of_ok _ _ n1 n2).mono ?_
    rintro e w1 ⟨rfl, rfl⟩
    go_wp2_with fail
    refine (whole_any _ _).mono ?_
    rintro e w1 ⟨rfl, rfl⟩
    rw [whole_back a0]
    go_wp2_with fail
    refine (whole_any _ _).mono ?_
    rintro e w1 ⟨rfl, rfl⟩
    go_wp2_with fail
    refine (mul_range _ _ _ (fun h => HX h.1)).mono ?_
    rintro e w1 ⟨rfl, rfl⟩
    go_wp2_with fail
    refine (div_range _ _ _ (fun h => HX h.1)).mono ?_
    rintro e w1 ⟨rfl, rfl⟩
    go_wp2
    go_quiet (fail)
    go_wp2
    go_ret
    exact ⟨rfl, grown_drewN _ _⟩
  · have h1 : -1000000000 ≤ a1 := by omega
    have h2 : ¬ a1 ≤ 1000000000 := by omega
    go_enter Try.func3, Try.ntmps3
    go_wp2_with fail
    refine (mul_two _).mono ?_
    rintro e w1 ⟨rfl, rfl⟩
    go_wp2_with fail
    refine (of_ok _ _ n1 n2).mono ?_
    rintro e w1 ⟨rfl, rfl⟩
    go_wp2_with fail
    refine (whole_any _ _).mono ?_
    rintro e w1 ⟨rfl, rfl⟩
    rw [whole_back a0]
    go_wp2_with fail
    refine (whole_any _ _).mono ?_
    rintro e w1 ⟨rfl, rfl⟩
    go_wp2_with fail
    refine (mul_range _ _ _ (fun h => HX h.1)).mono ?_
    rintro e w1 ⟨rfl, rfl⟩
    go_wp2_with fail
    refine (div_range _ _ _ (fun h => HX h.1)).mono ?_
    rintro e w1 ⟨rfl, rfl⟩
    go_wp2
    go_quiet (fail)
    go_wp2
    go_ret
    exact ⟨rfl, grown_drewN _ _⟩

set_option maxHeartbeats 400000 in
theorem in_lo (a0 a1 : Int) (w : World) (n1 : -1000000 ≤ a0) (n2 : a0 ≤ 1000000) (hx : InL a1) (h1 : ¬ -1000000000 ≤ a1) :
    Calls Try.prog 3 #[.int .i64 a0, .int .i64 a1] w fun e w' => e = .returned (.bool true) ∧ Grown w w' := by
  have HX : Hid (InL a1) := hx
  obtain ⟨x1, x2⟩ := hx
  go_enter Try.func3, Try.ntmps3
  go_wp2_with fail
  refine (mul_two _).mono ?_
  rintro e w1 ⟨rfl, rfl⟩
  go_wp2_with fail
  refine (of_ok _ _ n1 n2).mono ?_
  rintro e w1 ⟨rfl, rfl⟩
  go_wp2_with fail
  refine (whole_any _ _).mono ?_
  rintro e w1 ⟨rfl, rfl⟩
  rw [whole_back a0]
  go_wp2_with fail
  refine (whole_any _ _).mono ?_
  rintro e w1 ⟨rfl, rfl⟩
  go_wp2_with fail
  refine (mul_one _ _ HX).mono ?_
  rintro e w1 ⟨rfl, rfl⟩
  go_wp2_with fail
  refine (div_one _ _ HX).mono ?_
  rintro e w1 ⟨rfl, rfl⟩
  go_wp2
  go_ret
  exact ⟨rfl, Grown.refl _⟩

set_option maxHeartbeats 400000 in
theorem in_hi (a0 a1 : Int) (w : World) (n1 : -1000000 ≤ a0) (n2 : a0 ≤ 1000000) (hx : InL a1) (h1 : -1000000000 ≤ a1) (h2 : ¬ a1 ≤ 1000000000) :
    Calls Try.prog 3 #[.int .i64 a0, .int .i64 a1] w fun e w' => e = .returned (.bool true) ∧ Grown w w' := by
  have HX : Hid (InL a1) := hx
  obtain ⟨x1, x2⟩ := hx
  go_enter Try.func3, Try.ntmps3
  go_wp2_with fail
  refine (mul_two _).mono ?_
  rintro e w1 ⟨rfl, rfl⟩
  go_wp2_with fail
  refine (of_ok _ _ n1 n2).mono ?_
  rintro e w1 ⟨rfl, rfl⟩
  go_wp2_with fail
  refine (whole_any _ _).mono ?_
  rintro e w1 ⟨rfl, rfl⟩
  rw [whole_back a0]
  go_wp2_with fail
  refine (whole_any _ _).mono ?_
  rintro e w1 ⟨rfl, rfl⟩
  go_wp2_with fail
  refine (mul_one _ _ HX).mono ?_
  rintro e w1 ⟨rfl, rfl⟩
  go_wp2_with fail
  refine (div_one _ _ HX).mono ?_
  rintro e w1 ⟨rfl, rfl⟩
  go_wp2
  go_ret
  exact ⟨rfl, Grown.refl _⟩

set_option maxHeartbeats 400000 in
theorem in_mid (a0 a1 : Int) (w : World) (n1 : -1000000 ≤ a0) (n2 : a0 ≤ 1000000) (hx : InL a1) (h1 : -1000000000 ≤ a1) (h2 : a1 ≤ 1000000000) :
    Calls Try.prog 3 #[.int .i64 a0, .int .i64 a1] w fun e w' => e = .returned (.bool true) ∧ Grown w w' := by
  have HX : Hid (InL a1) := hx
  obtain ⟨x1, x2⟩ := hx
  go_enter Try.func3, Try.ntmps3
  go_wp2_with fail
  refine (mul_two _).mono ?_
  rintro e w1 ⟨rfl, rfl⟩
  go_wp2_with fail
  refine (of_ok _ _ n1 n2).mono ?_
  rintro e w1 ⟨rfl, rfl⟩
  go_wp2_with fail
  refine (whole_any _ _).mono ?_
  rintro e w1 ⟨rfl, rfl⟩
  rw [whole_back a0]
  go_wp2_with fail
  refine (whole_any _ _).mono ?_
  rintro e w1 ⟨rfl, rfl⟩
  go_wp2_with fail
  refine (mul_one _ _ HX).mono ?_
  rintro e w1 ⟨rfl, rfl⟩
  go_wp2_with fail
  refine (div_one _ _ HX).mono ?_
  rintro e w1 ⟨rfl, rfl⟩
  go_wp2
  go_ret
  exact ⟨rfl, Grown.refl _⟩

set_option maxHeartbeats 400000 in
theorem un_out (a0 a1 : Int) (w : World) (n1 : a0 < -1000000 ∨ 1000000 < a0) (hx : ¬ InL a1) :
    Calls Try.prog 3 #[.int .i64 a0, .int .i64 a1] w fun e w' => e = .returned (.bool true) ∧ Grown w w' := by
  have HX : Hid (¬ InL a1) := hx
  have ho := outL a1 hx
  clear hx
  rcases ho with ho | ho
  · have h1 : ¬ -1000000000 ≤ a1 := by omega
    go_enter Try.func3, Try.ntmps3
    go_wp2_with fail
    refine (mul_two _).mono ?_
    rintro e w1 ⟨rfl, rfl⟩
    go_wp2_with fail
    refine (of_bad _ _ n1).mono ?_
    rintro e w1 ⟨rfl, rfl⟩
    go_wp2_with fail
    refine (whole_any _ _).mono ?_
    rintro e w1 ⟨rfl, rfl⟩
    go_wp2_with fail
    refine (mul_range _ _ _ (fun h => HX h.1)).mono ?_
    rintro e w1 ⟨rfl, rfl⟩
    go_wp2_with fail
    refine (div_range _ _ _ (fun h => HX h.1)).mono ?_
    rintro e w1 ⟨rfl, rfl⟩
    go_wp2
    go_quiet (fail)
    go_wp2
    go_ret
    exact ⟨rfl, grown_drewN _ _⟩
  · have h1 : -1000000000 ≤ a1 := by omega
    have h2 : ¬ a1 ≤ 1000000000 := by omega
    go_enter Try.func3, Try.ntmps3
    go_wp2_with fail
    refine (mul_two _).mono ?_
    rintro e w1 ⟨rfl, rfl⟩
    go_wp2_with fail
    refine (of_bad _ _ n1).mono ?_
    rintro e w1 ⟨rfl, rfl⟩
    go_wp2_with fail
    refine (whole_any _ _).mono ?_
    rintro e w1 ⟨rfl, rfl⟩
    go_wp2_with fail
    refine (mul_range _ _ _ (fun h => HX h.1)).mono ?_
    rintro e w1 ⟨rfl, rfl⟩
    go_wp2_with fail
    refine (div_range _ _ _ (fun h => HX h.1)).mono ?_
    rintro e w1 ⟨rfl, rfl⟩
    go_wp2
    go_quiet (fail)
    go_wp2
    go_ret
    exact ⟨rfl, grown_drewN _ _⟩

set_option maxHeartbeats 400000 in
theorem un_lo (a0 a1 : Int) (w : World) (n1 : a0 < -1000000 ∨ 1000000 < a0) (hx : InL a1) (h1 : ¬ -1000000000 ≤ a1) :
    Calls Try.prog 3 #[.int .i64 a0, .int .i64 a1] w fun e w' => e = .returned (.bool true) ∧ Grown w w' := by
  have HX : Hid (InL a1) := hx
  obtain ⟨x1, x2⟩ := hx
  go_enter Try.func3, Try.ntmps3
  go_wp2_with fail
  refine (mul_two _).mono ?_
  rintro e w1 ⟨rfl, rfl⟩
  go_wp2_with fail
  refine (of_bad _ _ n1).mono ?_
  rintro e w1 ⟨rfl, rfl⟩
  go_wp2_with fail
  refine (whole_any _ _).mono ?_
  rintro e w1 ⟨rfl, rfl⟩
  go_wp2_with fail
  refine (mul_one _ _ HX).mono ?_
  rintro e w1 ⟨rfl, rfl⟩
  go_wp2_with fail
  refine (div_one _ _ HX).mono ?_
  rintro e w1 ⟨rfl, rfl⟩
  go_wp2
  go_ret
  exact ⟨rfl, Grown.refl _⟩

set_option maxHeartbeats 400000 in
theorem un_hi (a0 a1 : Int) (w : World) (n1 : a0 < -1000000 ∨ 1000000 < a0) (hx : InL a1) (h1 : -1000000000 ≤ a1) (h2 : ¬ a1 ≤ 1000000000) :
    Calls Try.prog 3 #[.int .i64 a0, .int .i64 a1] w fun e w' => e = .returned (.bool true) ∧ Grown w w' := by
  have HX : Hid (InL a1) := hx
  obtain ⟨x1, x2⟩ := hx
  go_enter Try.func3, Try.ntmps3
  go_wp2_with fail
  refine (mul_two _).mono ?_
  rintro e w1 ⟨rfl, rfl⟩
  go_wp2_with fail
  refine (of_bad _ _ n1).mono ?_
  rintro e w1 ⟨rfl, rfl⟩
  go_wp2_with fail
  refine (whole_any _ _).mono ?_
  rintro e w1 ⟨rfl, rfl⟩
  go_wp2_with fail
  refine (mul_one _ _ HX).mono ?_
  rintro e w1 ⟨rfl, rfl⟩
  go_wp2_with fail
  refine (div_one _ _ HX).mono ?_
  rintro e w1 ⟨rfl, rfl⟩
  go_wp2
  go_ret
  exact ⟨rfl, Grown.refl _⟩

set_option maxHeartbeats 400000 in
theorem un_mid (a0 a1 : Int) (w : World) (n1 : a0 < -1000000 ∨ 1000000 < a0) (hx : InL a1) (h1 : -1000000000 ≤ a1) (h2 : a1 ≤ 1000000000) :
    Calls Try.prog 3 #[.int .i64 a0, .int .i64 a1] w fun e w' => e = .returned (.bool true) ∧ Grown w w' := by
  have HX : Hid (InL a1) := hx
  obtain ⟨x1, x2⟩ := hx
  go_enter Try.func3, Try.ntmps3
  go_wp2_with fail
  refine (mul_two _).mono ?_
  rintro e w1 ⟨rfl, rfl⟩
  go_wp2_with fail
  refine (of_bad _ _ n1).mono ?_
  rintro e w1 ⟨rfl, rfl⟩
  go_wp2_with fail
  refine (whole_any _ _).mono ?_
  rintro e w1 ⟨rfl, rfl⟩
  go_wp2_with fail
  refine (mul_one _ _ HX).mono ?_
  rintro e w1 ⟨rfl, rfl⟩
  go_wp2_with fail
  refine (div_one _ _ HX).mono ?_
  rintro e w1 ⟨rfl, rfl⟩
  go_wp2
  go_ret
  exact ⟨rfl, Grown.refl _⟩

theorem walk (a0 : Int) (a1 : Int) (w0 : (Lit.int .i64 a0).wf = true) (w1 : (Lit.int .i64 a1).wf = true) (w : World) :
    Calls Try.prog 3 #[.int .i64 a0, .int .i64 a1] w fun e w' => e = .returned (.bool true) ∧ Grown w w' := by
  by_cases hn : -1000000 ≤ a0 ∧ a0 ≤ 1000000
  · obtain ⟨n1, n2⟩ := hn
    by_cases hx : InL a1
    · by_cases h1 : -1000000000 ≤ a1
      · by_cases h2 : a1 ≤ 1000000000
        · exact in_mid a0 a1 w n1 n2 hx h1 h2
        · exact in_hi a0 a1 w n1 n2 hx h1 h2
      · exact in_lo a0 a1 w n1 n2 hx h1
    · exact in_out a0 a1 w n1 n2 hx
  · have n1 : a0 < -1000000 ∨ 1000000 < a0 := by omega
    by_cases hx : InL a1
    · by_cases h1 : -1000000000 ≤ a1
      · by_cases h2 : a1 ≤ 1000000000
        · exact un_mid a0 a1 w n1 hx h1 h2
        · exact un_hi a0 a1 w n1 hx h1 h2
      · exact un_lo a0 a1 w n1 hx h1
    · exact un_out a0 a1 w n1 hx

set_option maxRecDepth 100000 in
theorem lifted (os : Os) (started : os.Started) (H : Type) (enc : TypeId × Value → H) :
    ReturnsInHanded {} Try.checked os 3 .any (Rows.fixBackSpec.pre6 enc Try.prog Try.f3 Rows.fixBackRow.domain false) (Rows.fixBackSpec.post enc Try.prog Try.f3 false true false false) := by
  refine returnsInHanded_of_change (C := Try.checked) own started (by kernel_rfl) Try.func3
    (ChangeSpec.witness6 (enc := enc) (C := Try.checked) false ⟨#[], #[.int .i64 0, .int .i64 0], []⟩ 8 (by kernel_rfl) (by kernel_rfl) (by kernel_rfl) (by kernel_rfl)) ?_
  intro W base args ds gs before hval0 hW hcnd _
  have hval : ∀ (j : Nat) t v, Try.f3.params[j]? = some t → args[j]? = some v → Value.okWide Try.prog W .any base t v := hval0
  have hW' := hW
  obtain ⟨p, q, hA0, hV, rfl, hfz, hnd⟩ := hW
  have hA : DataW.TrodAll enc Try.prog W 0 (fun _ => true) true Try.f3.params.toList args.toList ds p := hA0
  rw [Try.params3] at hA hval
  obtain ⟨v0, vs0, d0, ds0, p0, q0, hargs, rfl, rfl, h0, r0⟩ := trodAll_cons hA
  obtain ⟨v1, vs1, d1, ds1, p1, q1, rfl, rfl, rfl, h1, r1⟩ := trodAll_cons r0
  obtain ⟨rfl, rfl, rfl⟩ := trodAll_nil r1
  obtain rfl : args = #[v0, v1] := by cases args; simp_all
  obtain ⟨rfl, rfl⟩ := trodVars_none hV
  obtain ⟨a0, rfl, rfl, rfl, w0⟩ := open_int Try.underlying3 (hval 0 3 v0 rfl rfl) h0
  obtain ⟨a1, rfl, rfl, rfl, w1⟩ := open_int Try.underlying3 (hval 1 3 v1 rfl rfl) h1
  clear hA0 hval0
  simp only [List.append_nil] at hW'
  refine (walk a0 a1 w0 w1 W).mono fun e W' ⟨he, hg⟩ => ?_
  subst he
  exact ⟨_, rfl, post_of_same (pa := []) (pv := []) hW' (fun _ _ _ => (trodAll_cons_mk (shut_bool Try.underlying4 _) trodAll_mk0)) (fun sp _ => (trodAll_cons_mk (shut_int Try.underlying3 w0) (trodAll_cons_mk (shut_int Try.underlying3 w1) trodAll_mk0))) (fun _ _ => rfl) rfl
    (hg.frame _) hg.2.1 (ok_one (by kernel_rfl) rfl (okWide_bool_mk Try.underlying4 _))⟩

theorem over : Rows.fixBackRow.holds Try.pinned (OpenSpec.ofChange Rows.fixBackSpec) :=
  OpenClaim.holds_of_wide 3 Try.f3 rfl rfl rfl rfl rfl rfl rfl ⟨rfl, rfl, rfl, rfl, rfl⟩ rfl rfl rfl rfl rfl (by kernel_rfl) Try.func3 (by kernel_rfl)
    (of_decide_eq_true (by kernel_rfl)) (by unfold Func.isWrapper; first | (rw [if_pos (by decide +kernel)]; kernel_rfl) | (rw [if_neg (by decide +kernel)]; exact ⟨rfl, rfl⟩))
    (fun os started H enc _ => lifted os started H enc)

theorem proved : Rows.FixBackSaid :=
  over
end Go.Proofs.Ytmggciglokjcbaa.fixBack

namespace Go.Proofs.Ytmggciglokjcbaa
theorem fixBack_holds : Rows.FixBackSaid := fixBack.proved
#print axioms fixBack_holds
end Go.Proofs.Ytmggciglokjcbaa
