/- For every two integers of type int: FixSquares returns true, and its arguments read as they did (the square of a root is not above, that of one more is, and the root of a square is what was squared). No condition. -/
import Derived.Test.YtmggciglokjcbaaRows
import Derived.Test.YtmggciglokjcbaaFixB
import Derived.WalkKit
import Derived.ProofKit
import Derived.OpenShut
namespace Go.Proofs.Ytmggciglokjcbaa.fixSquares
open Go.ChangeShapes Go.WideShapes Go.ChangeAt Go.RowKit
set_option linter.unusedVariables false

theorem own : ownKnob Try.prog.godebug = none := by kernel_rfl

theorem four (r : Int) (h : Ma.Sq r 24) : r = 4 :=
  Ma.sq_uniq r 4 _ h ⟨by omega, by omega, by omega⟩

theorem next_small (r : Int) (h0 : 0 ≤ r) (h : r ≤ 3037000499) : 0 ≤ r * r ∧ 0 ≤ (r + 1) * (r + 1) ∧ (r < 3037000499 → (r + 1) * (r + 1) ≤ 9223372030926249001) :=
  ⟨Int.mul_nonneg (by omega) (by omega), Int.mul_nonneg (by omega) (by omega), fun hb => Ma.mul_mono (r + 1) 3037000499 (by omega) (by omega)⟩

set_option maxHeartbeats 400000 in
theorem walk (a0 : Int) (a1 : Int) (w0 : (Lit.int .i64 a0).wf = true) (w1 : (Lit.int .i64 a1).wf = true) (w : World) :
    Calls Try.prog 5 #[.int .i64 a0, .int .i64 a1] w fun e w' => e = .returned (.bool true) ∧ Grown w w' := by
  have hw0 := bounds_i64 w0
  have hw1 := bounds_i64 w1
  by_cases h0 : a0 < 0
  · go_enter Try.func5, Try.ntmps5
    go_wp2_with fail
    refine (root_any _ _ (by omega) (by omega)).mono ?_
    rintro e w1 ⟨r, hr, rfl, rfl⟩
    have hr' := four r hr
    subst hr'
    clear hr
    go_wp2_with fail
    refine (root_neg _ _ h0).mono ?_
    rintro e w1 ⟨rfl, rfl⟩
    go_wp2
    go_ret
    exact ⟨rfl, Grown.refl _⟩
  · go_enter Try.func5, Try.ntmps5
    go_wp2_with fail
    refine (root_any _ _ (by omega) (by omega)).mono ?_
    rintro e w1 ⟨r, hr, rfl, rfl⟩
    have hr' := four r hr
    subst hr'
    clear hr
    go_wp2_with fail
    refine (root_any _ _ (by omega) (by omega)).mono ?_
    rintro e w1 ⟨r, hr, rfl, rfl⟩
    obtain ⟨r0, r1, r2⟩ := hr
    have r3 := Ma.root_small r a0 r1 (by omega)
    have r4 : ¬ (r + 1) * (r + 1) ≤ a0 := by omega
    have r5 := next_small r r0 r3
    obtain ⟨r6, r7, r8⟩ := r5
    have hb : (r < 3037000499 ∧ (r + 1) * (r + 1) ≤ 9223372030926249001) ∨ ¬ r < 3037000499 := by
      by_cases h : r < 3037000499
      · exact .inl ⟨h, r8 h⟩
      · exact .inr h
    clear r8
    rcases hb with ⟨hb, hc⟩ | hb
    all_goals
      by_cases hm : a1 < 0
      · go_wp2
        go_ret
        exact ⟨rfl, Grown.refl _⟩
      · by_cases hm2 : 1000000000 < a1
        · go_wp2
          go_ret
          exact ⟨rfl, Grown.refl _⟩
        · have hmm := Ma.mul_mono a1 1000000000 (by omega) (by omega)
          have hmn := Int.mul_nonneg (a := a1) (b := a1) (by omega) (by omega)
          go_wp2_with fail
          refine (root_any _ _ (by omega) (by omega)).mono ?_
          rintro e w1 ⟨s, hs, rfl, rfl⟩
          have hs' := Ma.sq_uniq s a1 _ hs (Ma.sq_self a1 (by omega))
          subst hs'
          clear hs
          go_wp2
          go_ret
          exact ⟨rfl, Grown.refl _⟩

set_option maxRecDepth 100000 in
theorem lifted (os : Os) (started : os.Started) (H : Type) (enc : TypeId × Value → H) :
    ReturnsInHanded {} Try.checked os 5 .any (Rows.fixSquaresSpec.pre6 enc Try.prog Try.f5 Rows.fixSquaresRow.domain false) (Rows.fixSquaresSpec.post enc Try.prog Try.f5 false true false false) := by
  refine returnsInHanded_of_change (C := Try.checked) own started (by kernel_rfl) Try.func5
    (ChangeSpec.witness6 (enc := enc) (C := Try.checked) false ⟨#[], #[.int .i64 0, .int .i64 0], []⟩ 8 (by kernel_rfl) (by kernel_rfl) (by kernel_rfl) (by kernel_rfl)) ?_
  intro W base args ds gs before hval0 hW hcnd _
  have hval : ∀ (j : Nat) t v, Try.f5.params[j]? = some t → args[j]? = some v → Value.okWide Try.prog W .any base t v := hval0
  have hW' := hW
  obtain ⟨p, q, hA0, hV, rfl, hfz, hnd⟩ := hW
  have hA : DataW.TrodAll enc Try.prog W 0 (fun _ => true) true Try.f5.params.toList args.toList ds p := hA0
  rw [Try.params5] at hA hval
  obtain ⟨v0, vs0, d0, ds0, p0, q0, hargs, rfl, rfl, h0, r0⟩ := trodAll_cons hA
  obtain ⟨v1, vs1, d1, ds1, p1, q1, rfl, rfl, rfl, h1, r1⟩ := trodAll_cons r0
  obtain ⟨rfl, rfl, rfl⟩ := trodAll_nil r1
  obtain rfl : args = #[v0, v1] := by cases args; simp_all
  obtain ⟨rfl, rfl⟩ := trodVars_none hV
  obtain ⟨a0, rfl, rfl, rfl, w0⟩ := open_int Try.underlying3 (hval 0 3 v0 rfl rfl) h0
  obtain ⟨a1, rfl, rfl, rfl, w1⟩ := open_int Try.underlying3 (hval 1 3 v1 rfl rfl) h1
  clear hA0 hval0
  simp only [List.append_nil] at hW'
  refine (walk a0 a1 w0 w1 W).mono fun e W' ⟨he, hg⟩ => ?_
  subst he
  exact ⟨_, rfl, post_of_same (pa := []) (pv := []) hW' (fun _ _ _ => (trodAll_cons_mk (shut_bool Try.underlying4 _) trodAll_mk0)) (fun sp _ => (trodAll_cons_mk (shut_int Try.underlying3 w0) (trodAll_cons_mk (shut_int Try.underlying3 w1) trodAll_mk0))) (fun _ _ => rfl) rfl
    (hg.frame _) hg.2.1 (ok_one (by kernel_rfl) rfl (okWide_bool_mk Try.underlying4 _))⟩

theorem over : Rows.fixSquaresRow.holds Try.pinned (OpenSpec.ofChange Rows.fixSquaresSpec) :=
  OpenClaim.holds_of_wide 5 Try.f5 rfl rfl rfl rfl rfl rfl rfl ⟨rfl, rfl, rfl, rfl, rfl⟩ rfl rfl rfl rfl rfl (by kernel_rfl) Try.func5 (by kernel_rfl)
    (of_decide_eq_true (by kernel_rfl)) (by unfold Func.isWrapper; first | (rw [if_pos (by decide +kernel)]; kernel_rfl) | (rw [if_neg (by decide +kernel)]; exact ⟨rfl, rfl⟩))
    (fun os started H enc _ => lifted os started H enc)

theorem proved : Rows.FixSquaresSaid :=
  over
end Go.Proofs.Ytmggciglokjcbaa.fixSquares

namespace Go.Proofs.Ytmggciglokjcbaa
theorem fixSquares_holds : Rows.FixSquaresSaid := fixSquares.proved
#print axioms fixSquares_holds
end Go.Proofs.Ytmggciglokjcbaa
