/- For every six integers of type int: FixTriangle returns true, and its arguments read as they did (how far it is from one place to a third is at most one more than by way of a second, as far there as back, and nowhere is no way). No condition. -/
import Derived.Test.YtmggciglokjcbaaRows
import Derived.Test.YtmggciglokjcbaaFixD
import Derived.Test.YtmggciglokjcbaaTri
import Derived.WalkKit
import Derived.ProofKit
import Derived.OpenShut
namespace Go.Proofs.Ytmggciglokjcbaa.fixTriangle
open Go.ChangeShapes Go.WideShapes Go.ChangeAt Go.RowKit
set_option linter.unusedVariables false

theorem own : ownKnob Try.prog.godebug = none := by kernel_rfl


theorem far_small (a b c d r : Int) (h : Ma.Sq r ((a - c) * (a - c) + (b - d) * (b - d))) (ha : In6 a) (hb : In6 b) (hc : In6 c) (hd : In6 d) : 0 ≤ r ∧ r ≤ 3000000 := by
  obtain ⟨ha1, ha2⟩ := ha
  obtain ⟨hb1, hb2⟩ := hb
  obtain ⟨hc1, hc2⟩ := hc
  obtain ⟨hd1, hd2⟩ := hd
  exact ⟨h.1, Ma.small_far _ _ r h (sqb _ (by omega) (by omega)).2 (sqb _ (by omega) (by omega)).2⟩

theorem in0 : In6 0 ∧ In6 3 ∧ In6 4 := by unfold In6; omega

set_option maxHeartbeats 400000 in
theorem tri_ok (a0 a1 a2 a3 a4 a5 : Int) (w : World) (k0 : In6 a0) (k1 : In6 a1) (k2 : In6 a2) (k3 : In6 a3) (k4 : In6 a4) (k5 : In6 a5) :
    Calls Try.prog 4 #[.int .i64 a0, .int .i64 a1, .int .i64 a2, .int .i64 a3, .int .i64 a4, .int .i64 a5] w fun e w' => e = .returned (.bool true) ∧ Grown w w' := by
  have H0 : Hid (In6 a0) := k0
  have H1 : Hid (In6 a1) := k1
  have H2 : Hid (In6 a2) := k2
  have H3 : Hid (In6 a3) := k3
  have H4 : Hid (In6 a4) := k4
  have H5 : Hid (In6 a5) := k5
  clear k0 k1 k2 k3 k4 k5
  go_enter Try.func4, Try.ntmps4
  go_wp2_with fail
  refine (far_ok _ _ _ _ _ in0.1 in0.1 in0.2.1 in0.2.2).mono ?_
  rintro e w1 ⟨r, hr, rfl, rfl⟩
  have hr' := Ma.five r hr
  subst hr'
  clear hr
  go_wp2_with fail
  refine (far_ok _ _ _ _ _ H0 H1 H2 H3).mono ?_
  rintro e w1 ⟨ab, hab, rfl, rfl⟩
  have Hab : Hid (Ma.Sq ab ((a0 - a2) * (a0 - a2) + (a1 - a3) * (a1 - a3))) := hab
  clear hab
  go_wp2_with fail
  refine (far_ok _ _ _ _ _ H2 H3 H4 H5).mono ?_
  rintro e w1 ⟨bc, hbc, rfl, rfl⟩
  have Hbc : Hid (Ma.Sq bc ((a2 - a4) * (a2 - a4) + (a3 - a5) * (a3 - a5))) := hbc
  clear hbc
  go_wp2_with fail
  refine (far_ok _ _ _ _ _ H0 H1 H4 H5).mono ?_
  rintro e w1 ⟨ac, hac, rfl, rfl⟩
  have Hac : Hid (Ma.Sq ac ((a0 - a4) * (a0 - a4) + (a1 - a5) * (a1 - a5))) := hac
  clear hac
  go_wp2_with fail
  refine (far_ok _ _ _ _ _ H2 H3 H0 H1).mono ?_
  rintro e w1 ⟨ba, hba, rfl, rfl⟩
  have heq := Ma.back a0 a1 a2 a3 ab ba Hab hba
  subst heq
  clear hba
  have ht := Ma.tri a0 a1 a2 a3 a4 a5 ab bc ac Hab Hbc Hac
  have b1 := far_small a0 a1 a2 a3 ab Hab H0 H1 H2 H3
  have b2 := far_small a2 a3 a4 a5 bc Hbc H2 H3 H4 H5
  have b3 := far_small a0 a1 a4 a5 ac Hac H0 H1 H4 H5
  obtain ⟨b10, b11⟩ := b1
  obtain ⟨b20, b21⟩ := b2
  obtain ⟨b30, b31⟩ := b3
  go_wp2_with fail
  refine (far_ok _ _ _ _ _ H0 H1 H0 H1).mono ?_
  rintro e w1 ⟨aa, haa, rfl, rfl⟩
  have hz := Ma.self_zero a0 a1 aa haa
  subst hz
  clear haa
  go_wp2
  go_ret
  exact ⟨rfl, Grown.refl _⟩

/-- what Far answers, whichever it is. -/
theorem far_all (a b c d : Int) (w : World) :
    Calls Try.prog 11 #[.int .i64 a, .int .i64 b, .int .i64 c, .int .i64 d] w fun e w' => ∃ (r : Int) (v : Value), (v = .nilIface ∧ In6 a ∧ In6 b ∧ In6 c ∧ In6 d ∨ v = .iface 31 (.int .i64 1) ∧ ¬ (In6 a ∧ In6 b ∧ In6 c ∧ In6 d)) ∧ e = .returned (.tuple #[.int .i64 r, v]) ∧ w' = w := by
  by_cases h : In6 a ∧ In6 b ∧ In6 c ∧ In6 d
  · obtain ⟨ha, hb, hc, hd⟩ := h
    refine (far_ok a b c d w ha hb hc hd).mono ?_
    rintro e w1 ⟨r, _, rfl, rfl⟩
    exact ⟨r, _, .inl ⟨rfl, ha, hb, hc, hd⟩, rfl, rfl⟩
  · refine (far_bad a b c d w h).mono ?_
    rintro e w1 ⟨rfl, rfl⟩
    exact ⟨0, _, .inr ⟨rfl, h⟩, rfl, rfl⟩

set_option maxHeartbeats 400000 in
theorem tri_bad (a0 a1 a2 a3 a4 a5 : Int) (w : World) (hA : ¬ (In6 a0 ∧ In6 a1 ∧ In6 a2 ∧ In6 a3 ∧ In6 a4 ∧ In6 a5)) :
    Calls Try.prog 4 #[.int .i64 a0, .int .i64 a1, .int .i64 a2, .int .i64 a3, .int .i64 a4, .int .i64 a5] w fun e w' => e = .returned (.bool true) ∧ Grown w w' := by
  have HA : Hid (¬ (In6 a0 ∧ In6 a1 ∧ In6 a2 ∧ In6 a3 ∧ In6 a4 ∧ In6 a5)) := hA
  clear hA
  go_enter Try.func4, Try.ntmps4
  go_wp2_with fail
  refine (far_ok _ _ _ _ _ in0.1 in0.1 in0.2.1 in0.2.2).mono ?_
  rintro e w1 ⟨r, hr, rfl, rfl⟩
  have hr' := Ma.five r hr
  subst hr'
  clear hr
  go_wp2_with fail
  refine (far_all _ _ _ _ _).mono ?_
  rintro e w1 ⟨r1, v1, c1, rfl, rfl⟩
  have C1 : Hid _ := c1
  clear c1
  go_wp2_with fail
  refine (far_all _ _ _ _ _).mono ?_
  rintro e w1 ⟨r2, v2, c2, rfl, rfl⟩
  have C2 : Hid _ := c2
  clear c2
  go_wp2_with fail
  refine (far_all _ _ _ _ _).mono ?_
  rintro e w1 ⟨r3, v3, c3, rfl, rfl⟩
  have C3 : Hid _ := c3
  clear c3
  go_wp2_with fail
  refine (far_all _ _ _ _ _).mono ?_
  rintro e w1 ⟨r4, v4, c4, rfl, rfl⟩
  have C4 : Hid _ := c4
  clear c4
  rcases C1 with ⟨rfl, d1⟩ | ⟨rfl, d1⟩
  · rcases C2 with ⟨rfl, d2⟩ | ⟨rfl, d2⟩
    · exact absurd ⟨d1.1, d1.2.1, d1.2.2.1, d1.2.2.2, d2.2.2.1, d2.2.2.2⟩ HA
    · clear d1 d2 C3 C4
      go_wp2
      go_ret
      exact ⟨rfl, Grown.refl _⟩
  · clear d1 C2 C3 C4
    go_wp2
    go_ret
    exact ⟨rfl, Grown.refl _⟩

theorem walk (a0 : Int) (a1 : Int) (a2 : Int) (a3 : Int) (a4 : Int) (a5 : Int) (w0 : (Lit.int .i64 a0).wf = true) (w1 : (Lit.int .i64 a1).wf = true) (w2 : (Lit.int .i64 a2).wf = true) (w3 : (Lit.int .i64 a3).wf = true) (w4 : (Lit.int .i64 a4).wf = true) (w5 : (Lit.int .i64 a5).wf = true) (w : World) :
    Calls Try.prog 4 #[.int .i64 a0, .int .i64 a1, .int .i64 a2, .int .i64 a3, .int .i64 a4, .int .i64 a5] w fun e w' => e = .returned (.bool true) ∧ Grown w w' := by
  by_cases hA : In6 a0 ∧ In6 a1 ∧ In6 a2 ∧ In6 a3 ∧ In6 a4 ∧ In6 a5
  · obtain ⟨k0, k1, k2, k3, k4, k5⟩ := hA
    exact tri_ok a0 a1 a2 a3 a4 a5 w k0 k1 k2 k3 k4 k5
  · exact tri_bad a0 a1 a2 a3 a4 a5 w hA

set_option maxRecDepth 100000 in
theorem lifted (os : Os) (started : os.Started) (H : Type) (enc : TypeId × Value → H) :
    ReturnsInHanded {} Try.checked os 4 .any (Rows.fixTriangleSpec.pre6 enc Try.prog Try.f4 Rows.fixTriangleRow.domain false) (Rows.fixTriangleSpec.post enc Try.prog Try.f4 false true false false) := by
  refine returnsInHanded_of_change (C := Try.checked) own started (by kernel_rfl) Try.func4
    (ChangeSpec.witness6 (enc := enc) (C := Try.checked) false ⟨#[], #[.int .i64 0, .int .i64 0, .int .i64 0, .int .i64 0, .int .i64 0, .int .i64 0], []⟩ 8 (by kernel_rfl) (by kernel_rfl) (by kernel_rfl) (by kernel_rfl)) ?_
  intro W base args ds gs before hval0 hW hcnd _
  have hval : ∀ (j : Nat) t v, Try.f4.params[j]? = some t → args[j]? = some v → Value.okWide Try.prog W .any base t v := hval0
  have hW' := hW
  obtain ⟨p, q, hA0, hV, rfl, hfz, hnd⟩ := hW
  have hA : DataW.TrodAll enc Try.prog W 0 (fun _ => true) true Try.f4.params.toList args.toList ds p := hA0
  rw [Try.params4] at hA hval
  obtain ⟨v0, vs0, d0, ds0, p0, q0, hargs, rfl, rfl, h0, r0⟩ := trodAll_cons hA
  obtain ⟨v1, vs1, d1, ds1, p1, q1, rfl, rfl, rfl, h1, r1⟩ := trodAll_cons r0
  obtain ⟨v2, vs2, d2, ds2, p2, q2, rfl, rfl, rfl, h2, r2⟩ := trodAll_cons r1
  obtain ⟨v3, vs3, d3, ds3, p3, q3, rfl, rfl, rfl, h3, r3⟩ := trodAll_cons r2
  obtain ⟨v4, vs4, d4, ds4, p4, q4, rfl, rfl, rfl, h4, r4⟩ := trodAll_cons r3
  obtain ⟨v5, vs5, d5, ds5, p5, q5, rfl, rfl, rfl, h5, r5⟩ := trodAll_cons r4
  obtain ⟨rfl, rfl, rfl⟩ := trodAll_nil r5
  obtain rfl : args = #[v0, v1, v2, v3, v4, v5] := by cases args; simp_all
  obtain ⟨rfl, rfl⟩ := trodVars_none hV
  obtain ⟨a0, rfl, rfl, rfl, w0⟩ := open_int Try.underlying3 (hval 0 3 v0 rfl rfl) h0
  obtain ⟨a1, rfl, rfl, rfl, w1⟩ := open_int Try.underlying3 (hval 1 3 v1 rfl rfl) h1
  obtain ⟨a2, rfl, rfl, rfl, w2⟩ := open_int Try.underlying3 (hval 2 3 v2 rfl rfl) h2
  obtain ⟨a3, rfl, rfl, rfl, w3⟩ := open_int Try.underlying3 (hval 3 3 v3 rfl rfl) h3
  obtain ⟨a4, rfl, rfl, rfl, w4⟩ := open_int Try.underlying3 (hval 4 3 v4 rfl rfl) h4
  obtain ⟨a5, rfl, rfl, rfl, w5⟩ := open_int Try.underlying3 (hval 5 3 v5 rfl rfl) h5
  clear hA0 hval0
  simp only [List.append_nil] at hW'
  refine (walk a0 a1 a2 a3 a4 a5 w0 w1 w2 w3 w4 w5 W).mono fun e W' ⟨he, hg⟩ => ?_
  subst he
  exact ⟨_, rfl, post_of_same (pa := []) (pv := []) hW' (fun _ _ _ => (trodAll_cons_mk (shut_bool Try.underlying4 _) trodAll_mk0)) (fun sp _ => (trodAll_cons_mk (shut_int Try.underlying3 w0) (trodAll_cons_mk (shut_int Try.underlying3 w1) (trodAll_cons_mk (shut_int Try.underlying3 w2) (trodAll_cons_mk (shut_int Try.underlying3 w3) (trodAll_cons_mk (shut_int Try.underlying3 w4) (trodAll_cons_mk (shut_int Try.underlying3 w5) trodAll_mk0))))))) (fun _ _ => rfl) rfl
    (hg.frame _) hg.2.1 (ok_one (by kernel_rfl) rfl (okWide_bool_mk Try.underlying4 _))⟩

theorem over : Rows.fixTriangleRow.holds Try.pinned (OpenSpec.ofChange Rows.fixTriangleSpec) :=
  OpenClaim.holds_of_wide 4 Try.f4 rfl rfl rfl rfl rfl rfl rfl ⟨rfl, rfl, rfl, rfl, rfl⟩ rfl rfl rfl rfl rfl (by kernel_rfl) Try.func4 (by kernel_rfl)
    (of_decide_eq_true (by kernel_rfl)) (by unfold Func.isWrapper; first | (rw [if_pos (by decide +kernel)]; kernel_rfl) | (rw [if_neg (by decide +kernel)]; exact ⟨rfl, rfl⟩))
    (fun os started H enc _ => lifted os started H enc)

theorem proved : Rows.FixTriangleSaid :=
  over
end Go.Proofs.Ytmggciglokjcbaa.fixTriangle

namespace Go.Proofs.Ytmggciglokjcbaa
theorem fixTriangle_holds : Rows.FixTriangleSaid := fixTriangle.proved
#print axioms fixTriangle_holds
end Go.Proofs.Ytmggciglokjcbaa
