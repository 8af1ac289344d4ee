/- The walk of FieldParses. -/
import Derived.Test.YthnfaflhecfnfaaDoorRfP
import Derived.Test.YthnfaflhecfnfaaDoorSmF
import Derived.Test.YthnfaflhecfnfaaDoorTold
import Derived.ProofKit
import Derived.OpenShut
import Derived.IntWalk
namespace Go.Proofs.YthnfaflhecfnfaaDoor.fieldParses
open Go.RowKit
set_option linter.unusedVariables false

theorem ro_nil (w : World) : Ro w (.slice none 0 0) [] := ⟨none, 0, rfl, Nat.le_refl _, by omega, fun h => absurd rfl h⟩

set_option maxRecDepth 100000 in
set_option maxHeartbeats 4000000 in
theorem walk (s0 : ByteArray) (w : World) (hs : s0.size ≤ maxLen) (hg : Et w) :
    Calls Tryd.prog 4 #[.string s0] w fun e w' => e = .returned (.bool true) ∧ Below w.heap.size w w' := by
  have G0 : Hid (Et w) := hg
  have HS : Hid (s0.size ≤ maxLen) := hs
  clear hg hs
  go_enter Tryd.func4, Tryd.ntmps4
  go_wp2_with fail
  refine (ref_parse s0 _ HS.out).mono ?_
  rintro e w1 ⟨hr, k1⟩
  have K1 : Hid (Below w.heap.size w w1) := k1
  clear k1
  rcases hr with ⟨i, f, hp, rfl, hf⟩ | ⟨st, u1, u2, hp, rfl, r1, r2⟩
  · have HP : Hid (Fd.parse s0.data.toList = .inl (i, f)) := hp
    have HF : Hid (f ≠ 0) := hf
    clear hp hf
    go_wp2_with fail
    have X1 := Bf.mk' (w := w1) 0 0 (.slice none 0 0) (.slice none 0 0) rfl
    have K2 : Hid (Below w.heap.size w (w1.alloc (Obj.cells #[.int .i64 0, .int .i64 0, .slice none 0 0, .slice none 0 0] 24))) := K1.out.alloc K1.out.size _
    have L1 : Hid (w1.heap.size < (w1.alloc (Obj.cells #[.int .i64 0, .int .i64 0, .slice none 0 0, .slice none 0 0] 24)).heap.size) := by unfold Hid; simp
    generalize w1.alloc (Obj.cells #[.int .i64 0, .int .i64 0, .slice none 0 0, .slice none 0 0] 24) = w2 at *
    have X2 : Hid (Bf w2 w1.heap.size 0 0 (.slice none 0 0) (.slice none 0 0)) := X1
    clear X1
    refine (parse_any s0 _ HS.out).mono ?_
    rintro e w3 ⟨hr, k3⟩
    rcases hr with ⟨i', f', hp, rfl, hf⟩ | ⟨st, u1, u2, hp, rfl, r1, r2⟩
    · rw [HP.out] at hp
      injection hp with hp
      injection hp with h1 h2
      subst h1
      subst h2
      have K3 : Hid (Below w.heap.size w w3) := K2.out.trans (k3.mono K2.out.size)
      have X3 : Hid (Bf w3 w1.heap.size 0 0 (.slice none 0 0) (.slice none 0 0)) := X2.out.below k3 X2.out.lt
      have L3 : Hid (w1.heap.size < w3.heap.size) := Nat.lt_of_lt_of_le L1.out k3.size
      clear k3 hf HP
      go_wp2_with fail
      have X4 : Hid (Bf (w3.alloc (Obj.cells #[.int .i64 0, .int .i64 0, .slice none 0 0, .slice none 0 0] 24)) w1.heap.size 0 0 (.slice none 0 0) (.slice none 0 0)) := X3.out.below ((Below.refl _ _).alloc (Nat.le_refl _) _) L3.out
      have Y4 : Hid (Bf (w3.alloc (Obj.cells #[.int .i64 0, .int .i64 0, .slice none 0 0, .slice none 0 0] 24)) w3.heap.size 0 0 (.slice none 0 0) (.slice none 0 0)) := Bf.mk' (w := w3) 0 0 _ _ rfl
      have K4 : Hid (Below w.heap.size w (w3.alloc (Obj.cells #[.int .i64 0, .int .i64 0, .slice none 0 0, .slice none 0 0] 24))) := K3.out.alloc K3.out.size _
      generalize w3.alloc (Obj.cells #[.int .i64 0, .int .i64 0, .slice none 0 0, .slice none 0 0] 24) = w4 at *
      refine (same_hit f f _ (G0.out.below K4.out)).mono ?_
      rintro e w5 ⟨rfl, k5⟩
      rw [beq_self_eq_true]
      have K5 : Hid (Below w.heap.size w w5) := K4.out.trans (k5.mono K4.out.size)
      have X5 : Hid (Bf w5 w1.heap.size 0 0 (.slice none 0 0) (.slice none 0 0)) := X4.out.below k5 X4.out.lt
      have Y5 : Hid (Bf w5 w3.heap.size 0 0 (.slice none 0 0) (.slice none 0 0)) := Y4.out.below k5 Y4.out.lt
      clear k5
      obtain ⟨x0, x1, x2, x3⟩ := X5.out
      obtain ⟨y0, y1, y2, y3⟩ := Y5.out
      go_wp2_with fail
      refine (same_field _ _ 0 0 [] [] _ ⟨_, _, rfl, ro_nil _, ro_nil _⟩ ⟨_, _, rfl, ro_nil _, ro_nil _⟩).mono ?_
      rintro e w6 ⟨rfl, k6⟩
      have K6 : Hid (Below w.heap.size w w6) := K5.out.trans (k6.mono K5.out.size)
      clear k6
      go_wp2
      go_ret
      exact ⟨rfl, K6⟩
    · rw [HP.out] at hp
      cases hp
  · have HP : Hid (Fd.parse s0.data.toList = .inr st) := hp
    have R1 : Hid (Ro w1 u1 st.gs) := r1
    have R2 : Hid (Ro w1 u2 st.os) := r2
    obtain ⟨p1, c1, rfl, -⟩ := r1
    obtain ⟨p2, c2, rfl, -⟩ := r2
    clear hp
    go_wp2_with fail
    have X1 := Bf.mk' (w := w1) st.W st.H (.slice p1 st.gs.length c1) (.slice p2 st.os.length c2) rfl
    have k2 : Below w1.heap.size w1 (w1.alloc (Obj.cells #[.int .i64 (st.W : Nat), .int .i64 (st.H : Nat), .slice p1 st.gs.length c1, .slice p2 st.os.length c2] 24)) := (Below.refl _ _).alloc (Nat.le_refl _) _
    generalize w1.alloc (Obj.cells #[.int .i64 (st.W : Nat), .int .i64 (st.H : Nat), .slice p1 st.gs.length c1, .slice p2 st.os.length c2] 24) = w2 at *
    have K2 : Hid (Below w.heap.size w w2) := K1.out.trans (k2.mono K1.out.size)
    have F2 : Hid (Fl w2 (.agg #[.int .i64 (st.W : Nat), .int .i64 (st.H : Nat), .slice p1 st.gs.length c1, .slice p2 st.os.length c2]) st.W st.H st.gs st.os) := ⟨_, _, rfl, R1.out.below k2, R2.out.below k2⟩
    have X2 : Hid (Bf w2 w1.heap.size st.W st.H (.slice p1 st.gs.length c1) (.slice p2 st.os.length c2)) := X1
    clear X1 k2 R1 R2
    refine (parse_any s0 _ HS.out).mono ?_
    rintro e w3 ⟨hr, k3⟩
    rcases hr with ⟨i', f', hp, rfl, hf⟩ | ⟨st', u1, u2, hp, rfl, r1, r2⟩
    · rw [HP.out] at hp
      cases hp
    · rw [HP.out] at hp
      injection hp with hp
      subst hp
      have K3 : Hid (Below w.heap.size w w3) := K2.out.trans (k3.mono K2.out.size)
      have X3 : Hid (Bf w3 w1.heap.size st.W st.H (.slice p1 st.gs.length c1) (.slice p2 st.os.length c2)) := X2.out.below k3 X2.out.lt
      have F3 : Hid (Fl w3 (.agg #[.int .i64 (st.W : Nat), .int .i64 (st.H : Nat), .slice p1 st.gs.length c1, .slice p2 st.os.length c2]) st.W st.H st.gs st.os) := F2.out.below k3
      have R1 : Hid (Ro w3 u1 st.gs) := r1
      have R2 : Hid (Ro w3 u2 st.os) := r2
      obtain ⟨q1, d1, rfl, -⟩ := r1
      obtain ⟨q2, d2, rfl, -⟩ := r2
      clear k3
      go_wp2_with fail
      have k4 : Below w3.heap.size w3 (w3.alloc (Obj.cells #[.int .i64 (st.W : Nat), .int .i64 (st.H : Nat), .slice q1 st.gs.length d1, .slice q2 st.os.length d2] 24)) := (Below.refl _ _).alloc (Nat.le_refl _) _
      have Y4 : Hid (Bf (w3.alloc (Obj.cells #[.int .i64 (st.W : Nat), .int .i64 (st.H : Nat), .slice q1 st.gs.length d1, .slice q2 st.os.length d2] 24)) w3.heap.size st.W st.H (.slice q1 st.gs.length d1) (.slice q2 st.os.length d2)) := Bf.mk' (w := w3) _ _ _ _ rfl
      generalize w3.alloc (Obj.cells #[.int .i64 (st.W : Nat), .int .i64 (st.H : Nat), .slice q1 st.gs.length d1, .slice q2 st.os.length d2] 24) = w4 at *
      have X4 : Hid (Bf w4 w1.heap.size st.W st.H (.slice p1 st.gs.length c1) (.slice p2 st.os.length c2)) := X3.out.below k4 X3.out.lt
      have F4 : Hid (Fl w4 (.agg #[.int .i64 (st.W : Nat), .int .i64 (st.H : Nat), .slice p1 st.gs.length c1, .slice p2 st.os.length c2]) st.W st.H st.gs st.os) := F3.out.below k4
      have E4 : Hid (Fl w4 (.agg #[.int .i64 (st.W : Nat), .int .i64 (st.H : Nat), .slice q1 st.gs.length d1, .slice q2 st.os.length d2]) st.W st.H st.gs st.os) := ⟨_, _, rfl, R1.out.below k4, R2.out.below k4⟩
      have K4 : Hid (Below w.heap.size w w4) := K3.out.trans (k4.mono K3.out.size)
      clear k4
      refine (same_nil _ _).mono ?_
      rintro e w5 ⟨rfl, rfl⟩
      obtain ⟨x0, x1, x2, x3⟩ := X4.out
      obtain ⟨y0, y1, y2, y3⟩ := Y4.out
      go_wp2_with fail
      refine (same_field _ _ st.W st.H st.gs st.os _ E4.out F4.out).mono ?_
      rintro e w6 ⟨rfl, k6⟩
      have K6 : Hid (Below w.heap.size w w6) := K4.out.trans (k6.mono K4.out.size)
      clear k6
      go_wp2
      go_ret
      exact ⟨rfl, K6⟩
end Go.Proofs.YthnfaflhecfnfaaDoor.fieldParses
