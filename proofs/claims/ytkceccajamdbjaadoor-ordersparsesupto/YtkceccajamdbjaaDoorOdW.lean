/- The program's orders: the numbers of the words for What. -/
import Derived.Test.YtkceccajamdbjaaDoorOdA
import Derived.Test.YtkceccajamdbjaaDoorKeep
import Derived.Maps.Own
import Derived.Maps.OwnSet
import Derived.Maps.OwnOps
import Derived.Maps.Views
import Derived.StringKeys
import Derived.Carry
import Derived.LoopN
namespace Go.Proofs.YtkceccajamdbjaaDoor
open Go.RowKit
set_option linter.unusedVariables false

/-- orders.names is laid. -/
structure Nm (w : World) : Prop where
  c0 : w.cell? ⟨0, 0, none⟩ = some (.string ⟨#[115, 116, 111, 112]⟩)
  c1 : w.cell? ⟨0, 1, none⟩ = some (.string ⟨#[109, 97, 114, 99, 104]⟩)
  c2 : w.cell? ⟨0, 2, none⟩ = some (.string ⟨#[103, 97, 116, 104, 101, 114]⟩)
  c3 : w.cell? ⟨0, 3, none⟩ = some (.string ⟨#[116, 114, 97, 105, 110]⟩)
theorem Nm.lt {w : World} (h : Nm w) : 0 < w.heap.size := cell_lt h.c0
theorem Nm.below {w w' : World} {B : Nat} (h : Nm w) (hb : Below B w w') (hB : w.heap.size ≤ B) : Nm w' := by
  have l := h.lt
  refine ⟨?_, ?_, ?_, ?_⟩
  · rw [hb.cell (p := ⟨0, 0, none⟩) (Nat.lt_of_lt_of_le l hB)]; exact h.c0
  · rw [hb.cell (p := ⟨0, 1, none⟩) (Nat.lt_of_lt_of_le l hB)]; exact h.c1
  · rw [hb.cell (p := ⟨0, 2, none⟩) (Nat.lt_of_lt_of_le l hB)]; exact h.c2
  · rw [hb.cell (p := ⟨0, 3, none⟩) (Nat.lt_of_lt_of_le l hB)]; exact h.c3

def W0 : DataW Unit := .map []
def W1 : DataW Unit := W0.put (.string Od.nStop) (.lit (.int .i64 0))
def W2 : DataW Unit := W1.put (.string Od.nMarch) (.lit (.int .i64 1))
def W3 : DataW Unit := W2.put (.string Od.nGather) (.lit (.int .i64 2))
def W4 : DataW Unit := W3.put (.string Od.nTrain) (.lit (.int .i64 3))
/-- block b is the map of the words for What. -/
def Wm (w : World) (b : Nat) (n : Nat) (D : DataW Unit) : Prop := w.ownsMap Tryd.prog 9 (plainElem Tryd.prog 3) b n D
theorem w_key {l : List UInt8} : WideAt.IsKeyLit (.string l) := by
  first | exact trivial | (unfold WideAt.IsKeyLit; trivial) | simp [WideAt.IsKeyLit]
theorem str_ne {a b : List UInt8} (h : a ≠ b) : (Lit.string a) ≠ .string b := fun e => h (by injection e)

theorem w4_has (l : List UInt8) : Maps.has W4 (.string l) = (Od.unname l).isSome := by
  have m0 : Maps.IsMap W0 := Maps.isMap_empty
  have m1 : Maps.IsMap W1 := m0.put _ _
  have m2 : Maps.IsMap W2 := m1.put _ _
  have m3 : Maps.IsMap W3 := m2.put _ _
  unfold Od.unname
  by_cases h3 : l = Od.nTrain
  · subst h3
    unfold W4
    rw [Maps.has_put_same m3 w_key]
    rfl
  · unfold W4
    rw [Maps.has_put_other (str_ne h3)]
    by_cases h2 : l = Od.nGather
    · subst h2
      unfold W3
      rw [Maps.has_put_same m2 w_key]
      rfl
    · unfold W3
      rw [Maps.has_put_other (str_ne h2)]
      by_cases h1 : l = Od.nMarch
      · subst h1
        unfold W2
        rw [Maps.has_put_same m1 w_key]
        rfl
      · unfold W2
        rw [Maps.has_put_other (str_ne h1)]
        by_cases h0 : l = Od.nStop
        · subst h0
          unfold W1
          rw [Maps.has_put_same m0 w_key]
          rfl
        · unfold W1
          rw [Maps.has_put_other (str_ne h0), if_neg h0, if_neg h1, if_neg h2, if_neg h3]
          rfl
theorem w4_at {l : List UInt8} {n : Int} (h : Od.unname l = some n) (z : DataW Unit) : W4.atKey (.string l) z = .lit (.int .i64 n) := by
  have m0 : Maps.IsMap W0 := Maps.isMap_empty
  have m1 : Maps.IsMap W1 := m0.put _ _
  have m2 : Maps.IsMap W2 := m1.put _ _
  have m3 : Maps.IsMap W3 := m2.put _ _
  unfold Od.unname at h
  by_cases h0 : l = Od.nStop
  · subst h0
    simp at h
    subst h
    unfold W4 W3 W2 W1
    rw [Maps.atKey_put_other (str_ne (by decide)), Maps.atKey_put_other (str_ne (by decide)), Maps.atKey_put_other (str_ne (by decide)), Maps.atKey_put_same m0 w_key]
  · rw [if_neg h0] at h
    by_cases h1 : l = Od.nMarch
    · subst h1
      simp at h
      subst h
      unfold W4 W3 W2
      rw [Maps.atKey_put_other (str_ne (by decide)), Maps.atKey_put_other (str_ne (by decide)), Maps.atKey_put_same m1 w_key]
    · rw [if_neg h1] at h
      by_cases h2 : l = Od.nGather
      · subst h2
        simp at h
        subst h
        unfold W4 W3
        rw [Maps.atKey_put_other (str_ne (by decide)), Maps.atKey_put_same m2 w_key]
      · rw [if_neg h2] at h
        by_cases h3 : l = Od.nTrain
        · subst h3
          simp at h
          subst h
          unfold W4
          rw [Maps.atKey_put_same m3 w_key]
        · rw [if_neg h3] at h
          cases h

theorem elem_int (n : Int) (h : (Lit.int .i64 n).wf = true) : plainElem (H := Unit) Tryd.prog 3 (.int .i64 n) = some (.lit (.int .i64 n), []) := plainElem_int Tryd.underlying3 h

theorem ix_name0 (w : World) : (Instr.index 102 (.agg #[.string ⟨#[115, 116, 111, 112]⟩, .string ⟨#[109, 97, 114, 99, 104]⟩, .string ⟨#[103, 97, 116, 104, 101, 114]⟩, .string ⟨#[116, 114, 97, 105, 110]⟩]) (.int .i64 0)).run Tryd.prog w = .ok (.string ⟨#[115, 116, 111, 112]⟩) w := by kernel_rfl
theorem ix_name1 (w : World) : (Instr.index 102 (.agg #[.string ⟨#[115, 116, 111, 112]⟩, .string ⟨#[109, 97, 114, 99, 104]⟩, .string ⟨#[103, 97, 116, 104, 101, 114]⟩, .string ⟨#[116, 114, 97, 105, 110]⟩]) (.int .i64 1)).run Tryd.prog w = .ok (.string ⟨#[109, 97, 114, 99, 104]⟩) w := by kernel_rfl
theorem ix_name2 (w : World) : (Instr.index 102 (.agg #[.string ⟨#[115, 116, 111, 112]⟩, .string ⟨#[109, 97, 114, 99, 104]⟩, .string ⟨#[103, 97, 116, 104, 101, 114]⟩, .string ⟨#[116, 114, 97, 105, 110]⟩]) (.int .i64 2)).run Tryd.prog w = .ok (.string ⟨#[103, 97, 116, 104, 101, 114]⟩) w := by kernel_rfl
theorem ix_name3 (w : World) : (Instr.index 102 (.agg #[.string ⟨#[115, 116, 111, 112]⟩, .string ⟨#[109, 97, 114, 99, 104]⟩, .string ⟨#[103, 97, 116, 104, 101, 114]⟩, .string ⟨#[116, 114, 97, 105, 110]⟩]) (.int .i64 3)).run Tryd.prog w = .ok (.string ⟨#[116, 114, 97, 105, 110]⟩) w := by kernel_rfl
set_option maxRecDepth 100000 in
set_option maxHeartbeats 4000000 in
theorem names_any (w : World) (hn : Nm w) :
    Calls Tryd.prog 39 #[] w fun e w' => ∃ b, e = .returned (.map (some b)) ∧ Wm w' b 4 W4 ∧ w.heap.size ≤ b ∧ Below w.heap.size w w' := by
  have hmm := @run_makeMap Tryd.prog
  have o0 : Wm (w.alloc (.map #[] 0)) w.heap.size 0 W0 := World.ownsMap_made _ _ _ _
  have b0 : Hid (Below w.heap.size w (w.alloc (.map #[] 0))) := (Below.refl _ _).alloc (Nat.le_refl _) _
  have n1 : Nm (w.alloc (.map #[] 0)) := hn.below b0.out (Nat.le_refl _)
  obtain ⟨c0, c1, c2, c3⟩ := n1
  have O0 : Hid (Wm (w.alloc (.map #[] 0)) w.heap.size 0 W0) := o0
  have i0 := ix_name0
  have i1 := ix_name1
  have i2 := ix_name2
  have i3 := ix_name3
  clear o0 hn
  go_enter Tryd.func39, Tryd.ntmps39
  go_wp2
  refine wp_loop_rounds 5 ?_
  obtain ⟨w1, r1, o1, g1⟩ : ∃ w', (Instr.mapUpdate 84 (.map (some w.heap.size)) (.string ⟨#[115, 116, 111, 112]⟩) (.int .i64 0)).run Tryd.prog (w.alloc (.map #[] 0)) = .ok () w' ∧ Wm w' w.heap.size 1 W1 ∧ (w.alloc (.map #[] 0)).grownBy w' (some w.heap.size) :=
    World.ownsMap.update O0.out (Maps.string_keyed Tryd.underlying9) Tryd.underlying84 (by decide) (WideMaps.keyOf_string_mk Tryd.underlying9 (by decide)) (elem_int 0 (by decide))
  have O1 : Hid (Wm w1 w.heap.size 1 W1) := o1
  have b1 : Hid (Below w.heap.size w w1) := b0.out.grown g1 b0.out.size (fun k hk => by cases hk; exact Nat.le_refl _)
  clear o1 g1
  rw [rounds_succ]
  go_wp2
  obtain ⟨w2, r2, o2, g2⟩ : ∃ w', (Instr.mapUpdate 84 (.map (some w.heap.size)) (.string ⟨#[109, 97, 114, 99, 104]⟩) (.int .i64 1)).run Tryd.prog w1 = .ok () w' ∧ Wm w' w.heap.size 2 W2 ∧ w1.grownBy w' (some w.heap.size) :=
    World.ownsMap.update O1.out (Maps.string_keyed Tryd.underlying9) Tryd.underlying84 (by decide) (WideMaps.keyOf_string_mk Tryd.underlying9 (by decide)) (elem_int 1 (by decide))
  have O2 : Hid (Wm w2 w.heap.size 2 W2) := o2
  have b2 : Hid (Below w.heap.size w w2) := b1.out.grown g2 b1.out.size (fun k hk => by cases hk; exact Nat.le_refl _)
  clear o2 g2
  rw [rounds_succ]
  go_wp2
  obtain ⟨w3, r3, o3, g3⟩ : ∃ w', (Instr.mapUpdate 84 (.map (some w.heap.size)) (.string ⟨#[103, 97, 116, 104, 101, 114]⟩) (.int .i64 2)).run Tryd.prog w2 = .ok () w' ∧ Wm w' w.heap.size 3 W3 ∧ w2.grownBy w' (some w.heap.size) :=
    World.ownsMap.update O2.out (Maps.string_keyed Tryd.underlying9) Tryd.underlying84 (by decide) (WideMaps.keyOf_string_mk Tryd.underlying9 (by decide)) (elem_int 2 (by decide))
  have O3 : Hid (Wm w3 w.heap.size 3 W3) := o3
  have b3 : Hid (Below w.heap.size w w3) := b2.out.grown g3 b2.out.size (fun k hk => by cases hk; exact Nat.le_refl _)
  clear o3 g3
  rw [rounds_succ]
  go_wp2
  obtain ⟨w4, r4, o4, g4⟩ : ∃ w', (Instr.mapUpdate 84 (.map (some w.heap.size)) (.string ⟨#[116, 114, 97, 105, 110]⟩) (.int .i64 3)).run Tryd.prog w3 = .ok () w' ∧ Wm w' w.heap.size 4 W4 ∧ w3.grownBy w' (some w.heap.size) :=
    World.ownsMap.update O3.out (Maps.string_keyed Tryd.underlying9) Tryd.underlying84 (by decide) (WideMaps.keyOf_string_mk Tryd.underlying9 (by decide)) (elem_int 3 (by decide))
  have O4 : Hid (Wm w4 w.heap.size 4 W4) := o4
  have b4 : Hid (Below w.heap.size w w4) := b3.out.grown g4 b3.out.size (fun k hk => by cases hk; exact Nat.le_refl _)
  clear o4 g4
  rw [rounds_succ]
  go_wp2
  rw [rounds_succ]
  go_wp2
  go_ret
  exact ⟨_, rfl, O4, Nat.le_refl _, b4⟩
end Go.Proofs.YtkceccajamdbjaaDoor
