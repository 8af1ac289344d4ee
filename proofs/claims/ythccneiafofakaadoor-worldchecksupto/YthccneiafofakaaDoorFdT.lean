/- Fields: how far it is onto a cell (cut out of FdN, which wants field.sides). -/
import Derived.Test.YthccneiafofakaaDoorFdC
import Derived.Test.YthccneiafofakaaDoorLit
import Derived.Test.YthccneiafofakaaDoorFdOwn
namespace Go.Proofs.YthccneiafofakaaDoor
open Go.RowKit
set_option linter.unusedVariables false

theorem ask1_zero {F : Int} {n : Nat} {a : Int} (h : Fd.askFault F n [a] = 0) : F = 0 ∧ 0 ≤ a ∧ a < n := by
  unfold Fd.askFault at h
  split at h
  · omega
  · rename_i hF
    have hF : F = 0 := by omega
    split at h
    · rename_i hx
      simp at hx
      omega
    · omega
theorem ask1_good {W H : Nat} {gs os : List Int} {a : Nat} (G : Fd.Good W H gs os) (ha : a < W * H) : Fd.askFault (Fd.fault W H gs os) gs.length [(a : Int)] = 0 := by
  unfold Fd.askFault
  rw [Fd.fault_good G, if_neg (by decide), if_pos]
  rw [G.gl]
  simp
  omega
set_option maxHeartbeats 1000000 in
theorem step_any (g : Int) (fl : Bool) (w : World) :
    Calls Tryd.prog 135 #[.int .i64 g, .bool fl] w fun e w' => e = .returned (.int .i64 (Fd.onto g fl)) ∧ w' = w := by
  have O : Hid (∀ u, u = Fd.onto g fl → Ending.returned (.int .i64 u) = .returned (.int .i64 (Fd.onto g fl))) := fun u h => by rw [h]
  unfold Fd.onto at O
  by_cases h1 : g = 1
  · subst h1
    go_enter Tryd.func135, Tryd.ntmps135
    go_wp2
    go_ret
    exact ⟨O.out 0 rfl, rfl⟩
  · by_cases h2 : g = 2
    · subst h2
      cases fl
      · go_enter Tryd.func135, Tryd.ntmps135
        go_wp2
        go_ret
        exact ⟨O.out 0 rfl, rfl⟩
      · go_enter Tryd.func135, Tryd.ntmps135
        go_wp2
        go_ret
        exact ⟨O.out 1 rfl, rfl⟩
    · by_cases h3 : g = 3
      · subst h3
        cases fl
        · go_enter Tryd.func135, Tryd.ntmps135
          go_wp2
          go_ret
          exact ⟨O.out 2 rfl, rfl⟩
        · go_enter Tryd.func135, Tryd.ntmps135
          go_wp2
          go_ret
          exact ⟨O.out 1 rfl, rfl⟩
      · go_enter Tryd.func135, Tryd.ntmps135
        go_wp2
        go_ret
        exact ⟨O.out 1 (by rw [if_neg h1, if_neg h2, if_neg h3]), rfl⟩
set_option maxHeartbeats 1000000 in
theorem Step_ok (v : Value) (W H : Nat) (gs os : List Int) (a : Nat) (g : Int) (fl : Bool) (w : World) (h : Fl w v W H gs os) (G : Fd.Good W H gs os) (ha : a < W * H) (hg : gs[a]? = some g) :
    Calls Tryd.prog 114 #[v, .int .i64 (a : Nat), .bool fl] w fun e w' => e = .returned (.tuple #[.int .i64 (Fd.onto g fl), .nilIface]) ∧ Below w.heap.size w w' := by
  have F0 : Hid (Fl w v W H gs os) := h
  have HF : Hid (Fd.askFault (Fd.fault W H gs os) gs.length [(a : Int)] = 0) := ask1_good G ha
  obtain ⟨u1, u2, rfl, ⟨a1, c, rfl, c1, c2, ca⟩, ⟨b1, d, rfl, d1, d2, cb⟩⟩ := h
  have gl := G.gl
  have hal : a < gs.length := by omega
  have gp := G.pos.2
  obtain ⟨x, rfl, xl, hx⟩ := ca (by intro e; rw [e] at hal; simp at hal)
  have cx : Hid (w.cell? (x.add a) = some (.int .i64 g)) := hx a g hg
  have Xl : Hid (x.block < w.heap.size) := xl
  have gl2 : gs.length ≤ 144 := by omega
  clear cb hx xl G hg gl gp ha
  go_enter Tryd.func114, Tryd.ntmps114
  go_wp2_with fail
  refine (ask_any _ _ W H gs os [(a : Int)] _ (F0.out.below (((Below.refl _ _).alloc (Nat.le_refl _) _).alloc (by simp) _)) (Ro.lit1 (w := w.alloc _) a (by simp))).mono ?_
  rintro e w1 ⟨v1, rfl, hv, hb⟩
  have B1 : Hid (Below w.heap.size w w1) := (((Below.refl _ _).alloc (Nat.le_refl _) _).alloc (by simp) _).trans (hb.mono (by simp; omega))
  have X1 := ((Bf.mk' (w := w) W H (Value.slice (some x) gs.length c) (Value.slice b1 os.length d) rfl).below ((Below.refl _ _).alloc (Nat.le_refl _) (Obj.cells #[Value.int IntKind.i64 a] 3)) (by simp)).below hb (by simp; omega)
  have c2 := X1.c2
  have cg : w1.cell? (x.add a) = some (.int .i64 g) := by rw [B1.out.cell (p := x.add a) (by rw [add_block]; exact Xl.out)]; exact cx.out
  rw [HF.out] at hv
  clear hb X1
  rcases hv with ⟨hz, rfl⟩ | ⟨hz, rfl⟩
  · clear hz
    go_wp2_with fail
    refine (step_any _ _ _).mono ?_
    rintro e w2 ⟨rfl, rfl⟩
    go_wp2
    go_ret2
    exact ⟨rfl, B1⟩
  · exact absurd rfl hz
end Go.Proofs.YthccneiafofakaaDoor
