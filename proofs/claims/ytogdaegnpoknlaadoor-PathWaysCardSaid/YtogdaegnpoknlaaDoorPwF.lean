/- Lands: how far it is to a cell, and from one. -/
import Derived.Test.YtogdaegnpoknlaaDoorPwS
namespace Go.Proofs.YtogdaegnpoknlaaDoor
open Go.RowKit Wy
set_option linter.unusedVariables false

theorem enter_to : ∀ args w, (callFunc 32 args).run Tryd.prog w = .ok (.enter 32 args) w := by
  intro args w
  go_simp
theorem enter_from : ∀ args w, (callFunc 36 args).run Tryd.prog w = .ok (.enter 36 args) w := by
  intro args w
  go_simp

set_option maxHeartbeats 1000000 in
theorem on_to (z n : Nat) (u1 u2 : Value) (ss : List Int) (i j : Nat) (w : World) (X : Bl w z u1 u2) (hu : Ro w u2 ss) (hl : ss.length = n) (hi : i < n) :
    Calls Tryd.prog 32 #[.int .i64 (i : Nat), .int .i64 (j : Nat), .pointer (some ⟨z, 0, none⟩)] w fun e w' => e = .returned (.int .i64 (ss.getD i 0)) ∧ w' = w := by
  obtain ⟨a, c, rfl, c1, c2, ca⟩ := hu
  obtain ⟨x, rfl, -, hx⟩ := ca (by intro e; rw [e] at hl; simp at hl; omega)
  have e : ss[i]? = some (ss.getD i 0) := by rw [List.getD_eq_getElem?_getD, List.getElem?_eq_getElem (by omega)]; rfl
  have cx := hx i _ e
  have x1 := X.c1
  generalize ss.getD i 0 = s at *
  rw [hl] at *
  clear hx ca e X
  go_enter Tryd.func32, Tryd.ntmps32
  go_wp2
  go_ret
  exact ⟨rfl, rfl⟩

set_option maxHeartbeats 1000000 in
theorem on_from (z n : Nat) (u1 u2 : Value) (ss : List Int) (i j : Nat) (w : World) (X : Bl w z u1 u2) (hu : Ro w u2 ss) (hl : ss.length = n) (hi : j < n) :
    Calls Tryd.prog 36 #[.int .i64 (i : Nat), .int .i64 (j : Nat), .pointer (some ⟨z, 0, none⟩)] w fun e w' => e = .returned (.int .i64 (ss.getD j 0)) ∧ w' = w := by
  obtain ⟨a, c, rfl, c1, c2, ca⟩ := hu
  obtain ⟨x, rfl, -, hx⟩ := ca (by intro e; rw [e] at hl; simp at hl; omega)
  have e : ss[j]? = some (ss.getD j 0) := by rw [List.getD_eq_getElem?_getD, List.getElem?_eq_getElem (by omega)]; rfl
  have cx := hx j _ e
  have x1 := X.c1
  generalize ss.getD j 0 = s at *
  rw [hl] at *
  clear hx ca e X
  go_enter Tryd.func36, Tryd.ntmps36
  go_wp2
  go_ret
  exact ⟨rfl, rfl⟩

set_option maxHeartbeats 1000000 in
theorem farTo_ok (v : Value) (n t : Nat) (nb : Nat → List Int) (ss : List Int) (w : World) (h : Ld w v n nb ss) (E : Even nb (fun _ j => ss.getD j 0) n) (ht : t < n) (hn : n ≤ 144) (h4 : ∀ i, (nb i).length ≤ 4) :
    Calls Tryd.prog 21 #[v, .int .i64 (t : Nat)] w fun e w' => ∃ b l, e = .returned (.slice (some ⟨b, 0, none⟩) n n) ∧ w.heap.size ≤ b ∧ Bk w' b l #[] ∧ (IsFar nb (fun _ j => ss.getD j 0) t n l ∧ Flat l) ∧ Below w.heap.size w w' := by
  have L0 : Hid (Ld w v n nb ss) := h
  have E0 : Hid (Even nb (fun _ j => ss.getD j 0) n) := E
  have T0 : Hid (t < n ∧ n ≤ 144 ∧ ∀ i, (nb i).length ≤ 4) := ⟨ht, hn, h4⟩
  obtain ⟨u1, u2, rfl, hb1, hr2, hl⟩ := h
  have R2 : Hid (Ro w u2 ss ∧ ss.length = n) := ⟨hr2, hl⟩
  obtain ⟨x1, c1, e1, -⟩ := hb1
  obtain ⟨x2, c2, e2, -⟩ := hr2
  clear ht hn h4 E hl
  have b0 : Below w.heap.size w (w.alloc (Obj.cells #[u1, u2] 46)) := (Below.refl _ _).alloc (Nat.le_refl _) _
  have X0 : Hid (Bl (w.alloc (Obj.cells #[u1, u2] 46)) w.heap.size u1 u2) := Bl.mk' u1 u2 rfl
  have B0 : Hid (Below w.heap.size w (w.alloc (Obj.cells #[u1, u2] 46))) := b0
  clear b0
  have hon : ∀ w' (i j : Nat), i < n → j < n → Below (w.alloc (Obj.cells #[u1, u2] 46)).heap.size (w.alloc (Obj.cells #[u1, u2] 46)) w' → Calls Tryd.prog 32 #[.int .i64 (i : Nat), .int .i64 (j : Nat), .pointer (some ⟨w.heap.size, 0, none⟩)] w' fun e w'' => e = .returned (.int .i64 ((fun _ j => ss.getD j 0) j i)) ∧ w'' = w' := fun w' i j hi hj hb =>
    on_to w.heap.size n u1 u2 ss i j w' (X0.out.below hb X0.out.lt) ((R2.out.1.below B0.out).below hb) R2.out.2 hi
  have Ho : Hid (∀ w' (i j : Nat), i < n → j < n → Below (w.alloc (Obj.cells #[u1, u2] 46)).heap.size (w.alloc (Obj.cells #[u1, u2] 46)) w' → Calls Tryd.prog 32 #[.int .i64 (i : Nat), .int .i64 (j : Nat), .pointer (some ⟨w.heap.size, 0, none⟩)] w' fun e w'' => e = .returned (.int .i64 ((fun _ j => ss.getD j 0) j i)) ∧ w'' = w') := hon
  clear hon
  subst e1
  subst e2
  go_enter Tryd.func21, Tryd.ntmps21
  go_wp2_with fail
  refine (spread_ok 32 enter_to _ _ n t nb ss _ _ (L0.out.below B0.out) E0.out T0.out.1 T0.out.2.1 T0.out.2.2 Ho.out).mono ?_
  rintro e w1 ⟨b, l, rfl, hbz, hbk, hf, hb⟩
  have P : Hid (w.heap.size ≤ b ∧ Bk w1 b l #[] ∧ (IsFar nb (fun _ j => ss.getD j 0) t n l ∧ Flat l) ∧ Below w.heap.size w w1) := ⟨Nat.le_trans B0.out.size hbz, hbk, hf, B0.out.trans (hb.mono B0.out.size)⟩
  clear hbz hbk hf hb Ho
  go_wp2
  go_ret
  exact ⟨b, l, rfl, P.out.1, P.out.2.1, P.out.2.2.1, P.out.2.2.2⟩

set_option maxHeartbeats 1000000 in
theorem farFrom_ok (v : Value) (n t : Nat) (nb : Nat → List Int) (ss : List Int) (w : World) (h : Ld w v n nb ss) (E : Even nb (fun i _ => ss.getD i 0) n) (ht : t < n) (hn : n ≤ 144) (h4 : ∀ i, (nb i).length ≤ 4) :
    Calls Tryd.prog 24 #[v, .int .i64 (t : Nat)] w fun e w' => ∃ b l, e = .returned (.slice (some ⟨b, 0, none⟩) n n) ∧ w.heap.size ≤ b ∧ Bk w' b l #[] ∧ (IsFar nb (fun i _ => ss.getD i 0) t n l ∧ Flat l) ∧ Below w.heap.size w w' := by
  have L0 : Hid (Ld w v n nb ss) := h
  have E0 : Hid (Even nb (fun i _ => ss.getD i 0) n) := E
  have T0 : Hid (t < n ∧ n ≤ 144 ∧ ∀ i, (nb i).length ≤ 4) := ⟨ht, hn, h4⟩
  obtain ⟨u1, u2, rfl, hb1, hr2, hl⟩ := h
  have R2 : Hid (Ro w u2 ss ∧ ss.length = n) := ⟨hr2, hl⟩
  obtain ⟨x1, c1, e1, -⟩ := hb1
  obtain ⟨x2, c2, e2, -⟩ := hr2
  clear ht hn h4 E hl
  have b0 : Below w.heap.size w (w.alloc (Obj.cells #[u1, u2] 46)) := (Below.refl _ _).alloc (Nat.le_refl _) _
  have X0 : Hid (Bl (w.alloc (Obj.cells #[u1, u2] 46)) w.heap.size u1 u2) := Bl.mk' u1 u2 rfl
  have B0 : Hid (Below w.heap.size w (w.alloc (Obj.cells #[u1, u2] 46))) := b0
  clear b0
  have hon : ∀ w' (i j : Nat), i < n → j < n → Below (w.alloc (Obj.cells #[u1, u2] 46)).heap.size (w.alloc (Obj.cells #[u1, u2] 46)) w' → Calls Tryd.prog 36 #[.int .i64 (i : Nat), .int .i64 (j : Nat), .pointer (some ⟨w.heap.size, 0, none⟩)] w' fun e w'' => e = .returned (.int .i64 ((fun i _ => ss.getD i 0) j i)) ∧ w'' = w' := fun w' i j hi hj hb =>
    on_from w.heap.size n u1 u2 ss i j w' (X0.out.below hb X0.out.lt) ((R2.out.1.below B0.out).below hb) R2.out.2 hj
  have Ho : Hid (∀ w' (i j : Nat), i < n → j < n → Below (w.alloc (Obj.cells #[u1, u2] 46)).heap.size (w.alloc (Obj.cells #[u1, u2] 46)) w' → Calls Tryd.prog 36 #[.int .i64 (i : Nat), .int .i64 (j : Nat), .pointer (some ⟨w.heap.size, 0, none⟩)] w' fun e w'' => e = .returned (.int .i64 ((fun i _ => ss.getD i 0) j i)) ∧ w'' = w') := hon
  clear hon
  subst e1
  subst e2
  go_enter Tryd.func24, Tryd.ntmps24
  go_wp2_with fail
  refine (spread_ok 36 enter_from _ _ n t nb ss _ _ (L0.out.below B0.out) E0.out T0.out.1 T0.out.2.1 T0.out.2.2 Ho.out).mono ?_
  rintro e w1 ⟨b, l, rfl, hbz, hbk, hf, hb⟩
  have P : Hid (w.heap.size ≤ b ∧ Bk w1 b l #[] ∧ (IsFar nb (fun i _ => ss.getD i 0) t n l ∧ Flat l) ∧ Below w.heap.size w w1) := ⟨Nat.le_trans B0.out.size hbz, hbk, hf, B0.out.trans (hb.mono B0.out.size)⟩
  clear hbz hbk hf hb Ho
  go_wp2
  go_ret
  exact ⟨b, l, rfl, P.out.1, P.out.2.1, P.out.2.2.1, P.out.2.2.2⟩
end Go.Proofs.YtogdaegnpoknlaaDoor
