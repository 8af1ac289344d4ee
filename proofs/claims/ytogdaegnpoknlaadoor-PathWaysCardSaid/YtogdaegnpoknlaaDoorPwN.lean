/- Lands: the next cell on a way. -/
import Derived.Test.YtogdaegnpoknlaaDoorPwL
import Derived.Test.YtogdaegnpoknlaaDoorPwM
namespace Go.Proofs.YtogdaegnpoknlaaDoor
open Go.RowKit Wy
set_option linter.unusedVariables false

theorem enter_next : ∀ args w, (callFunc 34 args).run Tryd.prog w = .ok (.enter 34 args) w := by
  intro args w
  go_simp

theorem get_some {l : List Int} {i n : Nat} (hl : l.length = n) (h : i < n) : l[i]? = some (l.getD i 0) := by rw [List.getD_eq_getElem?_getD, List.getElem?_eq_getElem (by omega)]; rfl

set_option maxHeartbeats 2000000 in
theorem pn_any (z1 z2 z3 n : Nat) (u1 u2 uf : Value) (ss l : List Int) (i x : Nat) (w : World) (X : Bl w z1 u1 u2) (hu : Ro w u2 ss) (hf : Ro w uf l) (hl : ss.length = n) (hm : l.length = n) (c2 : w.cell? ⟨z2, 0, none⟩ = some uf) (c3 : w.cell? ⟨z3, 0, none⟩ = some (.int .i64 (i : Nat)))
    (hi : i < n) (hx : x < n) (hn : n ≤ 144) (bs : ∀ j, ss.getD j 0 ≤ 2) (bl : ∀ j, l.getD j 0 ≤ 288) :
    Calls Tryd.prog 34 #[.int .i64 (x : Nat), .pointer (some ⟨z1, 0, none⟩), .pointer (some ⟨z2, 0, none⟩), .pointer (some ⟨z3, 0, none⟩)] w fun e w' => e = .returned (.bool (pn ss l i x)) ∧ ∃ q, w' = w.drewN q := by
  obtain ⟨a, c, rfl, e1, e2, ca⟩ := hu
  obtain ⟨a', c', rfl, e1', e2', ca'⟩ := hf
  obtain ⟨y, rfl, -, hy⟩ := ca (by intro e; rw [e] at hl; simp at hl; omega)
  obtain ⟨y', rfl, -, hy'⟩ := ca' (by intro e; rw [e] at hm; simp at hm; omega)
  have cs := hy x _ (get_some hl hx)
  have cd := hy' x _ (get_some hm hx)
  have ce := hy' i _ (get_some hm hi)
  have P : Hid (pn ss l i x = (decide (0 < ss.getD x 0) && (decide (0 ≤ l.getD x 0) && decide (ss.getD x 0 + l.getD x 0 = l.getD i 0)))) := by unfold Hid pn; rw [Int.toNat_natCast]
  have b1 := bs x
  have b2 := bl x
  have x1 := X.c1
  rw [hl] at e1 x1
  rw [hm] at e1' c2
  generalize ss.getD x 0 = s at *
  generalize l.getD x 0 = d at *
  generalize l.getD i 0 = f at *
  clear hy hy' ca ca' X hl hm bs bl
  by_cases h1 : 0 < s
  · by_cases h2 : 0 ≤ d
    · by_cases h3 : s + d = f
      · have R : Hid (pn ss l i x = true) := by unfold Hid; rw [P.out, decide_eq_true h1, decide_eq_true h2, decide_eq_true h3]; rfl
        clear P
        go_enter Tryd.func34, Tryd.ntmps34
        go_wp2
        go_quiet (fail)
        go_wp2
        go_ret
        exact ⟨by rw [R.out]; rfl, _, rfl⟩
      · have R : Hid (pn ss l i x = false) := by unfold Hid; rw [P.out, decide_eq_true h1, decide_eq_true h2, decide_eq_false h3]; rfl
        have h3' : (s + d == f) = false := by simpa using h3
        clear P
        go_enter Tryd.func34, Tryd.ntmps34
        go_wp2
        go_quiet (fail)
        go_wp2
        go_ret
        exact ⟨by rw [R.out]; rfl, _, rfl⟩
    · have R : Hid (pn ss l i x = false) := by unfold Hid; rw [P.out, decide_eq_true h1, decide_eq_false h2]; rfl
      have h2' : decide (0 ≤ d) = false := decide_eq_false h2
      clear P
      go_enter Tryd.func34, Tryd.ntmps34
      go_wp2
      go_quiet (fail)
      go_wp2
      go_ret
      exact ⟨by rw [R.out]; rfl, _, rfl⟩
  · have R : Hid (pn ss l i x = false) := by unfold Hid; rw [P.out, decide_eq_false h1]; rfl
    have h1' : decide (0 < s) = false := decide_eq_false h1
    clear P
    go_enter Tryd.func34, Tryd.ntmps34
    go_wp2
    go_quiet (fail)
    go_wp2
    go_ret
    exact ⟨by rw [R.out]; rfl, _, rfl⟩

set_option maxHeartbeats 2000000 in
theorem next_ok (v uf : Value) (n i : Nat) (nb : Nat → List Int) (ss l : List Int) (w : World) (h : Ld w v n nb ss) (hf : Ro w uf l) (hm : l.length = n) (hi : i < n) (hn : n ≤ 144) (bs : ∀ j, ss.getD j 0 ≤ 2) (bl : ∀ j, l.getD j 0 ≤ 288)
    (E : ∀ x, x ∈ nb i → ∃ j : Nat, x = j ∧ j < n) (hx : ∃ x ∈ nb i, pn ss l i x = true) :
    Calls Tryd.prog 23 #[v, uf, .int .i64 (i : Nat)] w fun e w' => ∃ j : Nat, e = .returned (.int .i64 (j : Nat)) ∧ j < n ∧ Nx nb ss l i j ∧ Below w.heap.size w w' := by
  obtain ⟨r, hr⟩ := fst_ex (pn ss l i) (nb i)
  obtain ⟨k, j, rfl, hj, hk, hN⟩ := fst_nx E hr hx
  have HN : Hid (j < n ∧ Nx nb ss l i j) := ⟨hj, hN⟩
  obtain ⟨u1, u2, rfl, ⟨x, c, rfl, c1, c2, hb⟩, hr2, hl⟩ := h
  obtain ⟨ui, hui, hri⟩ := hb i hi
  have k0 : w.heap.size ≤ w.heap.size := Nat.le_refl _
  generalize hw1 : w.alloc (Obj.cells #[.slice (some x) n c, u2] 46) = w1
  have b1 : Below w.heap.size w w1 := by rw [← hw1]; exact (Below.refl _ _).alloc (Nat.le_refl _) _
  have X1 : Bl w1 w.heap.size (.slice (some x) n c) u2 := by rw [← hw1]; exact Bl.mk' _ _ rfl
  have z1 : w1.heap.size = w.heap.size + 1 := by rw [← hw1]; simp
  generalize hw2 : w1.alloc (Obj.cells #[uf] 22) = w2
  have b2 : Below w1.heap.size w1 w2 := by rw [← hw2]; exact (Below.refl _ _).alloc (Nat.le_refl _) _
  have d2 : w2.cell? ⟨w.heap.size + 1, 0, none⟩ = some uf := by rw [← hw2, ← z1]; simp
  have z2 : w2.heap.size = w.heap.size + 1 + 1 := by rw [← hw2]; simp [z1]
  generalize hw3 : w2.alloc (Obj.cells #[.int .i64 (i : Nat)] 3) = w3
  have b3 : Below w2.heap.size w2 w3 := by rw [← hw3]; exact (Below.refl _ _).alloc (Nat.le_refl _) _
  have d3 : w3.cell? ⟨w.heap.size + 1 + 1, 0, none⟩ = some (.int .i64 (i : Nat)) := by rw [← hw3, ← z2]; simp
  have b03 : Below w.heap.size w w3 := (b1.trans (b2.mono b1.size)).trans (b3.mono (Nat.le_trans b1.size b2.size))
  have X3 : Bl w3 w.heap.size (.slice (some x) n c) u2 := (X1.below b2 X1.lt).below b3 (Nat.lt_of_lt_of_le X1.lt b2.size)
  have d2' : w3.cell? ⟨w.heap.size + 1, 0, none⟩ = some uf := by rw [b3.cell (p := ⟨w.heap.size + 1, 0, none⟩) (by rw [z2]; exact Nat.lt_succ_self _)]; exact d2
  have ri3 : Ro w3 ui (nb i) := hri.below b03
  have hui3 : w3.cell? (x.add i) = some ui := by rw [b03.cell (p := x.add i) (cell_lt hui)]; exact hui
  have CI : Hid (∀ m, Calls Tryd.prog 35 #[ui, .func (Fn.func 34) #[] #[.pointer (some ⟨w.heap.size, 0, none⟩), .pointer (some ⟨w.heap.size + 1, 0, none⟩), .pointer (some ⟨w.heap.size + 1 + 1, 0, none⟩)]] (w3.drewN m) fun e w' => e = .returned (.int .i64 (k : Nat)) ∧ ∃ q, w' = (w3.drewN m).drewN q) := by
    intro m
    refine (idxf_any 34 enter_next ui _ (nb i) (pn ss l i) (w3.drewN m) (ri3.drewN m) ?_).mono ?_
    · intro m' y hy
      obtain ⟨y', rfl, hy'⟩ := E y hy
      rw [show (#[Value.int .i64 (y' : Nat)] ++ #[Value.pointer (some ⟨w.heap.size, 0, none⟩), Value.pointer (some ⟨w.heap.size + 1, 0, none⟩), Value.pointer (some ⟨w.heap.size + 1 + 1, 0, none⟩)] : Array Value) = #[.int .i64 (y' : Nat), .pointer (some ⟨w.heap.size, 0, none⟩), .pointer (some ⟨w.heap.size + 1, 0, none⟩), .pointer (some ⟨w.heap.size + 1 + 1, 0, none⟩)] from rfl]
      refine (pn_any w.heap.size (w.heap.size + 1) (w.heap.size + 1 + 1) n (.slice (some x) n c) u2 uf ss l i y' _ (X3.below (below_drewN (below_drewN (Below.refl _ _) _) _) X3.lt) (((hr2.below b03).drewN m).drewN m') (((hf.below b03).drewN m).drewN m') hl hm d2' d3 hi hy' hn bs bl).mono ?_
      rintro e w' ⟨h1, q, h2⟩
      exact ⟨h1, m' + q, by rw [h2, World.drewN_drewN]⟩
    · rintro e w' ⟨r, rfl, h2, q, h3⟩
      exact ⟨by rw [fst_uniq h2 hr], q, h3⟩
  have B3 : Hid (Below w.heap.size w w3) := b03
  have Hw : Hid (((w.alloc (Obj.cells #[.slice (some x) n c, u2] 46)).alloc (Obj.cells #[uf] 22)).alloc (Obj.cells #[.int .i64 (i : Nat)] 3) = w3) := by unfold Hid; rw [hw1, hw2, hw3]
  obtain ⟨ai, ci, rfl, g1, g2, ca⟩ := ri3
  have hkl : k < (nb i).length := (List.getElem?_eq_some_iff.1 hk).1
  obtain ⟨yi, rfl, -, hyi⟩ := ca (by intro e; rw [e] at hkl; simp at hkl)
  have ck := hyi k _ hk
  have x0 := X3.c0
  obtain ⟨af, cf, rfl, -⟩ := hf
  obtain ⟨a2, cc2, rfl, -⟩ := hr2
  clear hm hl hr hx hN hb hri hui k0 hw1 b1 X1 z1 hw2 b2 d2 z2 hw3 b3 b03 X3 d2' ca hyi hk E bs bl hj
  go_enter Tryd.func23, Tryd.ntmps23
  go_wp2_with fail
  rw [Hw.out]
  go_quiet ((go_at_call 35; exact Calls.quiet_of (CI.out _)))
  go_wp2
  go_ret
  exact ⟨j, rfl, HN.out.1, HN.out.2, below_drewN B3.out _⟩
end Go.Proofs.YtogdaegnpoknlaaDoor
