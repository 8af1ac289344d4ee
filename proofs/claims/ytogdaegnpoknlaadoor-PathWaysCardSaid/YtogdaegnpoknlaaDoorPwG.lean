/- The calls of package path: what they say where something is wrong; how far it is. -/
import Derived.Test.YtogdaegnpoknlaaDoorPwE
import Derived.Test.YtogdaegnpoknlaaDoorPwF
import Derived.Test.YtogdaegnpoknlaaDoorPwM
namespace Go.Proofs.YtogdaegnpoknlaaDoor
open Go.RowKit Wy
set_option linter.unusedVariables false

theorem onto_two (g : Int) (fl : Bool) : Fd.onto g fl ≤ 2 := by
  unfold Fd.onto
  repeat' split
  all_goals omega
theorem ss_two (gs : List Int) (fl : Bool) (j : Nat) : (gs.map fun g => Fd.onto g fl).getD j 0 ≤ 2 := by
  rw [List.getD_eq_getElem?_getD, List.getElem?_map]
  cases gs[j]? with
  | none => exact (by decide : (0 : Int) ≤ 2)
  | some g => exact onto_two g fl
theorem even_to {W H : Nat} (hW : 0 < W) (gs : List Int) (fl : Bool) : Even (Fd.near W H) (fun _ j => (gs.map fun g => Fd.onto g fl).getD j 0) (W * H) := even_near hW fun _ j => ss_two gs fl j
theorem even_from {W H : Nat} (hW : 0 < W) (gs : List Int) (fl : Bool) : Even (Fd.near W H) (fun i _ => (gs.map fun g => Fd.onto g fl).getD i 0) (W * H) := even_near hW fun i _ => ss_two gs fl i
theorem flat_le {n : Nat} {l : List Int} (h : Flat l) (hl : l.length = n) (hn : n ≤ 144) (j : Nat) : l.getD j 0 ≤ 288 := by
  rw [List.getD_eq_getElem?_getD]
  cases hx : l[j]? with
  | none => decide
  | some x =>
    have h1 := h j x hx
    have h2 := told_le l
    show x ≤ 288
    omega

theorem ask_all {F : Int} {n : Nat} {xs : List Int} : Fd.askFault F n xs = if F ≠ 0 then F else if xs.any (fun x => !decide (0 ≤ x ∧ x < (n : Int))) then 6 else 0 := by
  unfold Fd.askFault
  split
  · rfl
  · cases hx : xs.all (fun x => decide (0 ≤ x ∧ x < (n : Int))) with
    | true =>
      rw [if_pos rfl, if_neg]
      rw [List.all_eq_true] at hx
      simp only [List.any_eq_true, Bool.not_eq_true', not_exists, not_and]
      intro x hm
      rw [hx x hm]
      decide
    | false =>
      rw [if_neg (by decide), if_pos]
      rw [List.all_eq_false] at hx
      obtain ⟨x, hm, hx⟩ := hx
      exact List.any_eq_true.2 ⟨x, hm, by rw [Bool.not_eq_true] at hx; rw [hx]; rfl⟩

theorem look_no (v u : Value) (W H : Int) (gs os xs : List Int) (F : Int) (fl : Bool) (w : World) (h : Fl w v W H gs os) (hs : Sd w) (hu : Ro w u xs) (hF : Fd.askFault (Fd.fault W H gs os) gs.length xs = F) (h0 : F ≠ 0) :
    Calls Tryd.prog 20 #[v, .bool fl, u] w fun e w' => e = .returned (.tuple #[.agg #[.slice none 0 0, .slice none 0 0], .iface 50 (.int .i64 F)]) ∧ Below w.heap.size w w' := by
  rw [ask_all] at hF
  by_cases hf : Fd.fault W H gs os = 0
  · obtain ⟨W', H', rfl, rfl, G⟩ := Fd.fault_zero hf
    rw [if_neg (by rw [hf]; decide)] at hF
    have gl := G.gl
    cases hx : xs.any (fun x => !decide (0 ≤ x ∧ x < (gs.length : Int))) with
    | true =>
      rw [hx, if_pos rfl] at hF
      subst hF
      rw [gl] at hx
      exact look_none v u W' H' gs os xs fl w h G hs hu hx
    | false =>
      rw [hx] at hF
      exact absurd hF.symm h0
  · rw [if_pos hf] at hF
    exact look_bad v u W H gs os F fl w h hF h0

set_option maxHeartbeats 1000000 in
theorem Far_bad (v : Value) (W H : Int) (gs os : List Int) (a F : Int) (fl : Bool) (w : World) (h : Fl w v W H gs os) (hs : Sd w) (hF : Fd.askFault (Fd.fault W H gs os) gs.length [a] = F) (h0 : F ≠ 0) :
    Calls Tryd.prog 8 #[v, .int .i64 a, .bool fl] w fun e w' => e = .returned (.tuple #[.slice none 0 0, .iface 50 (.int .i64 F)]) ∧ Below w.heap.size w w' := by
  have F0 : Hid (Fl w v W H gs os) := h
  have S0 : Hid (Sd w) := hs
  have HF : Hid (Fd.askFault (Fd.fault W H gs os) gs.length [a] = F) := hF
  have H0 : Hid (F ≠ 0) := h0
  obtain ⟨u1, u2, rfl, ⟨a1, c, rfl, c1, c2, ca⟩, ⟨b1, d, rfl, d1, d2, cb⟩⟩ := h
  clear hF h0 ca cb hs
  go_enter Tryd.func8, Tryd.ntmps8
  go_wp2_with fail
  have b0 : Below w.heap.size w ((w.alloc (Obj.cells #[.int .i64 W, .int .i64 H, .slice a1 gs.length c, .slice b1 os.length d] 24)).alloc (Obj.cells #[.int .i64 a] 3)) := ((Below.refl _ _).alloc (Nat.le_refl _) _).alloc (by simp) _
  refine (look_no _ _ W H gs os [a] F fl _ (F0.out.below b0) (S0.out.below b0) (Ro.lit1 (w := w.alloc _) a (by simp)) HF.out H0.out).mono ?_
  rintro e w1 ⟨rfl, hb⟩
  have B1 : Hid (Below w.heap.size w w1) := b0.trans (hb.mono (by simp; omega))
  clear hb b0
  go_wp2
  go_ret2
  exact ⟨rfl, B1.out.alloc B1.out.size _⟩

set_option maxHeartbeats 1000000 in
theorem Far_ok (v : Value) (W H : Nat) (gs os : List Int) (a : Nat) (fl : Bool) (w : World) (h : Fl w v W H gs os) (hs : Sd w) (G : Fd.Good W H gs os) (ha : a < W * H) :
    Calls Tryd.prog 8 #[v, .int .i64 (a : Nat), .bool fl] w fun e w' => ∃ u l, e = .returned (.tuple #[u, .nilIface]) ∧ Ro w' u l ∧ (IsFar (Fd.near W H) (fun _ j => (gs.map fun g => Fd.onto g fl).getD j 0) a (W * H) l ∧ Flat l) ∧ Below w.heap.size w w' := by
  have F0 : Hid (Fl w v W H gs os) := h
  have S0 : Hid (Sd w) := hs
  have G0 : Hid (Fd.Good W H gs os) := G
  have A0 : Hid (a < W * H) := ha
  obtain ⟨u1, u2, rfl, ⟨a1, c, rfl, c1, c2, ca⟩, ⟨b1, d, rfl, d1, d2, cb⟩⟩ := h
  obtain ⟨ss, hss⟩ : ∃ ss, (gs.map fun g => Fd.onto g fl) = ss := ⟨_, rfl⟩
  have Hss : Hid ((gs.map fun g => Fd.onto g fl) = ss) := hss
  have E0 : Hid (Even (Fd.near W H) (fun _ j => ss.getD j 0) (W * H)) := by rw [← hss]; exact even_to G.w1 gs fl
  rw [hss]
  clear ca cb hs G ha hss
  go_enter Tryd.func8, Tryd.ntmps8
  go_wp2_with fail
  have b0 : Below w.heap.size w ((w.alloc (Obj.cells #[.int .i64 W, .int .i64 H, .slice a1 gs.length c, .slice b1 os.length d] 24)).alloc (Obj.cells #[.int .i64 (a : Nat)] 3)) := ((Below.refl _ _).alloc (Nat.le_refl _) _).alloc (by simp) _
  refine (look_ok _ _ W H gs os [(a : Int)] fl _ (F0.out.below b0) G0.out (S0.out.below b0) (Ro.lit1 (w := w.alloc _) (a : Int) (by simp)) (by have := A0.out; simp; omega)).mono ?_
  rintro e w1 ⟨⟨v1, rfl, hL⟩, hb⟩
  rw [Hss.out] at hL
  have B1 : Hid (Below w.heap.size w w1) := b0.trans (hb.mono (by simp; omega))
  have L1 : Hid (Ld w1 v1 (W * H) (Fd.near W H) ss) := hL
  obtain ⟨p1, p2, rfl, ⟨x1, k1, rfl, -⟩, ⟨x2, k2, rfl, -⟩, -⟩ := hL
  clear hb b0
  go_wp2_with fail
  have b2 : Below w1.heap.size w1 (w1.alloc (Obj.cells #[.slice (some x1) (W * H) k1, .slice x2 ss.length k2] 46)) := (Below.refl _ _).alloc (Nat.le_refl _) _
  refine (farTo_ok _ (W * H) a (Fd.near W H) ss _ (L1.out.below b2) E0.out A0.out G0.out.pos.2 (Fd.near_len W H)).mono ?_
  rintro e w2 ⟨b, l, rfl, hbz, hbk, hf, hb⟩
  have P : Hid (Ro w2 (.slice (some ⟨b, 0, none⟩) (W * H) (W * H)) l ∧ (IsFar (Fd.near W H) (fun _ j => ss.getD j 0) a (W * H) l ∧ Flat l) ∧ Below w.heap.size w w2) := by
    refine ⟨?_, hf, (B1.out.trans (b2.mono B1.out.size)).trans (hb.mono (Nat.le_trans B1.out.size b2.size))⟩
    have := hbk.ro (c := W * H) (by rw [hf.1.1]; exact Nat.le_refl _) (by have := G0.out.pos.2; omega)
    rw [hf.1.1] at this
    exact this
  clear hbz hbk hf hb b2
  go_wp2
  go_ret2
  exact ⟨_, l, rfl, P.out.1, P.out.2.1, P.out.2.2⟩
end Go.Proofs.YtogdaegnpoknlaaDoor
