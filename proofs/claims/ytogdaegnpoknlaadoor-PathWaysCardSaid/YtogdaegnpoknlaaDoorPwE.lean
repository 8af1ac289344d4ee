/- What every call on a path says first. -/
import Derived.Test.YtogdaegnpoknlaaDoorPwW
import Derived.Test.YtogdaegnpoknlaaDoorIdx
import Derived.Deep.DeepCutAuto
namespace Go.Proofs.YtogdaegnpoknlaaDoor
open Go.RowKit
set_option linter.unusedVariables false

theorem enter_none : ∀ args w, (callFunc 29 args).run Tryd.prog w = .ok (.enter 29 args) w := by
  intro args w
  go_simp

set_option maxHeartbeats 1000000 in
theorem nocell_any (x : Int) (b n c : Nat) (a : Option Addr) (w : World) (hb : w.cell? ⟨b, 0, none⟩ = some (.slice a n c)) (hn : n ≤ 144) :
    Calls Tryd.prog 29 #[.int .i64 x, .pointer (some ⟨b, 0, none⟩)] w fun e w' => e = .returned (.bool (!decide (0 ≤ x ∧ x < n))) ∧ w' = w := by
  by_cases h1 : x < 0
  · go_enter Tryd.func29, Tryd.ntmps29
    go_wp2
    go_ret
    exact ⟨by rw [decide_eq_false (by omega)]; rfl, rfl⟩
  · by_cases h2 : (n : Int) ≤ x
    · go_enter Tryd.func29, Tryd.ntmps29
      go_wp2
      go_ret
      exact ⟨by rw [decide_eq_false (by omega)]; rfl, rfl⟩
    · go_enter Tryd.func29, Tryd.ntmps29
      go_wp2
      go_ret
      exact ⟨rfl, rfl⟩

/-- a box for a land, that may be written. -/
structure Wl (w : World) (z : Nat) (a b : Value) : Prop where
  c0 : w.cell? ⟨z, 0, none⟩ = some a
  c1 : w.cell? ⟨z, 1, none⟩ = some b
  f0 : w.frozen? ⟨z, 0, none⟩ = false
  f1 : w.frozen? ⟨z, 1, none⟩ = false
theorem Wl.mk' {w : World} {z : Nat} {a b : Value} (h : w.heap[z]? = some (.cells #[a, b] 46 (0, 0))) : Wl w z a b :=
  ⟨by simp [World.cell?, h], by simp [World.cell?, h], by simp [World.frozen?, h], by simp [World.frozen?, h]⟩

set_option maxHeartbeats 1000000 in
theorem look_bad (v u : Value) (W H : Int) (gs os : List Int) (F : Int) (fl : Bool) (w : World) (h : Fl w v W H gs os) (hF : Fd.fault W H gs os = F) (h0 : F ≠ 0) :
    Calls Tryd.prog 20 #[v, .bool fl, u] w fun e w' => e = .returned (.tuple #[.agg #[.slice none 0 0, .slice none 0 0], .iface 50 (.int .i64 F)]) ∧ Below w.heap.size w w' := by
  have F0 : Hid (Fl w v W H gs os) := h
  have HF : Hid (Fd.fault W H gs os = F) := hF
  have H0 : Hid (F ≠ 0) := h0
  obtain ⟨u1, u2, rfl, ⟨a1, c, rfl, c1, c2, ca⟩, ⟨b1, d, rfl, d1, d2, cb⟩⟩ := h
  clear hF h0 ca cb
  go_enter Tryd.func20, Tryd.ntmps20
  go_wp2_with fail
  refine (Ways_bad _ W H gs os F fl _ (F0.out.below (((Below.refl _ _).alloc (Nat.le_refl _) _).alloc (by simp) _)) HF.out H0.out).mono ?_
  rintro e w1 ⟨rfl, hb⟩
  have B1 : Hid (Below w.heap.size w w1) := (((Below.refl _ _).alloc (Nat.le_refl _) _).alloc (by simp) _).trans (hb.mono (by simp; omega))
  have blk : Hid (w1.heap[w.heap.size + 1]? = some (.cells #[.slice none 0 0, .slice none 0 0] 46 (0, 0))) := by
    unfold Hid
    rw [hb.block (w.heap.size + 1) (by simp)]
    have := heap_alloc_new (w.alloc (Obj.cells #[.int .i64 W, .int .i64 H, .slice a1 gs.length c, .slice b1 os.length d] 24)) (Obj.cells #[.slice none 0 0, .slice none 0 0] 46)
    simpa using this
  clear hb
  have blk2 : (w1.alloc (Obj.cells #[.slice none 0 0] 22)).heap[w.heap.size + 1]? = some (.cells #[.slice none 0 0, .slice none 0 0] 46 (0, 0)) := by
    rw [heap_alloc_old w1 _ (lt_of_block blk.out)]
    exact blk.out
  have B2 : Hid (Below w.heap.size w (w1.alloc (Obj.cells #[.slice none 0 0] 22))) := B1.out.alloc B1.out.size _
  go_upto_region 2 with fail
  generalize w1.alloc (Obj.cells #[.slice none 0 0] 22) = w2 at *
  obtain ⟨c0, c1, f0, f1⟩ := Wl.mk' blk2
  clear blk blk2 B1
  go_wp2
  refine bodyPost_ret (v := .tuple #[.agg #[.slice none 0 0, .slice none 0 0], .iface 50 (.int .i64 F)]) (by simp [results, Tryd.results20, go_sem, c0, c1]) rfl ?_
  exact ⟨rfl, (B2.out.setCell (Nat.le_succ _) _).setCell (Nat.le_succ _) _⟩

set_option maxHeartbeats 2000000 in
theorem look_none (v u : Value) (W H : Nat) (gs os xs : List Int) (fl : Bool) (w : World) (h : Fl w v W H gs os) (G : Fd.Good W H gs os) (hs : Sd w) (hu : Ro w u xs) (hx : xs.any (fun x => !decide (0 ≤ x ∧ x < ((W * H : Nat) : Int))) = true) :
    Calls Tryd.prog 20 #[v, .bool fl, u] w fun e w' => e = .returned (.tuple #[.agg #[.slice none 0 0, .slice none 0 0], .iface 50 (.int .i64 6)]) ∧ Below w.heap.size w w' := by
  have F0 : Hid (Fl w v W H gs os) := h
  have S0 : Hid (Sd w) := hs
  have G0 : Hid (Fd.Good W H gs os) := G
  have U0 : Hid (Ro w u xs) := hu
  have Hx : Hid (xs.any (fun x => !decide (0 ≤ x ∧ x < ((W * H : Nat) : Int))) = true) := hx
  obtain ⟨u1, u2, rfl, ⟨a1, c, rfl, c1, c2, ca⟩, ⟨b1, d, rfl, d1, d2, cb⟩⟩ := h
  clear hs hu hx ca cb
  have Gp : Hid (W * H ≤ 144) := G.pos.2
  have Gq : Hid (0 < W * H) := by have := G.pos.1; unfold Hid; omega
  have Gl : Hid (gs.length = W * H) := G.gl
  clear G
  go_enter Tryd.func20, Tryd.ntmps20
  go_wp2_with fail
  have b0 : Below w.heap.size w ((w.alloc (Obj.cells #[.int .i64 W, .int .i64 H, .slice a1 gs.length c, .slice b1 os.length d] 24)).alloc (Obj.cells #[.slice none 0 0, .slice none 0 0] 46)) := ((Below.refl _ _).alloc (Nat.le_refl _) _).alloc (by simp) _
  refine (Ways_ok _ W H gs os fl _ (F0.out.below b0) G0.out (S0.out.below b0)).mono ?_
  rintro e w1 ⟨p1, p2, us, rfl, hus, hD, hb⟩
  obtain ⟨ss, hss⟩ : ∃ ss, (gs.map fun g => Fd.onto g fl) = ss := ⟨_, rfl⟩
  have Sl : Hid (ss.length = W * H) := by unfold Hid; rw [← hss, List.length_map]; exact Gl.out
  have Hss : Hid ((gs.map fun g => Fd.onto g fl) = ss) := hss
  rw [hss] at hD
  clear hss
  have B1 : Hid (Below w.heap.size w w1) := b0.trans (hb.mono (by simp; omega))
  have blk : Hid (w1.heap[w.heap.size + 1]? = some (.cells #[.slice none 0 0, .slice none 0 0] 46 (0, 0))) := by
    unfold Hid
    rw [hb.block (w.heap.size + 1) (by simp)]
    have := heap_alloc_new (w.alloc (Obj.cells #[.int .i64 W, .int .i64 H, .slice a1 gs.length c, .slice b1 os.length d] 24)) (Obj.cells #[.slice none 0 0, .slice none 0 0] 46)
    simpa using this
  have ba : Below w1.heap.size w1 (w1.alloc (Obj.cells #[p2] 22)) := (Below.refl _ _).alloc (Nat.le_refl _) _
  have Hus : Hid (us.length = W * H) := hus
  have L2 : Hid (Wd (w1.alloc (Obj.cells #[p2] 22)) (w.heap.size + 1 + 1 + 1) p1 p2 us (Fd.near W H) ss) := by
    have := hD.below ba
    unfold Hid
    simpa using this
  have hp1 := hD.bs hus (by have := Gq.out; omega)
  have hp2 := hD.o5.ro
  clear hD hus
  have B2 : Hid (Below w.heap.size w (w1.alloc (Obj.cells #[p2] 22))) := B1.out.trans (ba.mono B1.out.size)
  have K2 : Hid ((w1.alloc (Obj.cells #[p2] 22)).heap[w.heap.size + 1]? = some (.cells #[.slice none 0 0, .slice none 0 0] 46 (0, 0))) := by
    unfold Hid
    rw [heap_alloc_old w1 _ (lt_of_block blk.out)]
    exact blk.out
  have C2 : Hid ((w1.alloc (Obj.cells #[p2] 22)).cell? ⟨w1.heap.size, 0, none⟩ = some p2) := by unfold Hid; simp
  obtain ⟨x1, e1, hp1e, -⟩ := hp1
  obtain ⟨x2, e2, hp2e, -⟩ := hp2
  subst hp1e
  subst hp2e
  clear hb ba b0 blk B1
  go_upto_region 2 with fail
  generalize w1.alloc (Obj.cells #[.slice x2 ss.length e2] 22) = w2 at *
  have U2 : Hid (Ro w2 u xs) := U0.out.below B2.out
  have c9 := C2.out
  have hc : ∀ m, ∀ x ∈ xs, Calls Tryd.prog 29 (#[.int .i64 x] ++ #[.pointer (some ⟨w1.heap.size, 0, none⟩)]) (w2.drewN m) fun e w' => e = .returned (.bool (!decide (0 ≤ x ∧ x < ((W * H : Nat) : Int)))) ∧ ∃ q, w' = w2.drewN q := by
    intro m x _
    rw [show (#[Value.int .i64 x] ++ #[Value.pointer (some ⟨w1.heap.size, 0, none⟩)] : Array Value) = #[.int .i64 x, .pointer (some ⟨w1.heap.size, 0, none⟩)] from rfl]
    refine (nocell_any x w1.heap.size (W * H) e2 x2 (w2.drewN m) ?_ Gp.out).mono ?_
    · have := C2.out
      rw [Sl.out] at this
      exact this
    · rintro e w' ⟨h1, h2⟩
      exact ⟨h1, m, h2⟩
  have hh := hasf_any 29 enter_none u #[.pointer (some ⟨w1.heap.size, 0, none⟩)] xs (fun x => !decide (0 ≤ x ∧ x < ((W * H : Nat) : Int))) w2 U2.out hc
  rw [Hx.out] at hh
  have H3 : Hid (Calls Tryd.prog 30 #[u, .func (Fn.func 29) #[] #[.pointer (some ⟨w1.heap.size, 0, none⟩)]] w2 fun e w' => e = .returned (.bool true) ∧ ∃ q, w' = w2.drewN q) := hh
  clear hh hc
  go_wp2_with fail
  refine Calls.mono H3.out ?_
  rintro e w3 ⟨rfl, q, rfl⟩
  clear H3
  obtain ⟨c0, c1, f0, f1⟩ := Wl.mk' (w := w2.drewN q) K2.out
  have L3 : Hid (Wd (w2.drewN q) (w.heap.size + 1 + 1 + 1) (.slice (some x1) (W * H) e1) (.slice x2 ss.length e2) us (Fd.near W H) ss) := L2.out.below (below_drewN (Below.refl _ _) _)
  have B3 : Hid (Below w.heap.size w (w2.drewN q)) := below_drewN B2.out _
  have c9 : (w2.drewN q).cell? ⟨w1.heap.size, 0, none⟩ = some (.slice x2 ss.length e2) := C2.out
  generalize w2.drewN q = w3 at *
  clear B2 L2 K2 C2
  go_wp2
  refine bodyPost_ret (v := .tuple #[.agg #[.slice none 0 0, .slice none 0 0], .iface 50 (.int .i64 6)]) (by simp [results, Tryd.results20, go_sem, c0, c1]) rfl ?_
  exact ⟨rfl, (B3.out.setCell (Nat.le_succ _) _).setCell (Nat.le_succ _) _⟩

set_option maxHeartbeats 2000000 in
theorem look_ok (v u : Value) (W H : Nat) (gs os xs : List Int) (fl : Bool) (w : World) (h : Fl w v W H gs os) (G : Fd.Good W H gs os) (hs : Sd w) (hu : Ro w u xs) (hx : xs.any (fun x => !decide (0 ≤ x ∧ x < ((W * H : Nat) : Int))) = false) :
    Calls Tryd.prog 20 #[v, .bool fl, u] w fun e w' => (∃ v', e = .returned (.tuple #[v', .nilIface]) ∧ Ld w' v' (W * H) (Fd.near W H) (gs.map fun g => Fd.onto g fl)) ∧ Below w.heap.size w w' := by
  have F0 : Hid (Fl w v W H gs os) := h
  have S0 : Hid (Sd w) := hs
  have G0 : Hid (Fd.Good W H gs os) := G
  have U0 : Hid (Ro w u xs) := hu
  have Hx : Hid (xs.any (fun x => !decide (0 ≤ x ∧ x < ((W * H : Nat) : Int))) = false) := hx
  obtain ⟨u1, u2, rfl, ⟨a1, c, rfl, c1, c2, ca⟩, ⟨b1, d, rfl, d1, d2, cb⟩⟩ := h
  clear hs hu hx ca cb
  have Gp : Hid (W * H ≤ 144) := G.pos.2
  have Gq : Hid (0 < W * H) := by have := G.pos.1; unfold Hid; omega
  have Gl : Hid (gs.length = W * H) := G.gl
  clear G
  go_enter Tryd.func20, Tryd.ntmps20
  go_wp2_with fail
  have b0 : Below w.heap.size w ((w.alloc (Obj.cells #[.int .i64 W, .int .i64 H, .slice a1 gs.length c, .slice b1 os.length d] 24)).alloc (Obj.cells #[.slice none 0 0, .slice none 0 0] 46)) := ((Below.refl _ _).alloc (Nat.le_refl _) _).alloc (by simp) _
  refine (Ways_ok _ W H gs os fl _ (F0.out.below b0) G0.out (S0.out.below b0)).mono ?_
  rintro e w1 ⟨p1, p2, us, rfl, hus, hD, hb⟩
  obtain ⟨ss, hss⟩ : ∃ ss, (gs.map fun g => Fd.onto g fl) = ss := ⟨_, rfl⟩
  have Sl : Hid (ss.length = W * H) := by unfold Hid; rw [← hss, List.length_map]; exact Gl.out
  have Hss : Hid ((gs.map fun g => Fd.onto g fl) = ss) := hss
  rw [hss] at hD
  clear hss
  have B1 : Hid (Below w.heap.size w w1) := b0.trans (hb.mono (by simp; omega))
  have blk : Hid (w1.heap[w.heap.size + 1]? = some (.cells #[.slice none 0 0, .slice none 0 0] 46 (0, 0))) := by
    unfold Hid
    rw [hb.block (w.heap.size + 1) (by simp)]
    have := heap_alloc_new (w.alloc (Obj.cells #[.int .i64 W, .int .i64 H, .slice a1 gs.length c, .slice b1 os.length d] 24)) (Obj.cells #[.slice none 0 0, .slice none 0 0] 46)
    simpa using this
  have ba : Below w1.heap.size w1 (w1.alloc (Obj.cells #[p2] 22)) := (Below.refl _ _).alloc (Nat.le_refl _) _
  have Hus : Hid (us.length = W * H) := hus
  have L2 : Hid (Wd (w1.alloc (Obj.cells #[p2] 22)) (w.heap.size + 1 + 1 + 1) p1 p2 us (Fd.near W H) ss) := by
    have := hD.below ba
    unfold Hid
    simpa using this
  have hp1 := hD.bs hus (by have := Gq.out; omega)
  have hp2 := hD.o5.ro
  clear hD hus
  have B2 : Hid (Below w.heap.size w (w1.alloc (Obj.cells #[p2] 22))) := B1.out.trans (ba.mono B1.out.size)
  have K2 : Hid ((w1.alloc (Obj.cells #[p2] 22)).heap[w.heap.size + 1]? = some (.cells #[.slice none 0 0, .slice none 0 0] 46 (0, 0))) := by
    unfold Hid
    rw [heap_alloc_old w1 _ (lt_of_block blk.out)]
    exact blk.out
  have C2 : Hid ((w1.alloc (Obj.cells #[p2] 22)).cell? ⟨w1.heap.size, 0, none⟩ = some p2) := by unfold Hid; simp
  obtain ⟨x1, e1, hp1e, -⟩ := hp1
  obtain ⟨x2, e2, hp2e, -⟩ := hp2
  subst hp1e
  subst hp2e
  clear hb ba b0 blk B1
  go_upto_region 2 with fail
  generalize w1.alloc (Obj.cells #[.slice x2 ss.length e2] 22) = w2 at *
  have U2 : Hid (Ro w2 u xs) := U0.out.below B2.out
  have c9 := C2.out
  have hc : ∀ m, ∀ x ∈ xs, Calls Tryd.prog 29 (#[.int .i64 x] ++ #[.pointer (some ⟨w1.heap.size, 0, none⟩)]) (w2.drewN m) fun e w' => e = .returned (.bool (!decide (0 ≤ x ∧ x < ((W * H : Nat) : Int)))) ∧ ∃ q, w' = w2.drewN q := by
    intro m x _
    rw [show (#[Value.int .i64 x] ++ #[Value.pointer (some ⟨w1.heap.size, 0, none⟩)] : Array Value) = #[.int .i64 x, .pointer (some ⟨w1.heap.size, 0, none⟩)] from rfl]
    refine (nocell_any x w1.heap.size (W * H) e2 x2 (w2.drewN m) ?_ Gp.out).mono ?_
    · have := C2.out
      rw [Sl.out] at this
      exact this
    · rintro e w' ⟨h1, h2⟩
      exact ⟨h1, m, h2⟩
  have hh := hasf_any 29 enter_none u #[.pointer (some ⟨w1.heap.size, 0, none⟩)] xs (fun x => !decide (0 ≤ x ∧ x < ((W * H : Nat) : Int))) w2 U2.out hc
  rw [Hx.out] at hh
  have H3 : Hid (Calls Tryd.prog 30 #[u, .func (Fn.func 29) #[] #[.pointer (some ⟨w1.heap.size, 0, none⟩)]] w2 fun e w' => e = .returned (.bool false) ∧ ∃ q, w' = w2.drewN q) := hh
  clear hh hc
  go_wp2_with fail
  refine Calls.mono H3.out ?_
  rintro e w3 ⟨rfl, q, rfl⟩
  clear H3
  obtain ⟨c0, c1, f0, f1⟩ := Wl.mk' (w := w2.drewN q) K2.out
  have L3 : Hid (Wd (w2.drewN q) (w.heap.size + 1 + 1 + 1) (.slice (some x1) (W * H) e1) (.slice x2 ss.length e2) us (Fd.near W H) ss) := L2.out.below (below_drewN (Below.refl _ _) _)
  have B3 : Hid (Below w.heap.size w (w2.drewN q)) := below_drewN B2.out _
  have c9 : (w2.drewN q).cell? ⟨w1.heap.size, 0, none⟩ = some (.slice x2 ss.length e2) := C2.out
  generalize w2.drewN q = w3 at *
  clear B2 L2 K2 C2
  go_wp2
  refine bodyPost_ret (v := .tuple #[.agg #[.slice (some x1) (W * H) e1, .slice x2 ss.length e2], .nilIface]) (by simp [results, Tryd.results20, go_sem, c0, c1]) rfl ?_
  have kk : Kp (w.heap.size + 1) w3 ((w3.setCell ⟨w.heap.size + 1, 0, none⟩ (.slice (some x1) (W * H) e1)).setCell ⟨w.heap.size + 1, 1, none⟩ (.slice x2 ss.length e2)) := (Kp.set _ _ _).trans (Kp.set _ _ _)
  refine ⟨⟨_, rfl, ?_⟩, (B3.out.setCell (Nat.le_succ _) _).setCell (Nat.le_succ _) _⟩
  rw [Hss.out]
  have D5 := L3.out.kp kk (by omega)
  exact ⟨_, _, rfl, D5.bs Hus.out Gq.out, D5.o5.ro, Sl.out⟩
end Go.Proofs.YtogdaegnpoknlaaDoor
