/- Fields: Sees, whole. -/
import Derived.Test.YthnfaflhecfnfaaDoorFdSa
namespace Go.Proofs.YthnfaflhecfnfaaDoor
open Go.RowKit
set_option linter.unusedVariables false

theorem cell_alloc {w : World} {o : Obj} {p : Addr} (h : p.block < w.heap.size) : (w.alloc o).cell? p = w.cell? p := ((Below.refl w.heap.size w).alloc (Nat.le_refl _) o).cell h

/-- the boxes of a call of Sees. -/
structure Bx (w : World) (z : Nat) (W : Int) (v : Value) (a b : Int) : Prop where
  wide : w.cell? ⟨z, 0, none⟩ = some (.int .i64 W)
  ground : w.cell? ⟨z, 2, none⟩ = some v
  ca : w.cell? ⟨z + 1, 0, none⟩ = some (.int .i64 a)
  cb : w.cell? ⟨z + 1 + 1, 0, none⟩ = some (.int .i64 b)
theorem Bx.lt {w : World} {z : Nat} {W : Int} {v : Value} {a b : Int} (h : Bx w z W v a b) : z + 2 < w.heap.size := cell_lt h.cb
theorem Bx.below {w w' : World} {z n : Nat} {W : Int} {v : Value} {a b : Int} (h : Bx w z W v a b) (hb : Below n w w') (hn : z + 2 < n) : Bx w' z W v a b :=
  ⟨by rw [hb.cell (p := ⟨z, 0, none⟩) (by show z < n; omega)]; exact h.wide, by rw [hb.cell (p := ⟨z, 2, none⟩) (by show z < n; omega)]; exact h.ground,
   by rw [hb.cell (p := ⟨z + 1, 0, none⟩) (by show z + 1 < n; omega)]; exact h.ca, by rw [hb.cell (p := ⟨z + 1 + 1, 0, none⟩) (by show z + 1 + 1 < n; omega)]; exact h.cb⟩

set_option maxHeartbeats 1000000 in
theorem Sees_bad (v : Value) (W H : Int) (gs os : List Int) (a b s F : Int) (w : World) (h : Fl w v W H gs os) (hF : Fd.askFault (Fd.fault W H gs os) gs.length [a, b] = F) (h0 : F ≠ 0) :
    Calls Tryd.prog 24 #[v, .int .i64 a, .int .i64 b, .int .i64 s] w fun e w' => e = .returned (.tuple #[.bool false, .iface 54 (.int .i64 F)]) ∧ Below w.heap.size w w' := by
  have F0 : Hid (Fl w v W H gs os) := h
  have HF : Hid (Fd.askFault (Fd.fault W H gs os) gs.length [a, b] = F) := hF
  have H0 : Hid (F ≠ 0) := h0
  obtain ⟨u1, u2, rfl, ⟨a1, c, rfl, c1, c2, ca⟩, ⟨b1, d, rfl, d1, d2, cb⟩⟩ := h
  clear hF h0 ca cb
  go_enter Tryd.func24, Tryd.ntmps24
  go_wp2_with fail
  refine (ask_any _ _ W H gs os [a, b] _ (F0.out.below (((((Below.refl _ _).alloc (Nat.le_refl _) _).alloc (by simp) _).alloc (by simp; omega) _).alloc (by simp; omega) _)) (Ro.lit2 (w := ((w.alloc _).alloc _).alloc _) a b (by simp))).mono ?_
  rintro e w1 ⟨v1, rfl, hv, hb⟩
  have B1 : Hid (Below w.heap.size w w1) := (((((Below.refl _ _).alloc (Nat.le_refl _) _).alloc (by simp) _).alloc (by simp; omega) _).alloc (by simp; omega) _).trans (hb.mono (by simp; omega))
  rw [HF.out] at hv
  clear hb
  rcases hv with ⟨hz, rfl⟩ | ⟨hz, rfl⟩
  · exact absurd hz H0.out
  · clear hz
    go_wp2
    go_ret2
    exact ⟨rfl, B1⟩

theorem ask2_good {W H : Nat} {gs os : List Int} {a b : Nat} (G : Fd.Good W H gs os) (ha : a < W * H) (hb : b < W * H) : Fd.askFault (Fd.fault W H gs os) gs.length [(a : Int), (b : Int)] = 0 := by
  unfold Fd.askFault
  rw [Fd.fault_good G, if_neg (by decide), if_pos]
  rw [G.gl]
  simp
  omega

set_option maxHeartbeats 1000000 in
theorem Sees_range (v : Value) (W H : Nat) (gs os : List Int) (a b : Nat) (s : Int) (w : World) (h : Fl w v W H gs os) (G : Fd.Good W H gs os) (ha : a < W * H) (hb : b < W * H) (hs : s < 0 ∨ 1000000 < s) :
    Calls Tryd.prog 24 #[v, .int .i64 (a : Nat), .int .i64 (b : Nat), .int .i64 s] w fun e w' => e = .returned (.tuple #[.bool false, .iface 54 (.int .i64 1)]) ∧ Below w.heap.size w w' := by
  have F0 : Hid (Fl w v W H gs os) := h
  have HF : Hid (Fd.askFault (Fd.fault W H gs os) gs.length [(a : Int), (b : Int)] = 0) := ask2_good G ha hb
  obtain ⟨u1, u2, rfl, ⟨a1, c, rfl, c1, c2, ca⟩, ⟨b1, d, rfl, d1, d2, cb⟩⟩ := h
  clear ca cb G ha hb
  go_enter Tryd.func24, Tryd.ntmps24
  go_wp2_with fail
  refine (ask_any _ _ W H gs os [(a : Int), (b : Int)] _ (F0.out.below (((((Below.refl _ _).alloc (Nat.le_refl _) _).alloc (by simp) _).alloc (by simp; omega) _).alloc (by simp; omega) _)) (Ro.lit2 (w := ((w.alloc _).alloc _).alloc _) a b (by simp))).mono ?_
  rintro e w1 ⟨v1, rfl, hv, hb⟩
  have B1 : Hid (Below w.heap.size w w1) := (((((Below.refl _ _).alloc (Nat.le_refl _) _).alloc (by simp) _).alloc (by simp; omega) _).alloc (by simp; omega) _).trans (hb.mono (by simp; omega))
  rw [HF.out] at hv
  clear hb
  rcases hv with ⟨hz, rfl⟩ | ⟨hz, rfl⟩
  · clear hz
    go_wp2_with fail
    refine (fin_no _ _ _ _ hs).mono ?_
    rintro e w2 ⟨rfl, rfl⟩
    go_wp2
    go_ret2
    exact ⟨rfl, B1⟩
  · exact absurd rfl hz

set_option maxHeartbeats 2000000 in
theorem Sees_ok (v : Value) (W H : Nat) (gs os : List Int) (a b : Nat) (s : Int) (w : World) (h : Fl w v W H gs os) (G : Fd.Good W H gs os) (ha : a < W * H) (hb : b < W * H) (s0 : 0 ≤ s) (s1 : s ≤ 1000000) :
    Calls Tryd.prog 24 #[v, .int .i64 (a : Nat), .int .i64 (b : Nat), .int .i64 s] w fun e w' => ∃ r, Ma.Sq r ((((a % W : Nat) : Int) - (b % W : Nat)) * (((a % W : Nat) : Int) - (b % W : Nat)) + (((a / W : Nat) : Int) - (b / W : Nat)) * (((a / W : Nat) : Int) - (b / W : Nat))) ∧
      e = .returned (.tuple #[.bool (decide (r ≤ s) && !(Fd.line W a b).any (Fd.hide gs a b)), .nilIface]) ∧ Below w.heap.size w w' := by
  have F0 : Hid (Fl w v W H gs os) := h
  have HG : Hid (Fd.Good W H gs os) := G
  have HA : Hid (a < W * H) := ha
  have HB : Hid (b < W * H) := hb
  have HF : Hid (Fd.askFault (Fd.fault W H gs os) gs.length [(a : Int), (b : Int)] = 0) := ask2_good G ha hb
  have hm := G.pos.2
  have A1 : a ≤ 144 := by omega
  have B1' : b ≤ 144 := by omega
  have W1 : 0 < W := G.w1
  have W2 : W ≤ 12 := G.w2
  have a1' : a / W < H := Nat.div_lt_of_lt_mul ha
  have a2' : b / W < H := Nat.div_lt_of_lt_mul hb
  have a3' := Nat.mod_lt a W1
  have a4' := Nat.mod_lt b W1
  have h2' := G.h2
  obtain ⟨u1, u2, rfl, ⟨a1, c, rfl, c1, c2, ca⟩, ⟨b1, d, rfl, d1, d2, cb⟩⟩ := h
  obtain ⟨y, rfl, -, hg⟩ := ca (by intro e; have h3 := G.gl; have h4 := G.pos; rw [e] at h3; simp only [List.length_nil] at h3; omega)
  have Cg : Hid (∀ i d, gs[i]? = some d → w.cell? (y.add i) = some (.int .i64 d)) := hg
  have yl : Hid (y.block < w.heap.size) := by
    have hn : 0 < gs.length := by have := G.gl; have := G.pos; omega
    have := cell_lt (hg 0 gs[0] (List.getElem?_eq_getElem hn))
    rwa [add_block] at this
  have GL : Hid (gs.length = W * H) := G.gl
  clear cb hg G ha hb
  obtain ⟨p, hp⟩ : ∃ c, a % W = c := ⟨_, rfl⟩
  obtain ⟨q, hq⟩ : ∃ c, b % W = c := ⟨_, rfl⟩
  obtain ⟨m, hm'⟩ : ∃ c, a / W = c := ⟨_, rfl⟩
  obtain ⟨n, hn⟩ : ∃ c, b / W = c := ⟨_, rfl⟩
  rw [hp, hq, hm', hn]
  rw [hm'] at a1'
  rw [hn] at a2'
  rw [hp] at a3'
  rw [hq] at a4'
  have Pa : Hid (a % W = p ∧ a / W = m) := ⟨hp, hm'⟩
  have Pb : Hid (b % W = q ∧ b / W = n) := ⟨hq, hn⟩
  clear hp hq hm' hn
  go_enter Tryd.func24, Tryd.ntmps24
  go_wp2_with fail
  refine (ask_any _ _ W H gs os [(a : Int), (b : Int)] _ (F0.out.below (((((Below.refl _ _).alloc (Nat.le_refl _) _).alloc (by simp) _).alloc (by simp; omega) _).alloc (by simp; omega) _)) (Ro.lit2 (w := ((w.alloc _).alloc _).alloc _) a b (by simp))).mono ?_
  rintro e w1 ⟨v1, rfl, hv, hb⟩
  have B1 : Hid (Below w.heap.size w w1) := (((((Below.refl _ _).alloc (Nat.le_refl _) _).alloc (by simp) _).alloc (by simp; omega) _).alloc (by simp; omega) _).trans (hb.mono (by simp; omega))
  have X1 : Hid (Bx w1 w.heap.size W (.slice (some y) gs.length c) a b) := by
    refine ⟨?_, ?_, ?_, ?_⟩
    · rw [hb.cell (p := ⟨w.heap.size, 0, none⟩) (by simp; omega), cell_alloc (by simp; omega), cell_alloc (by simp; omega), cell_alloc (by simp), World.cell?_alloc_new]
      rfl
    · rw [hb.cell (p := ⟨w.heap.size, 2, none⟩) (by simp; omega), cell_alloc (by simp; omega), cell_alloc (by simp; omega), cell_alloc (by simp), World.cell?_alloc_new]
      rfl
    · rw [hb.cell (p := ⟨w.heap.size + 1, 0, none⟩) (by simp; try omega), cell_alloc (by simp; try omega), cell_alloc (by simp), World.cell?_alloc_at _ _ _ _ (by simp)]
      rfl
    · rw [hb.cell (p := ⟨w.heap.size + 1 + 1, 0, none⟩) (by simp; try omega), cell_alloc (by simp), World.cell?_alloc_at _ _ _ _ (by simp)]
      rfl
  rw [HF.out] at hv
  clear hb
  rcases hv with ⟨hz, rfl⟩ | ⟨hz, rfl⟩
  · clear hz
    have f1 := X1.out.wide
    have f2 := X1.out.ca
    have f3 := X1.out.cb
    go_wp2_with fail
    refine (fin_yes _ _ _ _ s0 s1).mono ?_
    rintro e w2 ⟨rfl, rfl⟩
    go_wp2_with fail
    refine (place_any W a p m _ W1 W2 A1 Pa.out.1 Pa.out.2).mono ?_
    rintro e w3 ⟨rfl, q3, hq3⟩
    have b3 : Below w2.heap.size w2 w3 := by rw [hq3]; exact below_drewN (Below.refl _ _) _
    have B3 : Hid (Below w.heap.size w w3) := B1.out.trans (b3.mono B1.out.size)
    have X3 : Hid (Bx w3 w.heap.size W (.slice (some y) gs.length c) a b) := X1.out.below b3 X1.out.lt
    clear hq3 b3 B1 X1 f1 f2 f3
    have f1 := X3.out.wide
    have f2 := X3.out.ca
    have f3 := X3.out.cb
    go_wp2_with fail
    refine (place_any W b q n _ W1 W2 B1' Pb.out.1 Pb.out.2).mono ?_
    rintro e w4 ⟨rfl, q4, hq4⟩
    have b4 : Below w3.heap.size w3 w4 := by rw [hq4]; exact below_drewN (Below.refl _ _) _
    have B4 : Hid (Below w.heap.size w w4) := B3.out.trans (b4.mono B3.out.size)
    have X4 : Hid (Bx w4 w.heap.size W (.slice (some y) gs.length c) a b) := X3.out.below b4 X3.out.lt
    clear hq4 b4 B3 X3 f1 f2 f3
    go_wp2_with fail
    refine (far_ok p m q n _ ⟨by omega, by omega⟩ ⟨by omega, by omega⟩ ⟨by omega, by omega⟩ ⟨by omega, by omega⟩).mono ?_
    rintro e w5 ⟨r, hr, rfl, rfl⟩
    have R : Hid (Ma.Sq r (((p : Int) - q) * ((p : Int) - q) + ((m : Int) - n) * ((m : Int) - n))) := hr
    clear hr
    by_cases hrs : r ≤ s
    · have f1 := X4.out.wide
      have f2 := X4.out.ca
      have f3 := X4.out.cb
      go_wp2_with fail
      refine (line_any W H a b _ W1 W2 h2' HA.out HB.out).mono ?_
      rintro e w6 ⟨u, rfl, ho, b6⟩
      have B6 : Hid (Below w.heap.size w w6) := B4.out.trans (b6.mono B4.out.size)
      have X6 : Bx w6 w.heap.size W (.slice (some y) gs.length c) a b := X4.out.below b6 X4.out.lt
      have hh := has3_any u (.pointer (some ⟨w.heap.size + 1, 0, none⟩)) (.pointer (some ⟨w.heap.size + 1 + 1, 0, none⟩)) (.pointer (some ⟨w.heap.size, 0, none⟩)) (Fd.line W a b) (Fd.hide gs a b) w6 ho.ro
        (fun x hx => by
          obtain ⟨k, hk, e⟩ := List.mem_iff_getElem.1 hx
          rw [Fd.line_len] at hk
          have e2 := Fd.line_get (W := W) (a := a) (b := b) (k := k) (by omega)
          rw [List.getElem?_eq_getElem (by rw [Fd.line_len]; omega), e] at e2
          have e3 : ∃ t : Nat, x = t ∧ t < W * H := by
            injection e2 with e2
            by_cases h0 : Fd.span W a b = 0
            · rw [if_pos h0] at e2
              exact ⟨a, e2, HA.out⟩
            · rw [if_neg h0] at e2
              obtain ⟨r', c', -, -, -, -, e4, e5, -⟩ := Fd.spot_in W1 HA.out HB.out (show 0 < Fd.span W a b by omega) (show k ≤ Fd.span W a b by omega)
              exact ⟨_, e2.trans e4, e5⟩
          obtain ⟨t, rfl, ht⟩ := e3
          exact hides_any t a b _ _ _ y gs.length c gs w6 (by omega) (by have := GL.out; omega) rfl (by have := GL.out; omega) X6.ca X6.cb X6.ground
            (fun i d hd => by rw [B6.out.cell (p := y.add i) (by rw [add_block]; exact yl.out)]; exact Cg.out i d hd))
      generalize hbl : (Fd.line W a b).any (Fd.hide gs a b) = bl at *
      have Hbl : Hid ((Fd.line W a b).any (Fd.hide gs a b) = bl) := hbl
      have Hh : Hid (Calls Tryd.prog 36 #[u, .func (Fn.func 35) #[] #[.pointer (some ⟨w.heap.size + 1, 0, none⟩), .pointer (some ⟨w.heap.size + 1 + 1, 0, none⟩), .pointer (some ⟨w.heap.size, 0, none⟩)]] w6 fun e w' => e = .returned (.bool bl) ∧ w' = w6) := hh
      clear hh hbl ho b6 X6 X4 f1 f2 f3
      go_wp2_with fail
      refine Calls.mono Hh.out ?_
      rintro e w7 ⟨rfl, rfl⟩
      have Hrs : Hid (r ≤ s) := hrs
      clear hrs
      go_wp2
      go_ret2
      exact ⟨r, R, by show Ending.returned (.tuple #[.bool (!bl), .nilIface]) = _; rw [decide_eq_true Hrs.out, Bool.true_and, Hbl.out], B6⟩
    · have hrs' : s < r := by omega
      go_wp2
      go_ret2
      exact ⟨r, R, by show Ending.returned (.tuple #[.bool false, .nilIface]) = _; rw [decide_eq_false (by omega), Bool.false_and], B4⟩
  · exact absurd rfl hz
end Go.Proofs.YthnfaflhecfnfaaDoor
