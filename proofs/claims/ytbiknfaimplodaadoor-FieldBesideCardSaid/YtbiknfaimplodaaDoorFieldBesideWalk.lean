/- The walk of FieldBeside. -/
import Derived.Test.YtbiknfaimplodaaDoorFdN
import Derived.Test.YtbiknfaimplodaaDoorFdNear
import Derived.Test.YtbiknfaimplodaaDoorLit
import Derived.Test.YtbiknfaimplodaaDoorFdArgs
import Derived.Test.YtbiknfaimplodaaDoorFdLaid
import Derived.ProofKit
import Derived.OpenShut
import Derived.IntWalk
import Derived.Deep.RegionHeld3
namespace Go.Proofs.YtbiknfaimplodaaDoor.fieldBeside
open Go.RowKit
set_option linter.unusedVariables false

theorem good2 : Fd.Good 2 1 [0, 1] [0, 0] := by
  refine ⟨by decide, by decide, by decide, by decide, rfl, rfl, fun i g o hg ho => ?_⟩
  match i, hg, ho with
  | 0, hg, ho => simp at hg ho; omega
  | 1, hg, ho => simp at hg ho; omega

theorem one_0 (v : Value) (w : World) (h : Fl w v 2 1 [0, 1] [0, 0]) (hs : Sd w) :
    Calls Tryd.prog 13 #[v, .int .i64 0] w fun e w' => ∃ x c, e = .returned (.tuple #[.slice (some x) 1 c, .nilIface]) ∧ w'.cell? x = some (.int .i64 1) ∧ Below w.heap.size w w' := by
  refine (Near_ok v 2 1 [0, 1] [0, 0] 0 w h good2 (by decide) hs).mono ?_
  rintro e w' ⟨u, rfl, hr, hb⟩
  rw [show Fd.near 2 1 0 = [1] by decide] at hr
  obtain ⟨a, c, rfl, -, -, hc⟩ := hr
  obtain ⟨x, rfl, -, hx⟩ := hc (by simp)
  exact ⟨x, c, rfl, hx 0 1 rfl, hb⟩

set_option maxRecDepth 100000 in
set_option maxHeartbeats 4000000 in
theorem walk_any (v : Value) (W H : Int) (gs os : List Int) (a : Int) (w : World) (hf : Fl w v W H gs os) (hs : Sd w) :
    Calls Tryd.prog 4 #[v, .int .i64 a] w fun e w' => e = .returned (.bool true) ∧ Below w.heap.size w w' := by
  have F0 : Hid (Fl w v W H gs os) := hf
  have S0 : Hid (Sd w) := hs
  obtain ⟨u1, u2, rfl, ⟨a1, c, rfl, c1, c2, -⟩, ⟨b1, d, rfl, d1, d2, -⟩⟩ := hf
  clear hs
  go_enter Tryd.func4, Tryd.ntmps4
  go_wp2_with fail
  have b0 : Below w.heap.size w ((w.alloc (Obj.cells #[Value.int IntKind.i64 W, Value.int IntKind.i64 H, Value.slice a1 gs.length c, Value.slice b1 os.length d] 24)).alloc (Obj.cells #[Value.int IntKind.i64 0, Value.int IntKind.i64 1] 3)) := ((Below.refl _ _).alloc (Nat.le_refl _) _).alloc (by simp) _
  have X0 := Bf.mk' (w := w) W H (Value.slice a1 gs.length c) (Value.slice b1 os.length d) rfl
  have l0 := Ro.lit2 (w := w.alloc (Obj.cells #[Value.int IntKind.i64 W, Value.int IntKind.i64 H, Value.slice a1 gs.length c, Value.slice b1 os.length d] 24)) (z := w.heap.size + 1) 0 1 (by simp)
  have z0 : ((w.alloc (Obj.cells #[Value.int IntKind.i64 W, Value.int IntKind.i64 H, Value.slice a1 gs.length c, Value.slice b1 os.length d] 24)).alloc (Obj.cells #[Value.int IntKind.i64 0, Value.int IntKind.i64 1] 3)).heap.size = w.heap.size + 1 + 1 := by simp
  have X1 := X0.below ((Below.refl _ _).alloc (Nat.le_refl _) (Obj.cells #[Value.int IntKind.i64 0, Value.int IntKind.i64 1] 3)) X0.lt
  generalize (w.alloc (Obj.cells #[Value.int IntKind.i64 W, Value.int IntKind.i64 H, Value.slice a1 gs.length c, Value.slice b1 os.length d] 24)).alloc (Obj.cells #[Value.int IntKind.i64 0, Value.int IntKind.i64 1] 3) = w0 at *
  have k1 := (Below.refl w0.heap.size w0).alloc (Nat.le_refl _) (Obj.cells #[Value.int IntKind.i64 0, Value.int IntKind.i64 0] 3)
  have l1 := Ro.lit2 (w := w0) (z := w.heap.size + 1 + 1) 0 0 z0
  have z1 : (w0.alloc (Obj.cells #[Value.int IntKind.i64 0, Value.int IntKind.i64 0] 3)).heap.size = w.heap.size + 1 + 1 + 1 := by simp [z0]
  have l2 := l0.below k1
  have X2 := X1.below k1 X1.lt
  have b1' := b0.trans (k1.mono b0.size)
  clear b0 X0 l0 z0 X1 k1
  generalize w0.alloc (Obj.cells #[Value.int IntKind.i64 0, Value.int IntKind.i64 0] 3) = w1 at *
  have k2 := (Below.refl w1.heap.size w1).alloc (Nat.le_refl _) (Obj.cells #[Value.int IntKind.i64 2, Value.int IntKind.i64 1, Value.slice (some { block := w.heap.size + 1, off := 0 }) 2 2, Value.slice (some { block := w.heap.size + 1 + 1, off := 0 }) 2 2] 24)
  have B2 : Hid (Below w.heap.size w _) := b1'.trans (k2.mono b1'.size)
  have Fo : Hid (Fl _ (.agg #[Value.int IntKind.i64 2, Value.int IntKind.i64 1, Value.slice (some { block := w.heap.size + 1, off := 0 }) 2 2, Value.slice (some { block := w.heap.size + 1 + 1, off := 0 }) 2 2]) 2 1 [0, 1] [0, 0]) := ⟨_, _, rfl, l2.below k2, l1.below k2⟩
  have X3 : Hid (Bf _ w.heap.size W H (Value.slice a1 gs.length c) (Value.slice b1 os.length d)) := X2.below k2 X2.lt
  clear b1' l1 l2 z1 X2 k2
  generalize w1.alloc (Obj.cells #[Value.int IntKind.i64 2, Value.int IntKind.i64 1, Value.slice (some { block := w.heap.size + 1, off := 0 }) 2 2, Value.slice (some { block := w.heap.size + 1 + 1, off := 0 }) 2 2] 24) = w2 at *
  refine (one_0 _ _ Fo.out (S0.out.below B2.out)).mono ?_
  rintro e w4 ⟨y, cy, rfl, hy, k4⟩
  have B4 : Hid (Below w.heap.size w w4) := B2.out.trans (k4.mono B2.out.size)
  have X5 : Hid (Bf w4 w.heap.size W H (Value.slice a1 gs.length c) (Value.slice b1 os.length d)) := X3.out.below k4 X3.out.lt
  have F4 : Hid (Fl w4 (.agg #[Value.int IntKind.i64 W, Value.int IntKind.i64 H, Value.slice a1 gs.length c, Value.slice b1 os.length d]) W H gs os) := F0.out.below B4.out
  have S4 : Hid (Sd w4) := S0.out.below B4.out
  clear k4 B2 X3 Fo F0 S0
  obtain ⟨x0, x1, x2, x3⟩ := X5.out
  by_cases hF : Fd.askFault (Fd.fault W H gs os) gs.length [a] = 0
  · obtain ⟨hF0, ha0, ha1⟩ := ask1_zero hF
    obtain ⟨W', H', rfl, rfl, G⟩ := Fd.fault_zero hF0
    obtain ⟨a', rfl⟩ : ∃ a' : Nat, a = a' := ⟨a.toNat, by omega⟩
    have gl := G.gl
    have HA : Hid (a' < W' * H') := by unfold Hid; omega
    have HG : Hid (Fd.Good W' H' gs os) := G
    have W1 : 0 < W' := G.w1
    have W2 : W' ≤ 12 := G.w2
    have hm := G.pos.2
    have GL : Hid (gs.length = W' * H') := gl
    have gl2 : gs.length ≤ 144 := by omega
    clear hF hF0 ha0 ha1 gl G
    go_wp2_with fail
    refine (Near_ok _ W' H' gs os a' _ F4.out HG.out HA.out S4.out).mono ?_
    rintro e w5 ⟨u, rfl, hr, k5⟩
    have B5 : Hid (Below w.heap.size w w5) := B4.out.trans (k5.mono B4.out.size)
    have X6 : Hid (Bf w5 w.heap.size W' H' (Value.slice a1 gs.length c) (Value.slice b1 os.length d)) := X5.out.below k5 X5.out.lt
    have F5 : Hid (Fl w5 (.agg #[Value.int IntKind.i64 W', Value.int IntKind.i64 H', Value.slice a1 gs.length c, Value.slice b1 os.length d]) W' H' gs os) := F4.out.below k5
    have S5 : Hid (Sd w5) := S4.out.below k5
    clear k5 B4 X5 F4 S4 x0 x1 x2 x3 hy
    have R5 : Hid (Ro w5 u (Fd.near W' H' a')) := hr
    obtain ⟨xa, cu, rfl, cu1, cu2, -⟩ := hr
    have hl := Fd.near_len W' H' a'
    have hl' : ((Fd.near W' H' a').length : Int) ≤ 4 := by omega
    have Ec : Hid (∀ t : Nat, (t : Int) ∈ Fd.near W' H' a' → t < W' * H' ∧ (a' : Int) ∈ Fd.near W' H' t) := by
      intro t ht
      obtain ⟨t', e, h1, h2⟩ := Fd.near_cell W1 HA.out ht
      have : t = t' := by omega
      subst this
      exact ⟨h1, h2⟩
    have En : Hid (∀ x ∈ Fd.near W' H' a', ∃ t : Nat, x = t) := by
      intro x hx
      obtain ⟨t', e, -, -⟩ := Fd.near_cell W1 HA.out hx
      exact ⟨t', e⟩
    have Er : Hid ((Fd.near W' H' a').Pairwise (· ≠ ·)) := Fd.near_rise W' H' a' W1
    generalize Fd.near W' H' a' = ls at *
    go_wp2_with fail
    go_loopw [10] (fun i W => ∃ j : Nat, j ≤ ls.length ∧ i = .int .i64 (j : Nat) ∧ Below w5.heap.size w5 W) (fun i _ => ls.length - (intOf i).toNat)
    case atStart => exact ⟨0, Nat.zero_le _, rfl, Below.refl _ _⟩
    case round =>
      obtain ⟨j, hj, rfl, kb⟩ := hrel
      have KB : Hid (Below w5.heap.size w5 wr) := kb
      have B6 : Hid (Below w.heap.size w wr) := B5.out.trans (kb.mono B5.out.size)
      have X7 : Hid (Bf wr w.heap.size W' H' (Value.slice a1 gs.length c) (Value.slice b1 os.length d)) := X6.out.below kb X6.out.lt
      have F6 : Hid (Fl wr (.agg #[Value.int IntKind.i64 W', Value.int IntKind.i64 H', Value.slice a1 gs.length c, Value.slice b1 os.length d]) W' H' gs os) := F5.out.below kb
      have S6 : Hid (Sd wr) := S5.out.below kb
      have R6 : Hid (Ro wr (.slice xa ls.length cu) ls) := R5.out.below kb
      clear kb
      by_cases h0 : j = ls.length
      · subst h0
        go_wp2
        go_ret
        exact ⟨rfl, B6⟩
      · have hjl : j < ls.length := by omega
        obtain ⟨x, rfl, xl, hx⟩ : ∃ x, xa = some x ∧ x.block < wr.heap.size ∧ ∀ i d, ls[i]? = some d → wr.cell? (x.add i) = some (.int .i64 d) := by
          obtain ⟨a, c, h1, -, -, h4⟩ := R6.out
          obtain ⟨x, rfl, h5, h6⟩ := h4 (by intro h; rw [h] at hjl; simp at hjl)
          injection h1 with h7
          exact ⟨x, h7, h5, h6⟩
        have Hx : Hid (x.block < wr.heap.size ∧ ∀ i d, ls[i]? = some d → wr.cell? (x.add i) = some (.int .i64 d)) := ⟨xl, hx⟩
        obtain ⟨t, ht⟩ := En.out ls[j] (List.getElem_mem hjl)
        have hmem : (t : Int) ∈ ls := by rw [← ht]; exact List.getElem_mem hjl
        obtain ⟨ht1, ht2⟩ := Ec.out t hmem
        have Ht : Hid (ls[j]? = some (t : Int)) := by unfold Hid; rw [List.getElem?_eq_getElem hjl, ht]
        have T1 : Hid (t < W' * H') := ht1
        have T2 : Hid ((a' : Int) ∈ Fd.near W' H' t) := ht2
        have cx := hx j t Ht.out
        have t144 : t ≤ 144 := by omega
        clear hx ht hmem ht1 ht2 xl
        have N6 : Hid (Calls Tryd.prog 13 #[.agg #[Value.int IntKind.i64 W', Value.int IntKind.i64 H', Value.slice a1 gs.length c, Value.slice b1 os.length d], .int .i64 (t : Nat)] wr.drew fun e w' => ∃ u, e = .returned (.tuple #[u, .nilIface]) ∧ Ro w' u (Fd.near W' H' t) ∧ Below wr.heap.size wr w' ∧
            w'.cell? ⟨w.heap.size, 0, none⟩ = some (.int .i64 W') ∧ w'.cell? ⟨w.heap.size, 1, none⟩ = some (.int .i64 H') ∧ w'.cell? ⟨w.heap.size, 2, none⟩ = some (.slice a1 gs.length c) ∧ w'.cell? ⟨w.heap.size, 3, none⟩ = some (.slice b1 os.length d) ∧ w'.cell? (x.add j) = some (.int .i64 t)) :=
          (Near_ok _ W' H' gs os t wr.drew (F6.out.below (Below.refl _ _).drew) HG.out T1.out (S6.out.below (Below.refl _ _).drew)).mono fun e w' ⟨u, h1, h2, h3⟩ => by
            have h4 : Below wr.heap.size wr w' := ((Below.refl _ _).drew).trans h3
            obtain ⟨y0, y1, y2, y3⟩ := X7.out.below h4 X7.out.lt
            exact ⟨u, h1, h2, h4, y0, y1, y2, y3, by rw [h4.cell (p := x.add j) (by rw [add_block]; exact Hx.out.1)]; exact Hx.out.2 j t Ht.out⟩
        obtain ⟨x0, x1, x2, x3⟩ := X7.out
        have j0 : (0 : Int) ≤ (j : Int) := by omega
        have j1 : (j : Int) < (ls.length : Int) := by omega
        go_wp2_with fail
        go_region_held3 (fun w' => w'.cell? ⟨w.heap.size, 0, none⟩ = some (.int .i64 W') ∧ w'.cell? ⟨w.heap.size, 1, none⟩ = some (.int .i64 H') ∧ w'.cell? ⟨w.heap.size, 2, none⟩ = some (.slice a1 gs.length c) ∧ w'.cell? ⟨w.heap.size, 3, none⟩ = some (.slice b1 os.length d) ∧ w'.cell? (x.add j) = some (.int .i64 t))
          (go_keep)
          ((go_at_call 13; refine Calls.mono N6.out ?_; rintro e w6 ⟨u, rfl, hr6, k6, y0, y1, y2, y3, y4⟩))
        have R7 : Hid (Ro w6 u (Fd.near W' H' t)) := hr6
        have K7 : Hid (Below wr.heap.size wr w6) := k6
        have ml : (Fd.near W' H' t).length ≤ 4 := Fd.near_len W' H' t
        obtain ⟨ma, mc, rfl, mc1, mc2, -⟩ := hr6
        have Tm : Hid ((a' : Int) ∈ Fd.near W' H' t) := T2.out
        generalize Fd.near W' H' t = ms at *
        clear k6 N6 cx x0 x1 x2 x3 T2 S6 R6
        go_wp2_with fail
        go_loop [13, 14] (fun b i => ∃ k : Nat, k ≤ ms.length ∧ i = .int .i64 (k : Nat) ∧ b = .bool ((ms.take k).any (· == (a' : Int)))) (fun _ i => ms.length - (intOf i).toNat)
        case atStart => exact ⟨0, Nat.zero_le _, rfl, rfl⟩
        case round =>
          obtain ⟨k, hk, rfl, rfl⟩ := hrel
          by_cases h1 : k = ms.length
          · subst h1
            have e1 : (List.take ms.length ms).any (· == (a' : Int)) = true := by
              rw [List.take_of_length_le (Nat.le_refl _), List.any_eq_true]
              exact ⟨_, Tm.out, by simp⟩
            rw [e1]
            clear e1
            go_wp2_with fail
            clear y0 y1 y2 y3 y4 R7
            go_loopw [15] (fun i W => ∃ (k q : Nat), k ≤ j ∧ i = .int .i64 (k : Nat) ∧ W = w6.drewN q) (fun i _ => j - (intOf i).toNat)
            case atStart => exact ⟨0, 0, Nat.zero_le _, rfl, rfl⟩
            case round =>
              obtain ⟨k, q, hk2, rfl, rfl⟩ := hrel
              have k7 : Below wr.heap.size wr (w6.drewN q) := below_drewN K7.out _
              have Q : Hid (∀ n, (w6.drewN q).drewN n = w6.drewN (q + n)) := fun n => by rw [World.drewN_drewN]
              generalize w6.drewN q = w7 at *
              have cj : w7.cell? (x.add j) = some (.int .i64 t) := by rw [k7.cell (p := x.add j) (by rw [add_block]; exact Hx.out.1)]; exact Hx.out.2 j t Ht.out
              by_cases h2 : k = j
              · subst h2
                have HG' := HG.out
                have hgl : t < gs.length := by rw [GL.out]; exact T1.out
                obtain ⟨g, hg⟩ : ∃ g, gs[t]? = some g := ⟨_, List.getElem?_eq_getElem hgl⟩
                have B8 : Hid (Below w.heap.size w w7) := B6.out.trans (k7.mono B6.out.size)
                have F8 : Hid (Fl w7 (.agg #[Value.int IntKind.i64 W', Value.int IntKind.i64 H', Value.slice a1 gs.length c, Value.slice b1 os.length d]) W' H' gs os) := F6.out.below k7
                have X8 : Hid (Bf w7 w.heap.size W' H' (Value.slice a1 gs.length c) (Value.slice b1 os.length d)) := X7.out.below k7 X7.out.lt
                have S8 : Hid (Calls Tryd.prog 14 #[.agg #[Value.int IntKind.i64 W', Value.int IntKind.i64 H', Value.slice a1 gs.length c, Value.slice b1 os.length d], .int .i64 (t : Nat), .bool true] w7.drew fun e w' => e = .returned (.tuple #[.int .i64 (Fd.onto g true), .nilIface]) ∧ Below w7.heap.size w7 w' ∧
                    w'.cell? ⟨w.heap.size, 0, none⟩ = some (.int .i64 W') ∧ w'.cell? ⟨w.heap.size, 1, none⟩ = some (.int .i64 H') ∧ w'.cell? ⟨w.heap.size, 2, none⟩ = some (.slice a1 gs.length c) ∧ w'.cell? ⟨w.heap.size, 3, none⟩ = some (.slice b1 os.length d) ∧ w'.cell? (x.add k) = some (.int .i64 t)) :=
                  (Step_ok _ W' H' gs os t g true w7.drew (F8.out.below (Below.refl _ _).drew) HG' T1.out hg).mono fun e w' ⟨h1, h3⟩ => by
                    have h4 : Below w7.heap.size w7 w' := ((Below.refl _ _).drew).trans h3
                    obtain ⟨y0, y1, y2, y3⟩ := X8.out.below h4 X8.out.lt
                    exact ⟨h1, h4, y0, y1, y2, y3, by rw [h4.cell (p := x.add k) (by rw [add_block]; exact Nat.lt_of_lt_of_le Hx.out.1 k7.size)]; exact cj⟩
                have Hg : Hid (gs[t]? = some g) := hg
                obtain ⟨x0, x1, x2, x3⟩ := X8.out
                clear HG' hg
                have j0 : (0 : Int) ≤ (k : Int) := by omega
                have j1 : (k : Int) < (ls.length : Int) := by omega
                have Onto : Hid (Fd.onto g true = if g = 1 then 0 else 1) := by
                  unfold Hid Fd.onto
                  by_cases h : g = 1
                  · rw [if_pos h, if_pos h]
                  · rw [if_neg h, if_neg h]; simp
                generalize Fd.onto g true = st at *
                go_wp2_with fail
                go_region_held3 (fun w' => w'.cell? ⟨w.heap.size, 0, none⟩ = some (.int .i64 W') ∧ w'.cell? ⟨w.heap.size, 1, none⟩ = some (.int .i64 H') ∧ w'.cell? ⟨w.heap.size, 2, none⟩ = some (.slice a1 gs.length c) ∧ w'.cell? ⟨w.heap.size, 3, none⟩ = some (.slice b1 os.length d) ∧ w'.cell? (x.add k) = some (.int .i64 t))
                  (go_keep)
                  ((go_at_call 14; refine Calls.mono S8.out ?_; rintro e w8 ⟨rfl, k8, y0, y1, y2, y3, y4⟩))
                have B9 : Hid (Below w.heap.size w w8) := B8.out.trans (k8.mono B8.out.size)
                have K9 : Hid (Below w5.heap.size w5 w8) := KB.out.trans ((k7.trans (k8.mono k7.size)).mono KB.out.size)
                obtain ⟨xg, rfl, cg⟩ : ∃ xg, a1 = some xg ∧ w8.cell? (xg.add t) = some (.int .i64 g) := by
                  obtain ⟨u1, u2, h1, ⟨a, c, h2, -, -, h4⟩, -⟩ := F8.out.below k8
                  obtain ⟨x, rfl, -, h6⟩ := h4 (by intro h; rw [h] at hgl; simp at hgl)
                  have e := h1
                  rw [h2] at e
                  simp only [Value.agg.injEq] at e
                  exact ⟨x, by grind, h6 t g Hg.out⟩
                clear k8 k7 B8 F8 X8 S8 x0 x1 x2 x3 cj
                have t0 : (0 : Int) ≤ (t : Int) := by omega
                have t1 : (t : Int) < (gs.length : Int) := by omega
                by_cases h5 : g = 1
                · subst h5
                  obtain rfl : st = 0 := by rw [Onto.out]; simp
                  clear Onto
                  go_wp2_with fail
                  go_quiet (fail)
                  go_wp2
                  go_round
                  case rel => exact ⟨k + 1, by omega, by go_num, below_drewN K9.out _⟩
                  case measure => simp [intOf]; omega
                · obtain rfl : st = 1 := by rw [Onto.out, if_neg h5]
                  clear Onto
                  have h6 : (g == 1) = false := by rw [beq_eq_false_iff_ne]; exact h5
                  go_wp2_with fail
                  go_quiet (fail)
                  go_wp2
                  go_round
                  case rel => exact ⟨k + 1, by omega, by go_num, below_drewN K9.out _⟩
                  case measure => simp [intOf]; omega
              · have hkj : k < j := by omega
                have hkl : k < ls.length := by omega
                have ck : w7.cell? (x.add k) = some (.int .i64 ls[k]) := by rw [k7.cell (p := x.add k) (by rw [add_block]; exact Hx.out.1)]; exact Hx.out.2 k _ (List.getElem?_eq_getElem hkl)
                have hne : ls[k] ≠ (t : Int) := by
                  have h3 := List.pairwise_iff_getElem.1 Er.out k j hkl hjl hkj
                  have h4 := Ht.out
                  rw [List.getElem?_eq_getElem hjl] at h4
                  injection h4 with h4
                  rw [h4] at h3
                  exact h3
                have hne' : ¬ ls[k] = (t : Int) := hne
                generalize ls[k] = y at *
                clear k7 hne
                go_wp2
                go_quiet (fail)
                go_wp2
                go_round
                case rel => exact ⟨k + 1, _, by omega, by go_num, Q.out _⟩
                case measure => simp [intOf]; omega
          · have hkm : k < ms.length := by omega
            obtain ⟨m, rfl, -, hm⟩ : ∃ m, ma = some m ∧ True ∧ ∀ i d, ms[i]? = some d → w6.cell? (m.add i) = some (.int .i64 d) := by
              obtain ⟨a, c, h1, -, -, h4⟩ := R7.out
              obtain ⟨x, rfl, h5, h6⟩ := h4 (by intro h; rw [h] at hkm; simp at hkm)
              injection h1 with h7
              exact ⟨x, h7, trivial, h6⟩
            have cm := hm k ms[k] (List.getElem?_eq_getElem hkm)
            have Es : Hid ((ms.take (k + 1)).any (· == (a' : Int)) = ((ms.take k).any (· == (a' : Int)) || (ms[k] == (a' : Int)))) := any_snoc (p := fun x => x == (a' : Int)) hkm
            generalize ms[k] = q at *
            clear hm
            cases hb : (ms.take k).any (· == (a' : Int)) with
            | true =>
              have Hb : Hid ((ms.take k).any (· == (a' : Int)) = true) := hb
              clear hb
              go_wp2
              go_round
              case rel => exact ⟨k + 1, by omega, by go_num, by rw [Es.out, Hb.out]; rfl⟩
              case measure => simp [intOf]; omega
            | false =>
              have Hb : Hid ((ms.take k).any (· == (a' : Int)) = false) := hb
              clear hb
              go_wp2
              go_round
              case rel => exact ⟨k + 1, by omega, by go_num, by rw [Es.out, Hb.out]; rfl⟩
              case measure => simp [intOf]; omega
  · have HF : Hid (Fd.askFault (Fd.fault W H gs os) gs.length [a] ≠ 0) := hF
    clear hF
    go_wp2_with fail
    refine (Near_bad _ W H gs os a _ _ F4.out rfl HF.out).mono ?_
    rintro e w5 ⟨rfl, k5⟩
    have B5 : Hid _ := B4.out.trans (k5.mono B4.out.size)
    clear k5
    go_wp2
    go_ret
    exact ⟨rfl, B5⟩

theorem walk (v0 : Value) (W0 H0 : Int) (gs0 os0 : List Int) (a1 : Int) (w : World) (f0 : Fl w v0 W0 H0 gs0 os0) (_ : (Lit.int .i64 a1).wf = true) (hs : Sd w) :
    Calls Tryd.prog 4 #[v0, .int .i64 a1] w fun e w' => e = .returned (.bool true) ∧ Below w.heap.size w w' := walk_any v0 W0 H0 gs0 os0 a1 w f0 hs
end Go.Proofs.YtbiknfaimplodaaDoor.fieldBeside
