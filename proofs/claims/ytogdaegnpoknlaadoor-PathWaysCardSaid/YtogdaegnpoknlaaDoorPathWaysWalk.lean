/- The walk of PathWays. -/
import Derived.Test.YtogdaegnpoknlaaDoorPsL
import Derived.Test.YtogdaegnpoknlaaDoorPyM
import Derived.Test.YtogdaegnpoknlaaDoorPwP
import Derived.Test.YtogdaegnpoknlaaDoorPwZ
import Derived.Test.YtogdaegnpoknlaaDoorLitN
import Derived.Test.YtogdaegnpoknlaaDoorFdArgs
import Derived.Test.YtogdaegnpoknlaaDoorFdLaid
import Derived.ProofKit
import Derived.OpenShut
import Derived.IntWalk
import Derived.Deep.RegionHeld3
import Derived.Deep.DeepCutAuto
namespace Go.Proofs.YtogdaegnpoknlaaDoor.pathWays
open Go.RowKit Wy
set_option linter.unusedVariables false

set_option maxRecDepth 100000 in
set_option maxHeartbeats 16000000 in
theorem walk_any (v : Value) (W H : Int) (gs os : List Int) (a m mo : Int) (fl : Bool) (w : World) (hf : Fl w v W H gs os) (hs : Sd w) :
    Calls Tryd.prog 5 #[v, .int .i64 a, .int .i64 m, .int .i64 mo, .bool fl] w fun e w' => e = .returned (.bool true) ∧ Below w.heap.size w w' := by
  have F0 : Hid (Fl w v W H gs os) := hf
  have S0 : Hid (Sd w) := hs
  obtain ⟨u1, u2, rfl, ⟨a1, c, rfl, c1, c2, -⟩, ⟨b1, d, rfl, d1, d2, -⟩⟩ := hf
  clear hs
  go_enter Tryd.func5, Tryd.ntmps5
  go_wp2_with fail
  have b0 : Below w.heap.size w (w.alloc (Obj.cells #[Value.int IntKind.i64 W, Value.int IntKind.i64 H, Value.slice a1 gs.length c, Value.slice b1 os.length d] 24)) := (Below.refl _ _).alloc (Nat.le_refl _) _
  have X0 := Bf.mk' (w := w) W H (Value.slice a1 gs.length c) (Value.slice b1 os.length d) rfl
  have z0 : (w.alloc (Obj.cells #[Value.int IntKind.i64 W, Value.int IntKind.i64 H, Value.slice a1 gs.length c, Value.slice b1 os.length d] 24)).heap.size = w.heap.size + 1 := by simp
  generalize w.alloc (Obj.cells #[Value.int IntKind.i64 W, Value.int IntKind.i64 H, Value.slice a1 gs.length c, Value.slice b1 os.length d] 24) = w0 at *
  have k1 := (Below.refl w0.heap.size w0).alloc (Nat.le_refl _) (Obj.cells #[Value.int IntKind.i64 0, Value.int IntKind.i64 3, Value.int IntKind.i64 0] 3)
  have l1 : Ro _ (.slice (some ⟨w.heap.size + 1, 0, none⟩) 3 3) [0, 3, 0] := Ro.lit (w := w0) (z := w.heap.size + 1) [0, 3, 0] #[Value.int IntKind.i64 0, Value.int IntKind.i64 3, Value.int IntKind.i64 0] rfl (by decide) z0
  have z1 : (w0.alloc (Obj.cells #[Value.int IntKind.i64 0, Value.int IntKind.i64 3, Value.int IntKind.i64 0] 3)).heap.size = w.heap.size + 1 + 1 := by simp [z0]
  have X1 := X0.below k1 X0.lt
  have b1' := b0.trans (k1.mono b0.size)
  clear b0 X0 z0 k1
  generalize w0.alloc (Obj.cells #[Value.int IntKind.i64 0, Value.int IntKind.i64 3, Value.int IntKind.i64 0] 3) = w1 at *
  have k2 := (Below.refl w1.heap.size w1).alloc (Nat.le_refl _) (Obj.cells #[Value.int IntKind.i64 0, Value.int IntKind.i64 0, Value.int IntKind.i64 0] 3)
  have l2 : Ro _ (.slice (some ⟨w.heap.size + 1 + 1, 0, none⟩) 3 3) [0, 0, 0] := Ro.lit (w := w1) (z := w.heap.size + 1 + 1) [0, 0, 0] #[Value.int IntKind.i64 0, Value.int IntKind.i64 0, Value.int IntKind.i64 0] rfl (by decide) z1
  have l3 := l1.below k2
  have X2 := X1.below k2 X1.lt
  have b2' := b1'.trans (k2.mono b1'.size)
  clear b1' l1 z1 X1 k2
  generalize w1.alloc (Obj.cells #[Value.int IntKind.i64 0, Value.int IntKind.i64 0, Value.int IntKind.i64 0] 3) = w2 at *
  have k3 := (Below.refl w2.heap.size w2).alloc (Nat.le_refl _) (Obj.cells #[Value.int IntKind.i64 3, Value.int IntKind.i64 1, Value.slice (some { block := w.heap.size + 1, off := 0 }) 3 3, Value.slice (some { block := w.heap.size + 1 + 1, off := 0 }) 3 3] 24)
  have B3 : Hid (Below w.heap.size w _) := b2'.trans (k3.mono b2'.size)
  have Fo : Hid (Fl _ (.agg #[Value.int IntKind.i64 3, Value.int IntKind.i64 1, Value.slice (some { block := w.heap.size + 1, off := 0 }) 3 3, Value.slice (some { block := w.heap.size + 1 + 1, off := 0 }) 3 3]) 3 1 [0, 3, 0] [0, 0, 0]) := ⟨_, _, rfl, l3.below k3, l2.below k3⟩
  have X3 : Hid (Bf _ w.heap.size W H (Value.slice a1 gs.length c) (Value.slice b1 os.length d)) := X2.below k3 X2.lt
  clear b2' l2 l3 X2 k3
  generalize w2.alloc (Obj.cells #[Value.int IntKind.i64 3, Value.int IntKind.i64 1, Value.slice (some { block := w.heap.size + 1, off := 0 }) 3 3, Value.slice (some { block := w.heap.size + 1 + 1, off := 0 }) 3 3] 24) = w3 at *
  refine (one_reach _ _ Fo.out (S0.out.below B3.out)).mono ?_
  rintro e w4 ⟨u, rfl, hu, k4⟩
  have B4 : Hid (Below w.heap.size w w4) := B3.out.trans (k4.mono B3.out.size)
  have X4 : Hid (Bf w4 w.heap.size W H (.slice a1 gs.length c) (.slice b1 os.length d)) := X3.out.below k4 X3.out.lt
  obtain ⟨pu, qu, rfl, o1, o2, hc⟩ := hu
  obtain ⟨y, rfl, yl, hy⟩ := hc (by simp)
  have y1 : w4.cell? ⟨y.block, y.off + 1, none⟩ = some (.int .i64 1) := hy 1 1 rfl
  simp only [List.length_cons, List.length_nil, Nat.zero_add, Nat.reduceAdd] at o1 ⊢
  obtain ⟨x0, x1, x2, x3⟩ := X4.out
  clear k4 hc hy Fo B3 X3 yl
  go_wp2_with fail
  clear y1 o1 o2 x0 x1 x2 x3
  by_cases hT : Fd.askFault (Fd.fault W H gs os) gs.length [a] = 0
  · obtain ⟨W', H', a', rfl, rfl, rfl, hG, ha⟩ := ask_ok hT
    have G0 : Hid (Fd.Good W' H' gs os) := hG
    have A0 : Hid (a' < W' * H') := ha
    by_cases hm : m < 0 ∨ 1000000 < m
    · refine (Reach_range _ W' H' gs os a' m fl _ (F0.out.below B4.out) (S0.out.below B4.out) G0.out A0.out hm).mono ?_
      rintro e w5 ⟨rfl, k5⟩
      have B5 : Hid (Below w.heap.size w w5) := B4.out.trans (k5.mono B4.out.size)
      clear k5 hT hm hG ha
      go_wp2
      go_ret
      exact ⟨rfl, B5⟩
    · have m0 : 0 ≤ m := by omega
      have m1 : m ≤ 1000000 := by omega
      refine (Reach_ok _ W' H' gs os a' m fl _ (F0.out.below B4.out) (S0.out.below B4.out) G0.out A0.out m0 m1).mono ?_
      rintro e w5 ⟨uA, l, rfl, hf, hu, k5⟩
      have B5 : Hid (Below w.heap.size w w5) := B4.out.trans (k5.mono B4.out.size)
      have X5 : Hid (Bf w5 w.heap.size W' H' (.slice a1 gs.length c) (.slice b1 os.length d)) := X4.out.below k5 X4.out.lt
      obtain ⟨n, hn⟩ : ∃ n, W' * H' = n := ⟨_, rfl⟩
      have Hn : Hid (W' * H' = n) := hn
      have n1 : n ≤ 144 := by rw [← hn]; exact hG.pos.2
      have Gl : Hid (gs.length = n) := by unfold Hid; rw [← hn]; exact hG.gl
      obtain ⟨ss, hss⟩ : ∃ ss, (gs.map fun g => Fd.onto g fl) = ss := ⟨_, rfl⟩
      have Hss : Hid ((gs.map fun g => Fd.onto g fl) = ss) := hss
      have E0 : Hid (Even (Fd.near W' H') (fun _ j => ss.getD j 0) n) := by have := even_to (H := H') hG.w1 gs fl; rw [hss, hn] at this; exact this
      rw [hn, hss] at hf
      rw [hn] at hu
      have HF : Hid (IsFar (Fd.near W' H') (fun i _ => ss.getD i 0) a' n l) := hf
      have an : a' < n := by rw [← hn]; exact ha
      obtain ⟨A, hA⟩ : ∃ A, rch l m n = A := ⟨_, rfl⟩
      rw [hA] at hu
      have EA : Hid (rch l m n = A) := hA
      have Al : A.length ≤ 144 := by rw [← hA]; exact Nat.le_trans (rch_len l m n) n1
      have R5 : Hid (Ro w5 uA A) := hu
      clear k5 hf hG ha hT hn hss hm B4 X4 hA
      obtain ⟨x0, x1, x2, x3⟩ := X5.out
      obtain ⟨aA, cA, rfl, f1, f2, -⟩ := hu
      go_wp2_with fail
      clear x0 x1 x2 x3
      by_cases hm : mo < 0 ∨ 1000000 < mo
      · refine (Reach_range _ W' H' gs os a' mo fl _ (F0.out.below B5.out) (S0.out.below B5.out) G0.out A0.out hm).mono ?_
        rintro e w6 ⟨rfl, k6⟩
        clear hm
        have B6 : Hid (Below w.heap.size w w6) := B5.out.trans (k6.mono B5.out.size)
        have X6 : Hid (Bf w6 w.heap.size W' H' (.slice a1 gs.length c) (.slice b1 os.length d)) := X5.out.below k6 X5.out.lt
        have R6 : Hid (Ro w6 (.slice aA A.length cA) A) := R5.out.below k6
        clear k6 B5 X5 R5
        go_wp2_with fail
        go_loopw [17] (fun i V => ∃ i' : Nat, i' ≤ A.length ∧ i = .int .i64 (i' : Nat) ∧ Below w6.heap.size w6 V) (fun i _ => A.length - (intOf i).toNat)
        case atStart => exact ⟨0, Nat.zero_le _, rfl, Below.refl _ _⟩
        case round =>
          obtain ⟨i, hi, rfl, hb⟩ := hrel
          have D7 : Hid (Below w6.heap.size w6 wr) := hb
          have B7 : Hid (Below w.heap.size w wr) := B6.out.trans (hb.mono B6.out.size)
          have X7 : Hid (Bf wr w.heap.size W' H' (.slice a1 gs.length c) (.slice b1 os.length d)) := X6.out.below hb X6.out.lt
          clear hb
          by_cases h0 : i = A.length
          · subst h0
            go_wp2
            go_ret
            exact ⟨rfl, B7⟩
          · have hil : i < A.length := by omega
            obtain ⟨c0, hc0, c0n, c00, c0m⟩ := rch_mem.1 (by rw [EA.out]; exact List.getElem_mem hil : A[i] ∈ rch l m n)
            have Hc : Hid (A[i]? = some (c0 : Int)) := by unfold Hid; rw [List.getElem?_eq_getElem hil, hc0]
            have Lc : Hid (0 ≤ l.getD c0 0 ∧ l.getD c0 0 ≤ m) := ⟨c00, c0m⟩
            have MA : Hid ((c0 : Int) ∈ A) := List.mem_of_getElem? Hc.out
            clear hc0 c00 c0m
            obtain ⟨a4, c4, e4, -, -, ca⟩ := R6.out
            injection e4 with e5 e6 e7
            subst e5
            obtain ⟨yA, rfl, yAl, hyA⟩ := ca (by intro h; rw [h] at hil; simp at hil)
            have YA : Hid (yA.block < w6.heap.size ∧ ∀ (k : Nat) x, A[k]? = some x → w6.cell? (yA.add k) = some (.int .i64 x)) := ⟨yAl, hyA⟩
            clear ca e6 e7 yAl hyA
            have il : i ≤ 144 := by omega
            go_upto_region 12 with fail
            go_cut [85] from 66 to 203 (fun v85 V => v85 = .bool false ∧ ∃ q, V = wr.drewN q)
            case first =>
              have cA1 : ∀ (k : Nat) x, A[k]? = some x → wr.cell? (yA.add k) = some (.int .i64 x) := fun k x hx => by rw [D7.out.cell (p := yA.add k) (by rw [add_block]; exact YA.out.1)]; exact YA.out.2 k x hx
              cases i with
              | zero =>
                clear cA1
                go_quiet (fail)
                go_wp2_with fail
                go_meet
                case rel => exact ⟨rfl, _, rfl⟩
              | succ i' =>
                obtain ⟨x', hx'⟩ : ∃ x', A[i']? = some x' := ⟨_, List.getElem?_eq_getElem (by omega)⟩
                have q1 : wr.cell? ⟨yA.block, yA.off + (i' + 1), none⟩ = some (.int .i64 (c0 : Nat)) := cA1 (i' + 1) _ Hc.out
                have q2 := cA1 i' _ hx'
                have hlt := rise_at (by rw [← EA.out]; exact rch_rise l m n) hx' Hc.out
                have hd : decide ((c0 : Int) ≤ x') = false := decide_eq_false (by omega)
                have ksub : (i' : Int) + 1 - 1 = (i' : Int) := by omega
                have kwr : IntKind.i64.wrap (i' : Int) = (i' : Int) := by rw [IntKind.wrap_i64]; omega
                have k0 : (0 : Int) < (i' : Int) + 1 := by omega
                have k1 : (i' : Int) + 1 < (A.length : Int) := by omega
                have k2 : (i' : Int) < (A.length : Int) := by omega
                clear cA1 hx' hlt
                go_quiet (fail)
                go_wp2_with fail
                go_meet
                case rel => exact ⟨rfl, _, rfl⟩
            case rest =>
              obtain ⟨rfl, qw, hqw⟩ := hcut
              have kq : Below wr.heap.size wr wc := by rw [hqw]; exact below_drewN (Below.refl _ _) _
              have D8 : Hid (Below w6.heap.size w6 wc) := D7.out.trans (kq.mono D7.out.size)
              have B8 : Hid (Below w.heap.size w wc) := B7.out.trans (kq.mono B7.out.size)
              have X8 : Hid (Bf wc w.heap.size W' H' (.slice a1 gs.length c) (.slice b1 os.length d)) := X7.out.below kq X7.out.lt
              have Yl8 : Hid (yA.block < wc.heap.size) := Nat.lt_of_lt_of_le YA.out.1 D8.out.size
              have ci : wc.cell? (yA.add i) = some (.int .i64 (c0 : Nat)) := by rw [D8.out.cell (p := yA.add i) (by rw [add_block]; exact YA.out.1)]; exact YA.out.2 i _ Hc.out
              clear hqw kq D7 B7 X7
              have CF : Hid (Calls Tryd.prog 8 #[.agg #[.int .i64 W', .int .i64 H', .slice a1 gs.length c, .slice b1 os.length d], .int .i64 (c0 : Nat), .bool fl] wc.drew fun e w' => ∃ u l', e = .returned (.tuple #[u, .nilIface]) ∧ Ro w' u l' ∧ IsFar (Fd.near W' H') (fun _ j => ss.getD j 0) c0 n l' ∧ Below wc.heap.size wc w' ∧ w'.cell? ⟨w.heap.size, 0, none⟩ = some (.int .i64 W') ∧ w'.cell? ⟨w.heap.size, 1, none⟩ = some (.int .i64 H') ∧ w'.cell? ⟨w.heap.size, 2, none⟩ = some (.slice a1 gs.length c) ∧ w'.cell? ⟨w.heap.size, 3, none⟩ = some (.slice b1 os.length d) ∧ w'.cell? (yA.add i) = some (.int .i64 (c0 : Nat))) := by
                refine (Far_ok _ W' H' gs os c0 fl wc.drew ((F0.out.below B8.out).below (Below.refl _ _).drew) ((S0.out.below B8.out).below (Below.refl _ _).drew) G0.out (by rw [Hn.out]; exact c0n)).mono ?_
                rintro e w' ⟨u, l', h1, h2, h3, h4⟩
                rw [Hss.out, Hn.out] at h3
                have h5 : Below wc.heap.size wc w' := ((Below.refl _ _).drew).trans h4
                obtain ⟨y0, y1, y2, y3⟩ := X8.out.below h5 X8.out.lt
                exact ⟨u, l', h1, h2, h3.1, h5, y0, y1, y2, y3, by rw [h5.cell (p := yA.add i) (by rw [add_block]; exact Yl8.out)]; exact ci⟩
              obtain ⟨x0, x1, x2, x3⟩ := X8.out
              have j0 : (0 : Int) ≤ (i : Int) := by omega
              have j1 : (i : Int) < (A.length : Int) := by omega
              go_wp2_with fail
              go_region_held3 (fun w' => w'.cell? ⟨w.heap.size, 0, none⟩ = some (.int .i64 W') ∧ w'.cell? ⟨w.heap.size, 1, none⟩ = some (.int .i64 H') ∧ w'.cell? ⟨w.heap.size, 2, none⟩ = some (.slice a1 gs.length c) ∧ w'.cell? ⟨w.heap.size, 3, none⟩ = some (.slice b1 os.length d) ∧ w'.cell? (yA.add i) = some (.int .i64 (c0 : Nat)))
                (go_keep)
                ((go_at_call 8; refine Calls.mono CF.out ?_; rintro e w9 ⟨u, l', rfl, hu, hl', k9, y0, y1, y2, y3, y4⟩))
              have HL : Hid (IsFar (Fd.near W' H') (fun _ j => ss.getD j 0) c0 n l') := hl'
              have D9 : Hid (Below w6.heap.size w6 w9) := D8.out.trans (k9.mono D8.out.size)
              have B9 : Hid (Below w.heap.size w w9) := B8.out.trans (k9.mono B8.out.size)
              have X9 : Hid (Bf w9 w.heap.size W' H' (.slice a1 gs.length c) (.slice b1 os.length d)) := X8.out.below k9 X8.out.lt
              have ll : l'.length = n := hl'.1
              obtain ⟨au, cu, rfl, g1, g2, hc⟩ := hu
              obtain ⟨yu, rfl, -, hyu⟩ := hc (by intro e; rw [e] at ll; simp at ll; omega)
              have cf := hyu a' _ (get_some ll an)
              have ef : l'.getD a' 0 = l.getD c0 0 := far_back E0.out HF.out hl' an c0n
              have Ef : Hid (l'.getD a' 0 = l.getD c0 0) := ef
              rw [ef] at cf
              have lc := Lc.out
              have Lm : Hid (l.getD c0 0 ≤ m) := Lc.out.2
              rw [ll] at g1 ⊢
              clear k9 hl' hc hyu ll ef D8 B8 X8 CF Yl8 ci x0 x1 x2 x3 y0 y1 y2 y3 y4
              obtain ⟨yc, hyc⟩ : ∃ yc, l.getD c0 0 = yc := ⟨_, rfl⟩
              rw [hyc] at cf lc Ef
              clear hyc Lc
              obtain ⟨lc0, lc1⟩ := lc
              have lc0' : ¬ yc < 0 := by omega
              have lc1' : ¬ m < yc := by omega
              go_wp2_with fail
              clear cf
              go_loopw [20, 21] (fun b j V => b = .bool true ∧ j = .int .i64 0 ∧ V = w9) (fun _ _ _ => 0)
              case atStart => exact ⟨rfl, rfl, rfl⟩
              case round =>
                obtain ⟨rfl, rfl, rfl⟩ := hrel
                have kq : Below wr.heap.size wr wr := Below.refl _ _
                obtain ⟨v0, hv0⟩ : ∃ v0, v0 = wr := ⟨_, rfl⟩
                rw [← hv0] at D9 B9 X9 ⊢
                have kq : Below v0.heap.size v0 v0 := Below.refl _ _
                clear hv0
                have D10 : Hid (Below w6.heap.size w6 v0) := D9.out.trans (kq.mono D9.out.size)
                have B10 : Hid (Below w.heap.size w v0) := B9.out.trans (kq.mono B9.out.size)
                have X10 : Hid (Bf v0 w.heap.size W' H' (.slice a1 gs.length c) (.slice b1 os.length d)) := X9.out.below kq X9.out.lt
                have Yl10 : Hid (yA.block < v0.heap.size) := Nat.lt_of_lt_of_le YA.out.1 D10.out.size
                have ci : v0.cell? (yA.add i) = some (.int .i64 (c0 : Nat)) := by rw [D10.out.cell (p := yA.add i) (by rw [add_block]; exact YA.out.1)]; exact YA.out.2 i _ Hc.out
                clear kq D9 B9 X9
                have CP : Hid (Calls Tryd.prog 13 #[.agg #[.int .i64 W', .int .i64 H', .slice a1 gs.length c, .slice b1 os.length d], .int .i64 (a' : Nat), .int .i64 (c0 : Nat), .bool fl] v0.drew fun e w' => ∃ u p, e = .returned (.tuple #[u, .nilIface]) ∧ Ro w' u p ∧ Pth (Fd.near W' H') ss l' c0 a' p ∧ p.length ≤ 1000 ∧ Below v0.heap.size v0 w' ∧ w'.cell? ⟨w.heap.size, 0, none⟩ = some (.int .i64 W') ∧ w'.cell? ⟨w.heap.size, 1, none⟩ = some (.int .i64 H') ∧ w'.cell? ⟨w.heap.size, 2, none⟩ = some (.slice a1 gs.length c) ∧ w'.cell? ⟨w.heap.size, 3, none⟩ = some (.slice b1 os.length d) ∧ w'.cell? (yA.add i) = some (.int .i64 (c0 : Nat))) := by
                  refine (Path_ok _ W' H' gs os a' c0 fl v0.drew ((F0.out.below B10.out).below (Below.refl _ _).drew) ((S0.out.below B10.out).below (Below.refl _ _).drew) G0.out A0.out (by rw [Hn.out]; exact c0n)).mono ?_
                  rintro e w' ⟨l2, h1, h2, h3⟩
                  rw [Hss.out, Hn.out] at h1
                  rw [Hss.out] at h2
                  have e2 := HL.out.uniq h1.1
                  subst e2
                  have h5 : Below v0.heap.size v0 w' := ((Below.refl _ _).drew).trans h3
                  obtain ⟨y0, y1, y2, y3⟩ := X10.out.below h5 X10.out.lt
                  rcases h2 with ⟨q0, _⟩ | ⟨q0, u, p, q1, q2, q3, q4⟩
                  · rw [Ef.out] at q0
                    omega
                  · exact ⟨u, p, q1, q2, q3, q4, h5, y0, y1, y2, y3, by rw [h5.cell (p := yA.add i) (by rw [add_block]; exact Yl10.out)]; exact ci⟩
                obtain ⟨x0, x1, x2, x3⟩ := X10.out
                go_wp2_with fail
                go_region_held3 (fun w' => w'.cell? ⟨w.heap.size, 0, none⟩ = some (.int .i64 W') ∧ w'.cell? ⟨w.heap.size, 1, none⟩ = some (.int .i64 H') ∧ w'.cell? ⟨w.heap.size, 2, none⟩ = some (.slice a1 gs.length c) ∧ w'.cell? ⟨w.heap.size, 3, none⟩ = some (.slice b1 os.length d) ∧ w'.cell? (yA.add i) = some (.int .i64 (c0 : Nat)))
                  (go_keep)
                  ((go_at_call 13; refine Calls.mono CP.out ?_; rintro e v1 ⟨u, p, rfl, hu, hpp, hpl, k11, y0, y1, y2, y3, y4⟩))
                have PP : Hid (Pth (Fd.near W' H') ss l' c0 a' p) := hpp
                have D11 : Hid (Below w6.heap.size w6 v1) := D10.out.trans (k11.mono D10.out.size)
                have pos := hpp.pos
                obtain ⟨ap, cp, rfl, g3, g4, hc⟩ := hu
                obtain ⟨yp, rfl, ypl, hyp⟩ := hc (by intro e; rw [e] at pos; simp at pos)
                have Yp : Hid (∀ (k : Nat) x, p[k]? = some x → v1.cell? (yp.add k) = some (.int .i64 x)) := hyp
                have YA1 : Hid (∀ (k : Nat) x, A[k]? = some x → v1.cell? (yA.add k) = some (.int .i64 x)) := fun k x hx => by rw [D11.out.cell (p := yA.add k) (by rw [add_block]; exact YA.out.1)]; exact YA.out.2 k x hx
                have p0 : v1.cell? yp = some (.int .i64 (a' : Nat)) := hyp 0 _ hpp.head
                obtain ⟨L, hL⟩ : ∃ L, p.length = L + 1 := ⟨p.length - 1, by omega⟩
                have pe : v1.cell? (yp.add L) = some (.int .i64 (c0 : Nat)) := by
                  have h2 := hpp.last
                  rw [List.getLast?_eq_getElem?, hL, Nat.add_sub_cancel] at h2
                  exact hyp L _ h2
                have ci1 : v1.cell? (yA.add i) = some (.int .i64 (c0 : Nat)) := YA1.out i _ Hc.out
                have HLp : Hid (p.length = L + 1) := hL
                rw [hL] at g3 hpl ⊢
                have ksub : (L : Int) + 1 - 1 = (L : Int) := by omega
                have kwr : IntKind.i64.wrap (L : Int) = (L : Int) := by rw [IntKind.wrap_i64]; omega
                have kz : ((L : Int) + 1 == 0) = false := by simp; omega
                have kz2 : ¬ (L : Int) + 1 = 0 := by omega
                have k0 : (0 : Int) < (L : Int) + 1 := by omega
                have k1 : (L : Int) < (L : Int) + 1 := by omega
                clear k11 hpp hc hyp ypl hL pos D10 B10 X10 CP Yl10 ci x0 x1 x2 x3 y0 y1 y2 y3 y4
                go_wp2
                go_quiet (fail)
                have D12 : Hid (Below w6.heap.size w6 (v1.drewN nq)) := below_drewN D11.out _
                have Yp2 : Hid (∀ (k : Nat) x, p[k]? = some x → (v1.drewN nq).cell? (yp.add k) = some (.int .i64 x)) := Yp
                have YA2 : Hid (∀ (k : Nat) x, A[k]? = some x → (v1.drewN nq).cell? (yA.add k) = some (.int .i64 x)) := YA1
                generalize v1.drewN nq = v3 at *
                clear p0 pe ci1 ksub kwr kz kz2 D11 Yp YA1
                go_wp2_with fail
                go_loopw [24] (fun j V => ∃ k r : Nat, k ≤ L + 1 ∧ j = .int .i64 (k : Nat) ∧ V = v3.drewN r) (fun j _ => L + 1 - (intOf j).toNat)
                case atStart => exact ⟨0, 0, Nat.zero_le _, rfl, rfl⟩
                case round =>
                  obtain ⟨k, r, hk, rfl, rfl⟩ := hrel
                  by_cases h2 : k = L + 1
                  · have D13 : Hid (Below w6.heap.size w6 (v3.drewN r)) := below_drewN D12.out _
                    generalize v3.drewN r = v4 at *
                    have h2' : (k : Int) = (L : Int) + 1 := by omega
                    clear D12 Yp2 YA2 h2
                    go_wp2
                    go_round
                    case rel => exact ⟨i + 1, by omega, by go_num, D13⟩
                    case measure => simp [intOf]; omega
                  · have hkl : k < L + 1 := by omega
                    obtain ⟨x, hx⟩ : ∃ x, p[k]? = some x := ⟨_, List.getElem?_eq_getElem (by rw [HLp.out]; exact hkl)⟩
                    obtain ⟨xx, rfl, hxn⟩ := PP.out.cells E0.out.lt an k x hx
                    have MX : Hid ((xx : Int) ∈ A) := by
                      unfold Hid
                      rw [← EA.out]
                      exact way_in E0.out HF.out HL.out an c0n (Lm.out) PP.out hx hxn
                    have cx := Yp2.out k _ hx
                    have hkl' : (k : Int) < (L : Int) + 1 := by omega
                    clear hx
                    go_wp2_with fail
                    go_loopw [25, 26] (fun b j V => ∃ q s : Nat, q ≤ A.length ∧ j = .int .i64 (q : Nat) ∧ b = .bool ((A.take q).any (· == (xx : Int))) ∧ V = v3.drewN s) (fun _ j _ => A.length - (intOf j).toNat)
                    case atStart => exact ⟨0, r, Nat.zero_le _, rfl, rfl, rfl⟩
                    case round =>
                      obtain ⟨q, s, hq, rfl, rfl, rfl⟩ := hrel
                      by_cases h3 : q = A.length
                      · subst h3
                        have e1 : (List.take A.length A).any (· == (xx : Int)) = true := by
                          rw [List.take_of_length_le (Nat.le_refl _), List.any_eq_true]
                          exact ⟨_, MX.out, by simp⟩
                        rw [e1]
                        have Q : Hid (v3.drewN s = v3.drewN s) := rfl
                        clear e1
                        go_wp2
                        go_round
                        case rel => exact ⟨k + 1, s, by omega, by go_num, rfl⟩
                        case measure => simp [intOf]; omega
                      · have hqA : q < A.length := by omega
                        have cq : (v3.drewN s).cell? (yA.add q) = some (.int .i64 A[q]) := YA2.out q _ (List.getElem?_eq_getElem hqA)
                        have cz' : (v3.drewN s).cell? (yp.add k) = some (.int .i64 (xx : Nat)) := cx
                        have As : Hid ((A.take (q + 1)).any (· == (xx : Int)) = ((A.take q).any (· == (xx : Int)) || (A[q] == (xx : Int)))) := any_next (p := (· == (xx : Int))) hqA
                        have Q : Hid (∀ n, (v3.drewN s).drewN n = v3.drewN (s + n)) := fun n => by rw [World.drewN_drewN]
                        generalize A[q] = mq at *
                        generalize v3.drewN s = v4 at *
                        cases hb : (A.take q).any (· == (xx : Int)) with
                        | true =>
                          rw [hb] at As
                          have As' : Hid ((A.take (q + 1)).any (· == (xx : Int)) = true) := by unfold Hid; rw [As.out]; rfl
                          clear As
                          go_wp2
                          go_quiet (fail)
                          go_wp2
                          go_round
                          case rel => exact ⟨q + 1, s + nq, by omega, by go_num, by rw [As'.out], Q.out _⟩
                          case measure => simp [intOf]; omega
                        | false =>
                          rw [hb] at As
                          have As' : Hid ((A.take (q + 1)).any (· == (xx : Int)) = (mq == (xx : Int))) := by unfold Hid; rw [As.out]; rfl
                          clear As
                          go_wp2
                          go_quiet (fail)
                          go_wp2
                          go_round
                          case rel => exact ⟨q + 1, s + nq, by omega, by go_num, by rw [As'.out], Q.out _⟩
                          case measure => simp [intOf]; omega
      · have mo0 : 0 ≤ mo := by omega
        have mo1 : mo ≤ 1000000 := by omega
        refine (Reach_ok _ W' H' gs os a' mo fl _ (F0.out.below B5.out) (S0.out.below B5.out) G0.out A0.out mo0 mo1).mono ?_
        rintro e w6 ⟨uB, l2, rfl, hf2, hu2, k6⟩
        rw [Hn.out, Hss.out] at hf2
        rw [Hn.out, ← HF.out.uniq hf2] at hu2
        obtain ⟨bl, hbl⟩ : ∃ bl, rch l mo n = bl := ⟨_, rfl⟩
        rw [hbl] at hu2
        have Bl' : bl.length ≤ 144 := by rw [← hbl]; exact Nat.le_trans (rch_len l mo n) n1
        have PB : Hid (m ≤ mo → ∀ x ∈ A, x ∈ bl) := fun h x hx => by rw [← hbl]; rw [← EA.out] at hx; exact rch_mono h hx
        have RB : Hid (Ro w6 uB bl) := hu2
        obtain ⟨aB, cB, rfl, f3, f4, -⟩ := hu2
        clear hm hf2 hbl
        have B6 : Hid (Below w.heap.size w w6) := B5.out.trans (k6.mono B5.out.size)
        have X6 : Hid (Bf w6 w.heap.size W' H' (.slice a1 gs.length c) (.slice b1 os.length d)) := X5.out.below k6 X5.out.lt
        have R6 : Hid (Ro w6 (.slice aA A.length cA) A) := R5.out.below k6
        clear k6 B5 X5 R5
        go_wp2_with fail
        go_loopw [17] (fun i V => ∃ i' : Nat, i' ≤ A.length ∧ i = .int .i64 (i' : Nat) ∧ Below w6.heap.size w6 V) (fun i _ => A.length - (intOf i).toNat)
        case atStart => exact ⟨0, Nat.zero_le _, rfl, Below.refl _ _⟩
        case round =>
          obtain ⟨i, hi, rfl, hb⟩ := hrel
          have D7 : Hid (Below w6.heap.size w6 wr) := hb
          have B7 : Hid (Below w.heap.size w wr) := B6.out.trans (hb.mono B6.out.size)
          have X7 : Hid (Bf wr w.heap.size W' H' (.slice a1 gs.length c) (.slice b1 os.length d)) := X6.out.below hb X6.out.lt
          clear hb
          by_cases h0 : i = A.length
          · subst h0
            go_wp2
            go_ret
            exact ⟨rfl, B7⟩
          · have hil : i < A.length := by omega
            obtain ⟨c0, hc0, c0n, c00, c0m⟩ := rch_mem.1 (by rw [EA.out]; exact List.getElem_mem hil : A[i] ∈ rch l m n)
            have Hc : Hid (A[i]? = some (c0 : Int)) := by unfold Hid; rw [List.getElem?_eq_getElem hil, hc0]
            have Lc : Hid (0 ≤ l.getD c0 0 ∧ l.getD c0 0 ≤ m) := ⟨c00, c0m⟩
            have MA : Hid ((c0 : Int) ∈ A) := List.mem_of_getElem? Hc.out
            clear hc0 c00 c0m
            obtain ⟨a4, c4, e4, -, -, ca⟩ := R6.out
            injection e4 with e5 e6 e7
            subst e5
            obtain ⟨yA, rfl, yAl, hyA⟩ := ca (by intro h; rw [h] at hil; simp at hil)
            have YA : Hid (yA.block < w6.heap.size ∧ ∀ (k : Nat) x, A[k]? = some x → w6.cell? (yA.add k) = some (.int .i64 x)) := ⟨yAl, hyA⟩
            clear ca e6 e7 yAl hyA
            have il : i ≤ 144 := by omega
            go_upto_region 12 with fail
            go_cut [85] from 66 to 203 (fun v85 V => v85 = .bool false ∧ ∃ q, V = wr.drewN q)
            case first =>
              have cA1 : ∀ (k : Nat) x, A[k]? = some x → wr.cell? (yA.add k) = some (.int .i64 x) := fun k x hx => by rw [D7.out.cell (p := yA.add k) (by rw [add_block]; exact YA.out.1)]; exact YA.out.2 k x hx
              cases i with
              | zero =>
                clear cA1
                go_quiet (fail)
                go_wp2_with fail
                go_meet
                case rel => exact ⟨rfl, _, rfl⟩
              | succ i' =>
                obtain ⟨x', hx'⟩ : ∃ x', A[i']? = some x' := ⟨_, List.getElem?_eq_getElem (by omega)⟩
                have q1 : wr.cell? ⟨yA.block, yA.off + (i' + 1), none⟩ = some (.int .i64 (c0 : Nat)) := cA1 (i' + 1) _ Hc.out
                have q2 := cA1 i' _ hx'
                have hlt := rise_at (by rw [← EA.out]; exact rch_rise l m n) hx' Hc.out
                have hd : decide ((c0 : Int) ≤ x') = false := decide_eq_false (by omega)
                have ksub : (i' : Int) + 1 - 1 = (i' : Int) := by omega
                have kwr : IntKind.i64.wrap (i' : Int) = (i' : Int) := by rw [IntKind.wrap_i64]; omega
                have k0 : (0 : Int) < (i' : Int) + 1 := by omega
                have k1 : (i' : Int) + 1 < (A.length : Int) := by omega
                have k2 : (i' : Int) < (A.length : Int) := by omega
                clear cA1 hx' hlt
                go_quiet (fail)
                go_wp2_with fail
                go_meet
                case rel => exact ⟨rfl, _, rfl⟩
            case rest =>
              obtain ⟨rfl, qw, hqw⟩ := hcut
              have kq : Below wr.heap.size wr wc := by rw [hqw]; exact below_drewN (Below.refl _ _) _
              have D8 : Hid (Below w6.heap.size w6 wc) := D7.out.trans (kq.mono D7.out.size)
              have B8 : Hid (Below w.heap.size w wc) := B7.out.trans (kq.mono B7.out.size)
              have X8 : Hid (Bf wc w.heap.size W' H' (.slice a1 gs.length c) (.slice b1 os.length d)) := X7.out.below kq X7.out.lt
              have Yl8 : Hid (yA.block < wc.heap.size) := Nat.lt_of_lt_of_le YA.out.1 D8.out.size
              have ci : wc.cell? (yA.add i) = some (.int .i64 (c0 : Nat)) := by rw [D8.out.cell (p := yA.add i) (by rw [add_block]; exact YA.out.1)]; exact YA.out.2 i _ Hc.out
              clear hqw kq D7 B7 X7
              have CF : Hid (Calls Tryd.prog 8 #[.agg #[.int .i64 W', .int .i64 H', .slice a1 gs.length c, .slice b1 os.length d], .int .i64 (c0 : Nat), .bool fl] wc.drew fun e w' => ∃ u l', e = .returned (.tuple #[u, .nilIface]) ∧ Ro w' u l' ∧ IsFar (Fd.near W' H') (fun _ j => ss.getD j 0) c0 n l' ∧ Below wc.heap.size wc w' ∧ w'.cell? ⟨w.heap.size, 0, none⟩ = some (.int .i64 W') ∧ w'.cell? ⟨w.heap.size, 1, none⟩ = some (.int .i64 H') ∧ w'.cell? ⟨w.heap.size, 2, none⟩ = some (.slice a1 gs.length c) ∧ w'.cell? ⟨w.heap.size, 3, none⟩ = some (.slice b1 os.length d) ∧ w'.cell? (yA.add i) = some (.int .i64 (c0 : Nat))) := by
                refine (Far_ok _ W' H' gs os c0 fl wc.drew ((F0.out.below B8.out).below (Below.refl _ _).drew) ((S0.out.below B8.out).below (Below.refl _ _).drew) G0.out (by rw [Hn.out]; exact c0n)).mono ?_
                rintro e w' ⟨u, l', h1, h2, h3, h4⟩
                rw [Hss.out, Hn.out] at h3
                have h5 : Below wc.heap.size wc w' := ((Below.refl _ _).drew).trans h4
                obtain ⟨y0, y1, y2, y3⟩ := X8.out.below h5 X8.out.lt
                exact ⟨u, l', h1, h2, h3.1, h5, y0, y1, y2, y3, by rw [h5.cell (p := yA.add i) (by rw [add_block]; exact Yl8.out)]; exact ci⟩
              obtain ⟨x0, x1, x2, x3⟩ := X8.out
              have j0 : (0 : Int) ≤ (i : Int) := by omega
              have j1 : (i : Int) < (A.length : Int) := by omega
              go_wp2_with fail
              go_region_held3 (fun w' => w'.cell? ⟨w.heap.size, 0, none⟩ = some (.int .i64 W') ∧ w'.cell? ⟨w.heap.size, 1, none⟩ = some (.int .i64 H') ∧ w'.cell? ⟨w.heap.size, 2, none⟩ = some (.slice a1 gs.length c) ∧ w'.cell? ⟨w.heap.size, 3, none⟩ = some (.slice b1 os.length d) ∧ w'.cell? (yA.add i) = some (.int .i64 (c0 : Nat)))
                (go_keep)
                ((go_at_call 8; refine Calls.mono CF.out ?_; rintro e w9 ⟨u, l', rfl, hu, hl', k9, y0, y1, y2, y3, y4⟩))
              have HL : Hid (IsFar (Fd.near W' H') (fun _ j => ss.getD j 0) c0 n l') := hl'
              have D9 : Hid (Below w6.heap.size w6 w9) := D8.out.trans (k9.mono D8.out.size)
              have B9 : Hid (Below w.heap.size w w9) := B8.out.trans (k9.mono B8.out.size)
              have X9 : Hid (Bf w9 w.heap.size W' H' (.slice a1 gs.length c) (.slice b1 os.length d)) := X8.out.below k9 X8.out.lt
              have ll : l'.length = n := hl'.1
              obtain ⟨au, cu, rfl, g1, g2, hc⟩ := hu
              obtain ⟨yu, rfl, -, hyu⟩ := hc (by intro e; rw [e] at ll; simp at ll; omega)
              have cf := hyu a' _ (get_some ll an)
              have ef : l'.getD a' 0 = l.getD c0 0 := far_back E0.out HF.out hl' an c0n
              have Ef : Hid (l'.getD a' 0 = l.getD c0 0) := ef
              rw [ef] at cf
              have lc := Lc.out
              have Lm : Hid (l.getD c0 0 ≤ m) := Lc.out.2
              rw [ll] at g1 ⊢
              clear k9 hl' hc hyu ll ef D8 B8 X8 CF Yl8 ci x0 x1 x2 x3 y0 y1 y2 y3 y4
              obtain ⟨yc, hyc⟩ : ∃ yc, l.getD c0 0 = yc := ⟨_, rfl⟩
              rw [hyc] at cf lc Ef
              clear hyc Lc
              obtain ⟨lc0, lc1⟩ := lc
              have lc0' : ¬ yc < 0 := by omega
              have lc1' : ¬ m < yc := by omega
              go_wp2_with fail
              clear cf
              have PBi : Hid ((decide (mo < m) || bl.any (· == (c0 : Int))) = true) := by
                by_cases h : mo < m
                · unfold Hid; rw [decide_eq_true h]; rfl
                · have : bl.any (· == (c0 : Int)) = true := List.any_eq_true.2 ⟨_, PB.out (by omega) _ MA.out, by simp⟩
                  unfold Hid
                  rw [this, Bool.or_true]
              have RB9 : Hid (Ro w9 (.slice aB bl.length cB) bl) := RB.out.below D9.out
              have ci9 : w9.cell? (yA.add i) = some (.int .i64 (c0 : Nat)) := by rw [D9.out.cell (p := yA.add i) (by rw [add_block]; exact YA.out.1)]; exact YA.out.2 i _ Hc.out
              go_loopw [20, 21] (fun b j V => ∃ q r : Nat, q ≤ bl.length ∧ j = .int .i64 (q : Nat) ∧ b = .bool (decide (mo < m) || (bl.take q).any (· == (c0 : Int))) ∧ V = w9.drewN r) (fun _ j _ => bl.length - (intOf j).toNat)
              case atStart => exact ⟨0, 0, Nat.zero_le _, rfl, by simp, rfl⟩
              case round =>
                obtain ⟨q, r, hq, rfl, rfl, rfl⟩ := hrel
                by_cases h1 : q = bl.length
                · have e1 : (decide (mo < m) || (bl.take q).any (· == (c0 : Int))) = true := by
                    rw [h1, List.take_of_length_le (Nat.le_refl _)]
                    exact PBi.out
                  rw [e1]
                  subst h1
                  have kq : Below w9.heap.size w9 (w9.drewN r) := below_drewN (Below.refl _ _) _
                  generalize w9.drewN r = v0 at *
                  clear e1 ci9 RB9
                  have D10 : Hid (Below w6.heap.size w6 v0) := D9.out.trans (kq.mono D9.out.size)
                  have B10 : Hid (Below w.heap.size w v0) := B9.out.trans (kq.mono B9.out.size)
                  have X10 : Hid (Bf v0 w.heap.size W' H' (.slice a1 gs.length c) (.slice b1 os.length d)) := X9.out.below kq X9.out.lt
                  have Yl10 : Hid (yA.block < v0.heap.size) := Nat.lt_of_lt_of_le YA.out.1 D10.out.size
                  have ci : v0.cell? (yA.add i) = some (.int .i64 (c0 : Nat)) := by rw [D10.out.cell (p := yA.add i) (by rw [add_block]; exact YA.out.1)]; exact YA.out.2 i _ Hc.out
                  clear kq D9 B9 X9
                  have CP : Hid (Calls Tryd.prog 13 #[.agg #[.int .i64 W', .int .i64 H', .slice a1 gs.length c, .slice b1 os.length d], .int .i64 (a' : Nat), .int .i64 (c0 : Nat), .bool fl] v0.drew fun e w' => ∃ u p, e = .returned (.tuple #[u, .nilIface]) ∧ Ro w' u p ∧ Pth (Fd.near W' H') ss l' c0 a' p ∧ p.length ≤ 1000 ∧ Below v0.heap.size v0 w' ∧ w'.cell? ⟨w.heap.size, 0, none⟩ = some (.int .i64 W') ∧ w'.cell? ⟨w.heap.size, 1, none⟩ = some (.int .i64 H') ∧ w'.cell? ⟨w.heap.size, 2, none⟩ = some (.slice a1 gs.length c) ∧ w'.cell? ⟨w.heap.size, 3, none⟩ = some (.slice b1 os.length d) ∧ w'.cell? (yA.add i) = some (.int .i64 (c0 : Nat))) := by
                    refine (Path_ok _ W' H' gs os a' c0 fl v0.drew ((F0.out.below B10.out).below (Below.refl _ _).drew) ((S0.out.below B10.out).below (Below.refl _ _).drew) G0.out A0.out (by rw [Hn.out]; exact c0n)).mono ?_
                    rintro e w' ⟨l2, h1, h2, h3⟩
                    rw [Hss.out, Hn.out] at h1
                    rw [Hss.out] at h2
                    have e2 := HL.out.uniq h1.1
                    subst e2
                    have h5 : Below v0.heap.size v0 w' := ((Below.refl _ _).drew).trans h3
                    obtain ⟨y0, y1, y2, y3⟩ := X10.out.below h5 X10.out.lt
                    rcases h2 with ⟨q0, _⟩ | ⟨q0, u, p, q1, q2, q3, q4⟩
                    · rw [Ef.out] at q0
                      omega
                    · exact ⟨u, p, q1, q2, q3, q4, h5, y0, y1, y2, y3, by rw [h5.cell (p := yA.add i) (by rw [add_block]; exact Yl10.out)]; exact ci⟩
                  obtain ⟨x0, x1, x2, x3⟩ := X10.out
                  go_wp2_with fail
                  go_region_held3 (fun w' => w'.cell? ⟨w.heap.size, 0, none⟩ = some (.int .i64 W') ∧ w'.cell? ⟨w.heap.size, 1, none⟩ = some (.int .i64 H') ∧ w'.cell? ⟨w.heap.size, 2, none⟩ = some (.slice a1 gs.length c) ∧ w'.cell? ⟨w.heap.size, 3, none⟩ = some (.slice b1 os.length d) ∧ w'.cell? (yA.add i) = some (.int .i64 (c0 : Nat)))
                    (go_keep)
                    ((go_at_call 13; refine Calls.mono CP.out ?_; rintro e v1 ⟨u, p, rfl, hu, hpp, hpl, k11, y0, y1, y2, y3, y4⟩))
                  have PP : Hid (Pth (Fd.near W' H') ss l' c0 a' p) := hpp
                  have D11 : Hid (Below w6.heap.size w6 v1) := D10.out.trans (k11.mono D10.out.size)
                  have pos := hpp.pos
                  obtain ⟨ap, cp, rfl, g3, g4, hc⟩ := hu
                  obtain ⟨yp, rfl, ypl, hyp⟩ := hc (by intro e; rw [e] at pos; simp at pos)
                  have Yp : Hid (∀ (k : Nat) x, p[k]? = some x → v1.cell? (yp.add k) = some (.int .i64 x)) := hyp
                  have YA1 : Hid (∀ (k : Nat) x, A[k]? = some x → v1.cell? (yA.add k) = some (.int .i64 x)) := fun k x hx => by rw [D11.out.cell (p := yA.add k) (by rw [add_block]; exact YA.out.1)]; exact YA.out.2 k x hx
                  have p0 : v1.cell? yp = some (.int .i64 (a' : Nat)) := hyp 0 _ hpp.head
                  obtain ⟨L, hL⟩ : ∃ L, p.length = L + 1 := ⟨p.length - 1, by omega⟩
                  have pe : v1.cell? (yp.add L) = some (.int .i64 (c0 : Nat)) := by
                    have h2 := hpp.last
                    rw [List.getLast?_eq_getElem?, hL, Nat.add_sub_cancel] at h2
                    exact hyp L _ h2
                  have ci1 : v1.cell? (yA.add i) = some (.int .i64 (c0 : Nat)) := YA1.out i _ Hc.out
                  have HLp : Hid (p.length = L + 1) := hL
                  rw [hL] at g3 hpl ⊢
                  have ksub : (L : Int) + 1 - 1 = (L : Int) := by omega
                  have kwr : IntKind.i64.wrap (L : Int) = (L : Int) := by rw [IntKind.wrap_i64]; omega
                  have kz : ((L : Int) + 1 == 0) = false := by simp; omega
                  have kz2 : ¬ (L : Int) + 1 = 0 := by omega
                  have k0 : (0 : Int) < (L : Int) + 1 := by omega
                  have k1 : (L : Int) < (L : Int) + 1 := by omega
                  clear k11 hpp hc hyp ypl hL pos D10 B10 X10 CP Yl10 ci x0 x1 x2 x3 y0 y1 y2 y3 y4
                  go_wp2
                  go_quiet (fail)
                  have D12 : Hid (Below w6.heap.size w6 (v1.drewN nq)) := below_drewN D11.out _
                  have Yp2 : Hid (∀ (k : Nat) x, p[k]? = some x → (v1.drewN nq).cell? (yp.add k) = some (.int .i64 x)) := Yp
                  have YA2 : Hid (∀ (k : Nat) x, A[k]? = some x → (v1.drewN nq).cell? (yA.add k) = some (.int .i64 x)) := YA1
                  generalize v1.drewN nq = v3 at *
                  clear p0 pe ci1 ksub kwr kz kz2 D11 Yp YA1
                  go_wp2_with fail
                  go_loopw [24] (fun j V => ∃ k r : Nat, k ≤ L + 1 ∧ j = .int .i64 (k : Nat) ∧ V = v3.drewN r) (fun j _ => L + 1 - (intOf j).toNat)
                  case atStart => exact ⟨0, 0, Nat.zero_le _, rfl, rfl⟩
                  case round =>
                    obtain ⟨k, r, hk, rfl, rfl⟩ := hrel
                    by_cases h2 : k = L + 1
                    · have D13 : Hid (Below w6.heap.size w6 (v3.drewN r)) := below_drewN D12.out _
                      generalize v3.drewN r = v4 at *
                      have h2' : (k : Int) = (L : Int) + 1 := by omega
                      clear D12 Yp2 YA2 h2
                      go_wp2
                      go_round
                      case rel => exact ⟨i + 1, by omega, by go_num, D13⟩
                      case measure => simp [intOf]; omega
                    · have hkl : k < L + 1 := by omega
                      obtain ⟨x, hx⟩ : ∃ x, p[k]? = some x := ⟨_, List.getElem?_eq_getElem (by rw [HLp.out]; exact hkl)⟩
                      obtain ⟨xx, rfl, hxn⟩ := PP.out.cells E0.out.lt an k x hx
                      have MX : Hid ((xx : Int) ∈ A) := by
                        unfold Hid
                        rw [← EA.out]
                        exact way_in E0.out HF.out HL.out an c0n (Lm.out) PP.out hx hxn
                      have cx := Yp2.out k _ hx
                      have hkl' : (k : Int) < (L : Int) + 1 := by omega
                      clear hx
                      go_wp2_with fail
                      go_loopw [25, 26] (fun b j V => ∃ q s : Nat, q ≤ A.length ∧ j = .int .i64 (q : Nat) ∧ b = .bool ((A.take q).any (· == (xx : Int))) ∧ V = v3.drewN s) (fun _ j _ => A.length - (intOf j).toNat)
                      case atStart => exact ⟨0, r, Nat.zero_le _, rfl, rfl, rfl⟩
                      case round =>
                        obtain ⟨q, s, hq, rfl, rfl, rfl⟩ := hrel
                        by_cases h3 : q = A.length
                        · subst h3
                          have e1 : (List.take A.length A).any (· == (xx : Int)) = true := by
                            rw [List.take_of_length_le (Nat.le_refl _), List.any_eq_true]
                            exact ⟨_, MX.out, by simp⟩
                          rw [e1]
                          have Q : Hid (v3.drewN s = v3.drewN s) := rfl
                          clear e1
                          go_wp2
                          go_round
                          case rel => exact ⟨k + 1, s, by omega, by go_num, rfl⟩
                          case measure => simp [intOf]; omega
                        · have hqA : q < A.length := by omega
                          have cq : (v3.drewN s).cell? (yA.add q) = some (.int .i64 A[q]) := YA2.out q _ (List.getElem?_eq_getElem hqA)
                          have cz' : (v3.drewN s).cell? (yp.add k) = some (.int .i64 (xx : Nat)) := cx
                          have As : Hid ((A.take (q + 1)).any (· == (xx : Int)) = ((A.take q).any (· == (xx : Int)) || (A[q] == (xx : Int)))) := any_next (p := (· == (xx : Int))) hqA
                          have Q : Hid (∀ n, (v3.drewN s).drewN n = v3.drewN (s + n)) := fun n => by rw [World.drewN_drewN]
                          generalize A[q] = mq at *
                          generalize v3.drewN s = v4 at *
                          cases hb : (A.take q).any (· == (xx : Int)) with
                          | true =>
                            rw [hb] at As
                            have As' : Hid ((A.take (q + 1)).any (· == (xx : Int)) = true) := by unfold Hid; rw [As.out]; rfl
                            clear As
                            go_wp2
                            go_quiet (fail)
                            go_wp2
                            go_round
                            case rel => exact ⟨q + 1, s + nq, by omega, by go_num, by rw [As'.out], Q.out _⟩
                            case measure => simp [intOf]; omega
                          | false =>
                            rw [hb] at As
                            have As' : Hid ((A.take (q + 1)).any (· == (xx : Int)) = (mq == (xx : Int))) := by unfold Hid; rw [As.out]; rfl
                            clear As
                            go_wp2
                            go_quiet (fail)
                            go_wp2
                            go_round
                            case rel => exact ⟨q + 1, s + nq, by omega, by go_num, by rw [As'.out], Q.out _⟩
                            case measure => simp [intOf]; omega
                · have hql : q < bl.length := by omega
                  obtain ⟨a4, c4, e4, -, -, ca⟩ := RB9.out
                  injection e4 with e5 e6 e7
                  subst e5
                  obtain ⟨yn, rfl, -, hy⟩ := ca (by intro h; rw [h] at hql; simp at hql)
                  have cq : (w9.drewN r).cell? (yn.add q) = some (.int .i64 bl[q]) := hy q _ (List.getElem?_eq_getElem hql)
                  have cz' : (w9.drewN r).cell? (yA.add i) = some (.int .i64 (c0 : Nat)) := ci9
                  have As : Hid ((bl.take (q + 1)).any (· == (c0 : Int)) = ((bl.take q).any (· == (c0 : Int)) || (bl[q] == (c0 : Int)))) := any_next (p := (· == (c0 : Int))) hql
                  have Q : Hid (∀ n, (w9.drewN r).drewN n = w9.drewN (r + n)) := fun n => by rw [World.drewN_drewN]
                  generalize bl[q] = mq at *
                  generalize w9.drewN r = v2 at *
                  clear hy ca e6 e7 ci9
                  cases hb : (decide (mo < m) || (bl.take q).any (· == (c0 : Int))) with
                  | true =>
                    have As' : Hid ((decide (mo < m) || (bl.take (q + 1)).any (· == (c0 : Int))) = true) := by unfold Hid; rw [As.out, ← Bool.or_assoc, hb]; rfl
                    clear As
                    go_wp2
                    go_quiet (fail)
                    go_wp2
                    go_round
                    case rel => exact ⟨q + 1, r + nq, by omega, by go_num, by rw [As'.out], Q.out _⟩
                    case measure => simp [intOf]; omega
                  | false =>
                    have As' : Hid ((decide (mo < m) || (bl.take (q + 1)).any (· == (c0 : Int))) = (mq == (c0 : Int))) := by unfold Hid; rw [As.out, ← Bool.or_assoc, hb]; rfl
                    clear As
                    go_wp2
                    go_quiet (fail)
                    go_wp2
                    go_round
                    case rel => exact ⟨q + 1, r + nq, by omega, by go_num, by rw [As'.out], Q.out _⟩
                    case measure => simp [intOf]; omega
  · refine (Reach_bad _ W H gs os a m _ fl _ (F0.out.below B4.out) (S0.out.below B4.out) rfl hT).mono ?_
    rintro e w5 ⟨rfl, k5⟩
    have B5 : Hid (Below w.heap.size w w5) := B4.out.trans (k5.mono B4.out.size)
    clear k5 hT
    go_wp2
    go_ret
    exact ⟨rfl, B5⟩

theorem walk (v0 : Value) (W0 H0 : Int) (gs0 os0 : List Int) (a1 a2 a3 : Int) (a4 : Bool) (w : World) (f0 : Fl w v0 W0 H0 gs0 os0) (_ : (Lit.int .i64 a1).wf = true) (_ : (Lit.int .i64 a2).wf = true) (_ : (Lit.int .i64 a3).wf = true) (hs : Sd w) :
    Calls Tryd.prog 5 #[v0, .int .i64 a1, .int .i64 a2, .int .i64 a3, .bool a4] w fun e w' => e = .returned (.bool true) ∧ Below w.heap.size w w' := walk_any v0 W0 H0 gs0 os0 a1 a2 a3 a4 w f0 hs
end Go.Proofs.YtogdaegnpoknlaaDoor.pathWays
