/- Whole numbers of any size: what mul does at one or two words each. -/
import Derived.Test.YthdpafcodmlenaaDoorBig5
namespace Go.Proofs.YthdpafcodmlenaaDoor
open Go.RowKit

theorem mul_bd (a b : Int) (ha : 0 ≤ a ∧ a < 4294967296) (hb : 0 ≤ b ∧ b < 4294967296) : 0 ≤ a * b ∧ a * b ≤ 18446744065119617025 := by
  refine ⟨Int.mul_nonneg ha.1 hb.1, ?_⟩
  have : a * b ≤ 4294967295 * 4294967295 := Int.mul_le_mul (by omega) (by omega) hb.1 (by omega)
  omega

theorem ex_12 (a b c : Int) : a * (b + 4294967296 * c) = a * b + 4294967296 * (a * c) := by
  rw [Int.mul_add, Int.mul_left_comm]
theorem ex_21 (a b c : Int) : (b + 4294967296 * c) * a = b * a + 4294967296 * (c * a) := by
  rw [Int.add_mul, Int.mul_assoc]
theorem ex_22 (a b c d : Int) : (a + 4294967296 * b) * (c + 4294967296 * d) = a * c + 4294967296 * (a * d) + 4294967296 * (b * c) + 18446744073709551616 * (b * d) := by
  rw [ex_21, ex_12, ex_12]
  omega

/-- a number in two parts. -/
theorem part (n : Int) (h0 : 0 ≤ n) (h1 : n < 18446744073709551616) : ∃ r k, n % 4294967296 = r ∧ n / 4294967296 = k ∧ 0 ≤ r ∧ r < 4294967296 ∧ 0 ≤ k ∧ k < 4294967296 ∧ n = r + 4294967296 * k :=
  ⟨_, _, rfl, rfl, by omega, by omega, by omega, by omega, by omega⟩

/-- a row of words that the call has made. -/
structure Rw (w W : World) (cs : Array Value) : Prop where
  below : Below w.heap.size w W
  row : W.heap[w.heap.size]? = some (.cells cs 56 (0, 0))

theorem Rw.new (w : World) (cs : Array Value) : Rw w (w.alloc (.cells cs 56)) cs :=
  ⟨(Below.refl _ _).alloc (Nat.le_refl _) _, by show (w.heap.push _)[w.heap.size]? = _; simp⟩
theorem Rw.set {w W : World} {cs : Array Value} (h : Rw w W cs) (i : Nat) (v : Value) : Rw w (W.setCell ⟨w.heap.size, i, none⟩ v) (cs.setIfInBounds i v) :=
  ⟨h.below.setCell (Nat.le_refl _) _, heap_setCell_same W w.heap.size i _ _ v h.row⟩
theorem Rw.draw {w W : World} {cs : Array Value} (h : Rw w W cs) (n : Nat) : Rw w (W.drewN n) cs :=
  ⟨below_drewN h.below n, h.row⟩
theorem Rw.cell {w W : World} {cs : Array Value} (h : Rw w W cs) (i : Nat) {v : Value} (hv : cs[i]? = some v) : W.cell? ⟨w.heap.size, i, none⟩ = some v := by
  simp [World.cell?, h.row, hv]
theorem Rw.thaw {w W : World} {cs : Array Value} (h : Rw w W cs) (i : Nat) : W.frozen? ⟨w.heap.size, i, none⟩ = false := by
  simp [World.frozen?, h.row]
theorem Rw.old {w W : World} {cs : Array Value} (h : Rw w W cs) {p i : Nat} {v : Value} (hp : p < w.heap.size) (hv : w.cell? ⟨p, i, none⟩ = some v) : W.cell? ⟨p, i, none⟩ = some v := by
  rw [h.below.cell (p := ⟨p, i, none⟩) hp]; exact hv

theorem gen_world (P G : World → Prop) (W : World) (h : P W) (hG : ∀ W', P W' → G W') : G W := hG W h

set_option maxHeartbeats 1000000 in
theorem mul_11 (p q cp cq : Nat) (a0 b0 : Int) (w : World) (ha0 : 0 ≤ a0 ∧ a0 < 4294967296) (hb0 : 0 ≤ b0 ∧ b0 < 4294967296) (hp : p < w.heap.size) (hq : q < w.heap.size)
    (p0 : w.cell? ⟨p, 0, none⟩ = some (.int .u32 a0)) (q0 : w.cell? ⟨q, 0, none⟩ = some (.int .u32 b0)) :
    Calls Tryd.prog 23 #[.slice (some ⟨p, 0, none⟩) 1 cp, .slice (some ⟨q, 0, none⟩) 1 cq] w fun e w' => ∃ v ds, e = .returned v ∧ Sl w' v ds ∧ Bg.Nrm ds ∧ Bg.val ds = a0 * b0 ∧ Below w.heap.size w w' := by
  have mk := make2
  obtain ⟨ma0b0, na0b0⟩ := mul_bd a0 b0 ha0 hb0
  obtain ⟨ha00, ha01⟩ := ha0
  obtain ⟨hb00, hb01⟩ := hb0
  obtain ⟨r00, k00, er00, ek00, ur00, vr00, uk00, vk00, en00⟩ := part (a0 * b0) (by omega) (by omega)
  have Lv : Hid (r00 + 4294967296 * k00 = a0 * b0) := by
    unfold Hid
    clear er00 ek00
    omega
  clear en00
  go_enter Tryd.func23, Tryd.ntmps23
  go_wp2
  refine wp_loop_rounds 2 ?_
  refine gen_world (fun W => Rw w W #[.int .u32 0, .int .u32 0]) (Code.rounds _ _ _ _ _) _ (Rw.new w _) ?_
  intro W1 R1
  have H1 : Hid (Rw w W1 #[.int .u32 0, .int .u32 0]) := R1
  have c0 := R1.cell 0 (v := .int .u32 0) rfl
  have c1 := R1.cell 1 (v := .int .u32 0) rfl
  have z0 := R1.thaw 0
  have z1 := R1.thaw 1
  have x0 := R1.old hp p0
  have y0 := R1.old hq q0
  clear R1
  rw [rounds_succ]
  go_wp2
  refine wp_loop_rounds 2 ?_
  rw [rounds_succ]
  go_wp2
  go_quiet (fail)
  go_wp2
  clear c0 z0 c1 z1 x0 y0
  refine gen_world (fun W => Rw w W #[.int .u32 r00, .int .u32 0]) (Code.rounds _ _ _ _ _) _ ((Rw.draw H1 _).set 0 _) ?_
  intro W2 R2
  have H2 : Hid (Rw w W2 #[.int .u32 r00, .int .u32 0]) := R2
  have c0 := R2.cell 0 (v := .int .u32 r00) rfl
  have c1 := R2.cell 1 (v := .int .u32 0) rfl
  have z0 := R2.thaw 0
  have z1 := R2.thaw 1
  have x0 := R2.old hp p0
  have y0 := R2.old hq q0
  clear R2
  clear H1
  rw [rounds_succ]
  go_wp2
  clear c0 z0 c1 z1 x0 y0
  refine gen_world (fun W => Rw w W #[.int .u32 r00, .int .u32 k00]) (Code.rounds _ _ _ _ _) _ (Rw.set H2 1 _) ?_
  intro W3 R3
  have H3 : Hid (Rw w W3 #[.int .u32 r00, .int .u32 k00]) := R3
  have c0 := R3.cell 0 (v := .int .u32 r00) rfl
  have c1 := R3.cell 1 (v := .int .u32 k00) rfl
  have z0 := R3.thaw 0
  have z1 := R3.thaw 1
  have x0 := R3.old hp p0
  have y0 := R3.old hq q0
  clear R3
  clear H2
  rw [rounds_succ]
  go_wp2_with fail
  refine (trim_sl w.heap.size 2 2 [r00, k00] _ rfl (wds2 ⟨ur00, vr00⟩ ⟨uk00, vk00⟩) (by omega) (by omega) (lt_of_block H3.out.row) (cells2 c0 c1)).mono ?_
  rintro e w1 ⟨v, ds, rfl, hs, hn, hv, rfl⟩
  have Hs : Hid (Sl _ v ds) := hs
  have Hn : Hid (Bg.Nrm ds) := hn
  have Hv : Hid (Bg.val ds = a0 * b0) := by
    unfold Hid
    rw [hv, ← Lv.out]
    simp only [Bg.val, Int.mul_zero, Int.add_zero]
  clear hs hn hv
  go_wp2
  go_ret
  exact ⟨v, ds, rfl, Hs, Hn, Hv, H3.out.below⟩

set_option maxHeartbeats 1000000 in
theorem mul_12 (p q cp cq : Nat) (a0 b0 b1 : Int) (w : World) (ha0 : 0 ≤ a0 ∧ a0 < 4294967296) (hb0 : 0 ≤ b0 ∧ b0 < 4294967296) (hb1 : 0 ≤ b1 ∧ b1 < 4294967296) (hp : p < w.heap.size) (hq : q < w.heap.size)
    (p0 : w.cell? ⟨p, 0, none⟩ = some (.int .u32 a0)) (q0 : w.cell? ⟨q, 0, none⟩ = some (.int .u32 b0)) (q1 : w.cell? ⟨q, 1, none⟩ = some (.int .u32 b1)) :
    Calls Tryd.prog 23 #[.slice (some ⟨p, 0, none⟩) 1 cp, .slice (some ⟨q, 0, none⟩) 2 cq] w fun e w' => ∃ v ds, e = .returned v ∧ Sl w' v ds ∧ Bg.Nrm ds ∧ Bg.val ds = a0 * (b0 + 4294967296 * b1) ∧ Below w.heap.size w w' := by
  have mk := make3
  obtain ⟨ma0b0, na0b0⟩ := mul_bd a0 b0 ha0 hb0
  obtain ⟨ma0b1, na0b1⟩ := mul_bd a0 b1 ha0 hb1
  obtain ⟨ha00, ha01⟩ := ha0
  obtain ⟨hb00, hb01⟩ := hb0
  obtain ⟨hb10, hb11⟩ := hb1
  obtain ⟨r00, k00, er00, ek00, ur00, vr00, uk00, vk00, en00⟩ := part (a0 * b0) (by omega) (by omega)
  obtain ⟨r01, k01, er01, ek01, ur01, vr01, uk01, vk01, en01⟩ := part (k00 + a0 * b1) (by omega) (by omega)
  have Lv : Hid (r00 + 4294967296 * (r01 + 4294967296 * k01) = a0 * (b0 + 4294967296 * b1)) := by
    unfold Hid
    rw [ex_12 a0 b0 b1]
    clear er00 ek00 er01 ek01
    omega
  clear en00 en01
  go_enter Tryd.func23, Tryd.ntmps23
  go_wp2
  refine wp_loop_rounds 2 ?_
  refine gen_world (fun W => Rw w W #[.int .u32 0, .int .u32 0, .int .u32 0]) (Code.rounds _ _ _ _ _) _ (Rw.new w _) ?_
  intro W1 R1
  have H1 : Hid (Rw w W1 #[.int .u32 0, .int .u32 0, .int .u32 0]) := R1
  have c0 := R1.cell 0 (v := .int .u32 0) rfl
  have c1 := R1.cell 1 (v := .int .u32 0) rfl
  have c2 := R1.cell 2 (v := .int .u32 0) rfl
  have z0 := R1.thaw 0
  have z1 := R1.thaw 1
  have z2 := R1.thaw 2
  have x0 := R1.old hp p0
  have y0 := R1.old hq q0
  have y1 := R1.old hq q1
  clear R1
  rw [rounds_succ]
  go_wp2
  refine wp_loop_rounds 3 ?_
  rw [rounds_succ]
  go_wp2
  go_quiet (fail)
  go_wp2
  clear c0 z0 c1 z1 c2 z2 x0 y0 y1
  refine gen_world (fun W => Rw w W #[.int .u32 r00, .int .u32 0, .int .u32 0]) (Code.rounds _ _ _ _ _) _ ((Rw.draw H1 _).set 0 _) ?_
  intro W2 R2
  have H2 : Hid (Rw w W2 #[.int .u32 r00, .int .u32 0, .int .u32 0]) := R2
  have c0 := R2.cell 0 (v := .int .u32 r00) rfl
  have c1 := R2.cell 1 (v := .int .u32 0) rfl
  have c2 := R2.cell 2 (v := .int .u32 0) rfl
  have z0 := R2.thaw 0
  have z1 := R2.thaw 1
  have z2 := R2.thaw 2
  have x0 := R2.old hp p0
  have y0 := R2.old hq q0
  have y1 := R2.old hq q1
  clear R2
  clear H1
  rw [rounds_succ]
  go_wp2
  go_quiet (fail)
  go_wp2
  clear c0 z0 c1 z1 c2 z2 x0 y0 y1
  refine gen_world (fun W => Rw w W #[.int .u32 r00, .int .u32 r01, .int .u32 0]) (Code.rounds _ _ _ _ _) _ ((Rw.draw H2 _).set 1 _) ?_
  intro W3 R3
  have H3 : Hid (Rw w W3 #[.int .u32 r00, .int .u32 r01, .int .u32 0]) := R3
  have c0 := R3.cell 0 (v := .int .u32 r00) rfl
  have c1 := R3.cell 1 (v := .int .u32 r01) rfl
  have c2 := R3.cell 2 (v := .int .u32 0) rfl
  have z0 := R3.thaw 0
  have z1 := R3.thaw 1
  have z2 := R3.thaw 2
  have x0 := R3.old hp p0
  have y0 := R3.old hq q0
  have y1 := R3.old hq q1
  clear R3
  clear H2
  rw [rounds_succ]
  go_wp2
  clear c0 z0 c1 z1 c2 z2 x0 y0 y1
  refine gen_world (fun W => Rw w W #[.int .u32 r00, .int .u32 r01, .int .u32 k01]) (Code.rounds _ _ _ _ _) _ (Rw.set H3 2 _) ?_
  intro W4 R4
  have H4 : Hid (Rw w W4 #[.int .u32 r00, .int .u32 r01, .int .u32 k01]) := R4
  have c0 := R4.cell 0 (v := .int .u32 r00) rfl
  have c1 := R4.cell 1 (v := .int .u32 r01) rfl
  have c2 := R4.cell 2 (v := .int .u32 k01) rfl
  have z0 := R4.thaw 0
  have z1 := R4.thaw 1
  have z2 := R4.thaw 2
  have x0 := R4.old hp p0
  have y0 := R4.old hq q0
  have y1 := R4.old hq q1
  clear R4
  clear H3
  rw [rounds_succ]
  go_wp2_with fail
  refine (trim_sl w.heap.size 3 3 [r00, r01, k01] _ rfl (wds3 ⟨ur00, vr00⟩ ⟨ur01, vr01⟩ ⟨uk01, vk01⟩) (by omega) (by omega) (lt_of_block H4.out.row) (cells3 c0 c1 c2)).mono ?_
  rintro e w1 ⟨v, ds, rfl, hs, hn, hv, rfl⟩
  have Hs : Hid (Sl _ v ds) := hs
  have Hn : Hid (Bg.Nrm ds) := hn
  have Hv : Hid (Bg.val ds = a0 * (b0 + 4294967296 * b1)) := by
    unfold Hid
    rw [hv, ← Lv.out]
    simp only [Bg.val, Int.mul_zero, Int.add_zero]
  clear hs hn hv
  go_wp2
  go_ret
  exact ⟨v, ds, rfl, Hs, Hn, Hv, H4.out.below⟩

set_option maxHeartbeats 1000000 in
theorem mul_21 (p q cp cq : Nat) (a0 a1 b0 : Int) (w : World) (ha0 : 0 ≤ a0 ∧ a0 < 4294967296) (ha1 : 0 ≤ a1 ∧ a1 < 4294967296) (hb0 : 0 ≤ b0 ∧ b0 < 4294967296) (hp : p < w.heap.size) (hq : q < w.heap.size)
    (p0 : w.cell? ⟨p, 0, none⟩ = some (.int .u32 a0)) (p1 : w.cell? ⟨p, 1, none⟩ = some (.int .u32 a1)) (q0 : w.cell? ⟨q, 0, none⟩ = some (.int .u32 b0)) :
    Calls Tryd.prog 23 #[.slice (some ⟨p, 0, none⟩) 2 cp, .slice (some ⟨q, 0, none⟩) 1 cq] w fun e w' => ∃ v ds, e = .returned v ∧ Sl w' v ds ∧ Bg.Nrm ds ∧ Bg.val ds = (a0 + 4294967296 * a1) * b0 ∧ Below w.heap.size w w' := by
  have mk := make3
  obtain ⟨ma0b0, na0b0⟩ := mul_bd a0 b0 ha0 hb0
  obtain ⟨ma1b0, na1b0⟩ := mul_bd a1 b0 ha1 hb0
  obtain ⟨ha00, ha01⟩ := ha0
  obtain ⟨ha10, ha11⟩ := ha1
  obtain ⟨hb00, hb01⟩ := hb0
  obtain ⟨r00, k00, er00, ek00, ur00, vr00, uk00, vk00, en00⟩ := part (a0 * b0) (by omega) (by omega)
  obtain ⟨r10, k10, er10, ek10, ur10, vr10, uk10, vk10, en10⟩ := part (a1 * b0 + k00) (by omega) (by omega)
  have Lv : Hid (r00 + 4294967296 * (r10 + 4294967296 * k10) = (a0 + 4294967296 * a1) * b0) := by
    unfold Hid
    rw [ex_21 b0 a0 a1]
    clear er00 ek00 er10 ek10
    omega
  clear en00 en10
  go_enter Tryd.func23, Tryd.ntmps23
  go_wp2
  refine wp_loop_rounds 3 ?_
  refine gen_world (fun W => Rw w W #[.int .u32 0, .int .u32 0, .int .u32 0]) (Code.rounds _ _ _ _ _) _ (Rw.new w _) ?_
  intro W1 R1
  have H1 : Hid (Rw w W1 #[.int .u32 0, .int .u32 0, .int .u32 0]) := R1
  have c0 := R1.cell 0 (v := .int .u32 0) rfl
  have c1 := R1.cell 1 (v := .int .u32 0) rfl
  have c2 := R1.cell 2 (v := .int .u32 0) rfl
  have z0 := R1.thaw 0
  have z1 := R1.thaw 1
  have z2 := R1.thaw 2
  have x0 := R1.old hp p0
  have x1 := R1.old hp p1
  have y0 := R1.old hq q0
  clear R1
  rw [rounds_succ]
  go_wp2
  refine wp_loop_rounds 2 ?_
  rw [rounds_succ]
  go_wp2
  go_quiet (fail)
  go_wp2
  clear c0 z0 c1 z1 c2 z2 x0 x1 y0
  refine gen_world (fun W => Rw w W #[.int .u32 r00, .int .u32 0, .int .u32 0]) (Code.rounds _ _ _ _ _) _ ((Rw.draw H1 _).set 0 _) ?_
  intro W2 R2
  have H2 : Hid (Rw w W2 #[.int .u32 r00, .int .u32 0, .int .u32 0]) := R2
  have c0 := R2.cell 0 (v := .int .u32 r00) rfl
  have c1 := R2.cell 1 (v := .int .u32 0) rfl
  have c2 := R2.cell 2 (v := .int .u32 0) rfl
  have z0 := R2.thaw 0
  have z1 := R2.thaw 1
  have z2 := R2.thaw 2
  have x0 := R2.old hp p0
  have x1 := R2.old hp p1
  have y0 := R2.old hq q0
  clear R2
  clear H1
  rw [rounds_succ]
  go_wp2
  clear c0 z0 c1 z1 c2 z2 x0 x1 y0
  refine gen_world (fun W => Rw w W #[.int .u32 r00, .int .u32 k00, .int .u32 0]) (Code.rounds _ _ _ _ _) _ (Rw.set H2 1 _) ?_
  intro W3 R3
  have H3 : Hid (Rw w W3 #[.int .u32 r00, .int .u32 k00, .int .u32 0]) := R3
  have c0 := R3.cell 0 (v := .int .u32 r00) rfl
  have c1 := R3.cell 1 (v := .int .u32 k00) rfl
  have c2 := R3.cell 2 (v := .int .u32 0) rfl
  have z0 := R3.thaw 0
  have z1 := R3.thaw 1
  have z2 := R3.thaw 2
  have x0 := R3.old hp p0
  have x1 := R3.old hp p1
  have y0 := R3.old hq q0
  clear R3
  clear H2
  rw [rounds_succ]
  go_wp2
  refine wp_loop_rounds 2 ?_
  rw [rounds_succ]
  go_wp2
  go_quiet (fail)
  go_wp2
  clear c0 z0 c1 z1 c2 z2 x0 x1 y0
  refine gen_world (fun W => Rw w W #[.int .u32 r00, .int .u32 r10, .int .u32 0]) (Code.rounds _ _ _ _ _) _ ((Rw.draw H3 _).set 1 _) ?_
  intro W4 R4
  have H4 : Hid (Rw w W4 #[.int .u32 r00, .int .u32 r10, .int .u32 0]) := R4
  have c0 := R4.cell 0 (v := .int .u32 r00) rfl
  have c1 := R4.cell 1 (v := .int .u32 r10) rfl
  have c2 := R4.cell 2 (v := .int .u32 0) rfl
  have z0 := R4.thaw 0
  have z1 := R4.thaw 1
  have z2 := R4.thaw 2
  have x0 := R4.old hp p0
  have x1 := R4.old hp p1
  have y0 := R4.old hq q0
  clear R4
  clear H3
  rw [rounds_succ]
  go_wp2
  clear c0 z0 c1 z1 c2 z2 x0 x1 y0
  refine gen_world (fun W => Rw w W #[.int .u32 r00, .int .u32 r10, .int .u32 k10]) (Code.rounds _ _ _ _ _) _ (Rw.set H4 2 _) ?_
  intro W5 R5
  have H5 : Hid (Rw w W5 #[.int .u32 r00, .int .u32 r10, .int .u32 k10]) := R5
  have c0 := R5.cell 0 (v := .int .u32 r00) rfl
  have c1 := R5.cell 1 (v := .int .u32 r10) rfl
  have c2 := R5.cell 2 (v := .int .u32 k10) rfl
  have z0 := R5.thaw 0
  have z1 := R5.thaw 1
  have z2 := R5.thaw 2
  have x0 := R5.old hp p0
  have x1 := R5.old hp p1
  have y0 := R5.old hq q0
  clear R5
  clear H4
  rw [rounds_succ]
  go_wp2_with fail
  refine (trim_sl w.heap.size 3 3 [r00, r10, k10] _ rfl (wds3 ⟨ur00, vr00⟩ ⟨ur10, vr10⟩ ⟨uk10, vk10⟩) (by omega) (by omega) (lt_of_block H5.out.row) (cells3 c0 c1 c2)).mono ?_
  rintro e w1 ⟨v, ds, rfl, hs, hn, hv, rfl⟩
  have Hs : Hid (Sl _ v ds) := hs
  have Hn : Hid (Bg.Nrm ds) := hn
  have Hv : Hid (Bg.val ds = (a0 + 4294967296 * a1) * b0) := by
    unfold Hid
    rw [hv, ← Lv.out]
    simp only [Bg.val, Int.mul_zero, Int.add_zero]
  clear hs hn hv
  go_wp2
  go_ret
  exact ⟨v, ds, rfl, Hs, Hn, Hv, H5.out.below⟩

set_option maxHeartbeats 1000000 in
theorem mul_22 (p q cp cq : Nat) (a0 a1 b0 b1 : Int) (w : World) (ha0 : 0 ≤ a0 ∧ a0 < 4294967296) (ha1 : 0 ≤ a1 ∧ a1 < 4294967296) (hb0 : 0 ≤ b0 ∧ b0 < 4294967296) (hb1 : 0 ≤ b1 ∧ b1 < 4294967296) (hp : p < w.heap.size) (hq : q < w.heap.size)
    (p0 : w.cell? ⟨p, 0, none⟩ = some (.int .u32 a0)) (p1 : w.cell? ⟨p, 1, none⟩ = some (.int .u32 a1)) (q0 : w.cell? ⟨q, 0, none⟩ = some (.int .u32 b0)) (q1 : w.cell? ⟨q, 1, none⟩ = some (.int .u32 b1)) :
    Calls Tryd.prog 23 #[.slice (some ⟨p, 0, none⟩) 2 cp, .slice (some ⟨q, 0, none⟩) 2 cq] w fun e w' => ∃ v ds, e = .returned v ∧ Sl w' v ds ∧ Bg.Nrm ds ∧ Bg.val ds = (a0 + 4294967296 * a1) * (b0 + 4294967296 * b1) ∧ Below w.heap.size w w' := by
  have mk := make4
  obtain ⟨ma0b0, na0b0⟩ := mul_bd a0 b0 ha0 hb0
  obtain ⟨ma0b1, na0b1⟩ := mul_bd a0 b1 ha0 hb1
  obtain ⟨ma1b0, na1b0⟩ := mul_bd a1 b0 ha1 hb0
  obtain ⟨ma1b1, na1b1⟩ := mul_bd a1 b1 ha1 hb1
  obtain ⟨ha00, ha01⟩ := ha0
  obtain ⟨ha10, ha11⟩ := ha1
  obtain ⟨hb00, hb01⟩ := hb0
  obtain ⟨hb10, hb11⟩ := hb1
  obtain ⟨r00, k00, er00, ek00, ur00, vr00, uk00, vk00, en00⟩ := part (a0 * b0) (by omega) (by omega)
  obtain ⟨r01, k01, er01, ek01, ur01, vr01, uk01, vk01, en01⟩ := part (k00 + a0 * b1) (by omega) (by omega)
  obtain ⟨r10, k10, er10, ek10, ur10, vr10, uk10, vk10, en10⟩ := part (a1 * b0 + r01) (by omega) (by omega)
  obtain ⟨r11, k11, er11, ek11, ur11, vr11, uk11, vk11, en11⟩ := part (k10 + (a1 * b1 + k01)) (by omega) (by omega)
  have Lv : Hid (r00 + 4294967296 * (r10 + 4294967296 * (r11 + 4294967296 * k11)) = (a0 + 4294967296 * a1) * (b0 + 4294967296 * b1)) := by
    unfold Hid
    rw [ex_22 a0 a1 b0 b1]
    clear er00 ek00 er01 ek01 er10 ek10 er11 ek11
    omega
  clear en00 en01 en10 en11
  go_enter Tryd.func23, Tryd.ntmps23
  go_wp2
  refine wp_loop_rounds 3 ?_
  refine gen_world (fun W => Rw w W #[.int .u32 0, .int .u32 0, .int .u32 0, .int .u32 0]) (Code.rounds _ _ _ _ _) _ (Rw.new w _) ?_
  intro W1 R1
  have H1 : Hid (Rw w W1 #[.int .u32 0, .int .u32 0, .int .u32 0, .int .u32 0]) := R1
  have c0 := R1.cell 0 (v := .int .u32 0) rfl
  have c1 := R1.cell 1 (v := .int .u32 0) rfl
  have c2 := R1.cell 2 (v := .int .u32 0) rfl
  have c3 := R1.cell 3 (v := .int .u32 0) rfl
  have z0 := R1.thaw 0
  have z1 := R1.thaw 1
  have z2 := R1.thaw 2
  have z3 := R1.thaw 3
  have x0 := R1.old hp p0
  have x1 := R1.old hp p1
  have y0 := R1.old hq q0
  have y1 := R1.old hq q1
  clear R1
  rw [rounds_succ]
  go_wp2
  refine wp_loop_rounds 3 ?_
  rw [rounds_succ]
  go_wp2
  go_quiet (fail)
  go_wp2
  clear c0 z0 c1 z1 c2 z2 c3 z3 x0 x1 y0 y1
  refine gen_world (fun W => Rw w W #[.int .u32 r00, .int .u32 0, .int .u32 0, .int .u32 0]) (Code.rounds _ _ _ _ _) _ ((Rw.draw H1 _).set 0 _) ?_
  intro W2 R2
  have H2 : Hid (Rw w W2 #[.int .u32 r00, .int .u32 0, .int .u32 0, .int .u32 0]) := R2
  have c0 := R2.cell 0 (v := .int .u32 r00) rfl
  have c1 := R2.cell 1 (v := .int .u32 0) rfl
  have c2 := R2.cell 2 (v := .int .u32 0) rfl
  have c3 := R2.cell 3 (v := .int .u32 0) rfl
  have z0 := R2.thaw 0
  have z1 := R2.thaw 1
  have z2 := R2.thaw 2
  have z3 := R2.thaw 3
  have x0 := R2.old hp p0
  have x1 := R2.old hp p1
  have y0 := R2.old hq q0
  have y1 := R2.old hq q1
  clear R2
  clear H1
  rw [rounds_succ]
  go_wp2
  go_quiet (fail)
  go_wp2
  clear c0 z0 c1 z1 c2 z2 c3 z3 x0 x1 y0 y1
  refine gen_world (fun W => Rw w W #[.int .u32 r00, .int .u32 r01, .int .u32 0, .int .u32 0]) (Code.rounds _ _ _ _ _) _ ((Rw.draw H2 _).set 1 _) ?_
  intro W3 R3
  have H3 : Hid (Rw w W3 #[.int .u32 r00, .int .u32 r01, .int .u32 0, .int .u32 0]) := R3
  have c0 := R3.cell 0 (v := .int .u32 r00) rfl
  have c1 := R3.cell 1 (v := .int .u32 r01) rfl
  have c2 := R3.cell 2 (v := .int .u32 0) rfl
  have c3 := R3.cell 3 (v := .int .u32 0) rfl
  have z0 := R3.thaw 0
  have z1 := R3.thaw 1
  have z2 := R3.thaw 2
  have z3 := R3.thaw 3
  have x0 := R3.old hp p0
  have x1 := R3.old hp p1
  have y0 := R3.old hq q0
  have y1 := R3.old hq q1
  clear R3
  clear H2
  rw [rounds_succ]
  go_wp2
  clear c0 z0 c1 z1 c2 z2 c3 z3 x0 x1 y0 y1
  refine gen_world (fun W => Rw w W #[.int .u32 r00, .int .u32 r01, .int .u32 k01, .int .u32 0]) (Code.rounds _ _ _ _ _) _ (Rw.set H3 2 _) ?_
  intro W4 R4
  have H4 : Hid (Rw w W4 #[.int .u32 r00, .int .u32 r01, .int .u32 k01, .int .u32 0]) := R4
  have c0 := R4.cell 0 (v := .int .u32 r00) rfl
  have c1 := R4.cell 1 (v := .int .u32 r01) rfl
  have c2 := R4.cell 2 (v := .int .u32 k01) rfl
  have c3 := R4.cell 3 (v := .int .u32 0) rfl
  have z0 := R4.thaw 0
  have z1 := R4.thaw 1
  have z2 := R4.thaw 2
  have z3 := R4.thaw 3
  have x0 := R4.old hp p0
  have x1 := R4.old hp p1
  have y0 := R4.old hq q0
  have y1 := R4.old hq q1
  clear R4
  clear H3
  rw [rounds_succ]
  go_wp2
  refine wp_loop_rounds 3 ?_
  rw [rounds_succ]
  go_wp2
  go_quiet (fail)
  go_wp2
  clear c0 z0 c1 z1 c2 z2 c3 z3 x0 x1 y0 y1
  refine gen_world (fun W => Rw w W #[.int .u32 r00, .int .u32 r10, .int .u32 k01, .int .u32 0]) (Code.rounds _ _ _ _ _) _ ((Rw.draw H4 _).set 1 _) ?_
  intro W5 R5
  have H5 : Hid (Rw w W5 #[.int .u32 r00, .int .u32 r10, .int .u32 k01, .int .u32 0]) := R5
  have c0 := R5.cell 0 (v := .int .u32 r00) rfl
  have c1 := R5.cell 1 (v := .int .u32 r10) rfl
  have c2 := R5.cell 2 (v := .int .u32 k01) rfl
  have c3 := R5.cell 3 (v := .int .u32 0) rfl
  have z0 := R5.thaw 0
  have z1 := R5.thaw 1
  have z2 := R5.thaw 2
  have z3 := R5.thaw 3
  have x0 := R5.old hp p0
  have x1 := R5.old hp p1
  have y0 := R5.old hq q0
  have y1 := R5.old hq q1
  clear R5
  clear H4
  rw [rounds_succ]
  go_wp2
  go_quiet (fail)
  go_wp2
  clear c0 z0 c1 z1 c2 z2 c3 z3 x0 x1 y0 y1
  refine gen_world (fun W => Rw w W #[.int .u32 r00, .int .u32 r10, .int .u32 r11, .int .u32 0]) (Code.rounds _ _ _ _ _) _ ((Rw.draw H5 _).set 2 _) ?_
  intro W6 R6
  have H6 : Hid (Rw w W6 #[.int .u32 r00, .int .u32 r10, .int .u32 r11, .int .u32 0]) := R6
  have c0 := R6.cell 0 (v := .int .u32 r00) rfl
  have c1 := R6.cell 1 (v := .int .u32 r10) rfl
  have c2 := R6.cell 2 (v := .int .u32 r11) rfl
  have c3 := R6.cell 3 (v := .int .u32 0) rfl
  have z0 := R6.thaw 0
  have z1 := R6.thaw 1
  have z2 := R6.thaw 2
  have z3 := R6.thaw 3
  have x0 := R6.old hp p0
  have x1 := R6.old hp p1
  have y0 := R6.old hq q0
  have y1 := R6.old hq q1
  clear R6
  clear H5
  rw [rounds_succ]
  go_wp2
  clear c0 z0 c1 z1 c2 z2 c3 z3 x0 x1 y0 y1
  refine gen_world (fun W => Rw w W #[.int .u32 r00, .int .u32 r10, .int .u32 r11, .int .u32 k11]) (Code.rounds _ _ _ _ _) _ (Rw.set H6 3 _) ?_
  intro W7 R7
  have H7 : Hid (Rw w W7 #[.int .u32 r00, .int .u32 r10, .int .u32 r11, .int .u32 k11]) := R7
  have c0 := R7.cell 0 (v := .int .u32 r00) rfl
  have c1 := R7.cell 1 (v := .int .u32 r10) rfl
  have c2 := R7.cell 2 (v := .int .u32 r11) rfl
  have c3 := R7.cell 3 (v := .int .u32 k11) rfl
  have z0 := R7.thaw 0
  have z1 := R7.thaw 1
  have z2 := R7.thaw 2
  have z3 := R7.thaw 3
  have x0 := R7.old hp p0
  have x1 := R7.old hp p1
  have y0 := R7.old hq q0
  have y1 := R7.old hq q1
  clear R7
  clear H6
  rw [rounds_succ]
  go_wp2_with fail
  refine (trim_sl w.heap.size 4 4 [r00, r10, r11, k11] _ rfl (wds4 ⟨ur00, vr00⟩ ⟨ur10, vr10⟩ ⟨ur11, vr11⟩ ⟨uk11, vk11⟩) (by omega) (by omega) (lt_of_block H7.out.row) (cells4 c0 c1 c2 c3)).mono ?_
  rintro e w1 ⟨v, ds, rfl, hs, hn, hv, rfl⟩
  have Hs : Hid (Sl _ v ds) := hs
  have Hn : Hid (Bg.Nrm ds) := hn
  have Hv : Hid (Bg.val ds = (a0 + 4294967296 * a1) * (b0 + 4294967296 * b1)) := by
    unfold Hid
    rw [hv, ← Lv.out]
    simp only [Bg.val, Int.mul_zero, Int.add_zero]
  clear hs hn hv
  go_wp2
  go_ret
  exact ⟨v, ds, rfl, Hs, Hn, Hv, H7.out.below⟩

end Go.Proofs.YthdpafcodmlenaaDoor
