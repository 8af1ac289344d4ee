/- Whole numbers of any size: what add and sub do at few words. -/
import Derived.Test.YthdpafcodmlenaaDoorBig6
namespace Go.Proofs.YthdpafcodmlenaaDoor
open Go.RowKit

theorem make1 (w : World) : (Instr.makeSlice 43 (.int .i64 1) (.int .i64 1)).run Tryd.prog w = .ok (.slice (some ⟨w.heap.size, 0, none⟩) 1 1) (w.alloc (.cells #[.int .u32 0] 56)) := by kernel_rfl
theorem wds1 {x : Int} (hx : 0 ≤ x ∧ x < 4294967296) : Bg.Wds [x] := Bg.Wds.cons hx Bg.Wds.nil
theorem cells1 {w : World} {b : Nat} {x : Int} (h0 : w.cell? ⟨b, 0, none⟩ = some (.int .u32 x)) : ∀ i d, [x][i]? = some d → w.cell? ⟨b, i, none⟩ = some (.int .u32 d) := by
  intro i d hd
  match i, hd with
  | 0, hd => simp at hd; subst hd; exact h0

theorem sub_a (a b : Int) (ha : 0 ≤ a) (ha1 : a < 4294967296) (hb : 0 ≤ b) (hb1 : b < 4294967296) :
    ∃ t r k, IntKind.u64.wrap (a - b) = t ∧ t / 9223372036854775808 = k ∧ t % 4294967296 = r ∧ 0 ≤ r ∧ r < 4294967296 ∧ 0 ≤ k ∧ k ≤ 1 ∧ a - b = r - 4294967296 * k := by
  refine ⟨_, _, _, rfl, rfl, rfl, ?_⟩
  rw [IntKind.wrap_u64]
  omega
theorem sub_b (a c b : Int) (ha : 0 ≤ a) (ha1 : a < 4294967296) (hc : 0 ≤ c) (hc1 : c ≤ 1) (hb : 0 ≤ b) (hb1 : b < 4294967296) :
    ∃ s t r k, IntKind.u64.wrap (a - c) = s ∧ IntKind.u64.wrap (s - b) = t ∧ t / 9223372036854775808 = k ∧ t % 4294967296 = r ∧ 0 ≤ r ∧ r < 4294967296 ∧ 0 ≤ k ∧ k ≤ 1 ∧ a - c - b = r - 4294967296 * k := by
  refine ⟨_, _, _, _, rfl, rfl, rfl, rfl, ?_⟩
  simp only [IntKind.wrap_u64]
  omega

set_option maxHeartbeats 1000000 in
theorem add_11 (p cp cq : Nat) (q : Nat) (a0 b0 : Int) (w : World) (ha0 : 0 ≤ a0 ∧ a0 < 4294967296) (hb0 : 0 ≤ b0 ∧ b0 < 4294967296) (hp : p < w.heap.size) (hq : q < w.heap.size) 
    (p0 : w.cell? ⟨p, 0, none⟩ = some (.int .u32 a0)) (q0 : w.cell? ⟨q, 0, none⟩ = some (.int .u32 b0)) :
    Calls Tryd.prog 54 #[.slice (some ⟨p, 0, none⟩) 1 cp, .slice (some ⟨q, 0, none⟩) 1 cq] w fun e w' => ∃ v ds, e = .returned v ∧ Sl w' v ds ∧ Bg.Nrm ds ∧ Bg.val ds = a0 + (b0) ∧ Below w.heap.size w w' := by
  have mk := make2
  obtain ⟨ha00, ha01⟩ := ha0
  obtain ⟨hb00, hb01⟩ := hb0
  obtain ⟨r0, k0, er0, ek0, ur0, vr0, uk0, vk0, en0⟩ := part (a0 + b0) (by omega) (by omega)
  have Lv : Hid (r0 + 4294967296 * k0 = a0 + (b0)) := by
    unfold Hid
    omega
  clear en0
  go_enter Tryd.func54, Tryd.ntmps54
  go_wp2
  refine wp_loop_rounds 2 ?_
  rw [rounds_succ]
  go_wp2
  rw [rounds_succ]
  go_wp2_with fail
  refine (trim_sl w.heap.size 2 2 [r0, k0] _ rfl (wds2 ⟨ur0, vr0⟩ ⟨uk0, vk0⟩) (by omega) (by omega) (by simp) (cells2 (by simp) (by simp))).mono ?_
  rintro e w1 ⟨v, ds, rfl, hs, hn, hv, rfl⟩
  have Hs : Hid (Sl _ v ds) := hs
  have Hn : Hid (Bg.Nrm ds) := hn
  have Hv : Hid (Bg.val ds = a0 + (b0)) := by
    unfold Hid
    rw [hv, ← Lv.out]
    simp only [Bg.val, Int.mul_zero, Int.add_zero]
  clear hs hn hv
  go_wp2
  go_ret
  exact ⟨v, ds, rfl, Hs, Hn, Hv, (Below.refl _ _).alloc (Nat.le_refl _) _⟩

set_option maxHeartbeats 1000000 in
theorem add_21 (p cp cq : Nat) (q : Nat) (a0 a1 b0 : Int) (w : World) (ha0 : 0 ≤ a0 ∧ a0 < 4294967296) (ha1 : 0 ≤ a1 ∧ a1 < 4294967296) (hb0 : 0 ≤ b0 ∧ b0 < 4294967296) (hp : p < w.heap.size) (hq : q < w.heap.size) 
    (p0 : w.cell? ⟨p, 0, none⟩ = some (.int .u32 a0)) (p1 : w.cell? ⟨p, 1, none⟩ = some (.int .u32 a1)) (q0 : w.cell? ⟨q, 0, none⟩ = some (.int .u32 b0)) :
    Calls Tryd.prog 54 #[.slice (some ⟨p, 0, none⟩) 2 cp, .slice (some ⟨q, 0, none⟩) 1 cq] w fun e w' => ∃ v ds, e = .returned v ∧ Sl w' v ds ∧ Bg.Nrm ds ∧ Bg.val ds = a0 + 4294967296 * a1 + (b0) ∧ Below w.heap.size w w' := by
  have mk := make3
  obtain ⟨ha00, ha01⟩ := ha0
  obtain ⟨ha10, ha11⟩ := ha1
  obtain ⟨hb00, hb01⟩ := hb0
  obtain ⟨r0, k0, er0, ek0, ur0, vr0, uk0, vk0, en0⟩ := part (a0 + b0) (by omega) (by omega)
  obtain ⟨r1, k1, er1, ek1, ur1, vr1, uk1, vk1, en1⟩ := part (k0 + a1) (by omega) (by omega)
  have Lv : Hid (r0 + 4294967296 * (r1 + 4294967296 * k1) = a0 + 4294967296 * a1 + (b0)) := by
    unfold Hid
    omega
  clear en0 en1
  go_enter Tryd.func54, Tryd.ntmps54
  go_wp2
  refine wp_loop_rounds 3 ?_
  rw [rounds_succ]
  go_wp2
  rw [rounds_succ]
  go_wp2
  rw [rounds_succ]
  go_wp2_with fail
  refine (trim_sl w.heap.size 3 3 [r0, r1, k1] _ rfl (wds3 ⟨ur0, vr0⟩ ⟨ur1, vr1⟩ ⟨uk1, vk1⟩) (by omega) (by omega) (by simp) (cells3 (by simp) (by simp) (by simp))).mono ?_
  rintro e w1 ⟨v, ds, rfl, hs, hn, hv, rfl⟩
  have Hs : Hid (Sl _ v ds) := hs
  have Hn : Hid (Bg.Nrm ds) := hn
  have Hv : Hid (Bg.val ds = a0 + 4294967296 * a1 + (b0)) := by
    unfold Hid
    rw [hv, ← Lv.out]
    simp only [Bg.val, Int.mul_zero, Int.add_zero]
  clear hs hn hv
  go_wp2
  go_ret
  exact ⟨v, ds, rfl, Hs, Hn, Hv, (Below.refl _ _).alloc (Nat.le_refl _) _⟩

set_option maxHeartbeats 1000000 in
theorem sub_10 (p cp cq : Nat) (q : Option Addr) (a0 : Int) (w : World) (ha0 : 0 ≤ a0 ∧ a0 < 4294967296) (hp : p < w.heap.size)  
    (p0 : w.cell? ⟨p, 0, none⟩ = some (.int .u32 a0))  :
    Calls Tryd.prog 55 #[.slice (some ⟨p, 0, none⟩) 1 cp, .slice q 0 cq] w fun e w' => ∃ v ds, e = .returned v ∧ Sl w' v ds ∧ Bg.Nrm ds ∧ Bg.val ds = a0 - (0) ∧ Below w.heap.size w w' := by
  have mk := make1
  obtain ⟨ha00, ha01⟩ := ha0
  have Lv : Hid (a0 = a0 - (0)) := by
    unfold Hid
    omega
  go_enter Tryd.func55, Tryd.ntmps55
  go_wp2
  refine wp_loop_rounds 2 ?_
  rw [rounds_succ]
  go_wp2
  rw [rounds_succ]
  go_wp2_with fail
  refine (trim_sl w.heap.size 1 1 [a0] _ rfl (wds1 ⟨ha00, ha01⟩) (by omega) (by omega) (by simp) (cells1 (by simp))).mono ?_
  rintro e w1 ⟨v, ds, rfl, hs, hn, hv, rfl⟩
  have Hs : Hid (Sl _ v ds) := hs
  have Hn : Hid (Bg.Nrm ds) := hn
  have Hv : Hid (Bg.val ds = a0 - (0)) := by
    unfold Hid
    rw [hv, ← Lv.out]
    simp only [Bg.val, Int.mul_zero, Int.add_zero]
  clear hs hn hv
  go_wp2
  go_ret
  exact ⟨v, ds, rfl, Hs, Hn, Hv, (Below.refl _ _).alloc (Nat.le_refl _) _⟩

set_option maxHeartbeats 1000000 in
theorem sub_11 (p cp cq : Nat) (q : Nat) (a0 b0 : Int) (w : World) (ha0 : 0 ≤ a0 ∧ a0 < 4294967296) (hb0 : 0 ≤ b0 ∧ b0 < 4294967296) (hp : p < w.heap.size) (hq : q < w.heap.size) (hle : b0 ≤ a0)
    (p0 : w.cell? ⟨p, 0, none⟩ = some (.int .u32 a0)) (q0 : w.cell? ⟨q, 0, none⟩ = some (.int .u32 b0)) :
    Calls Tryd.prog 55 #[.slice (some ⟨p, 0, none⟩) 1 cp, .slice (some ⟨q, 0, none⟩) 1 cq] w fun e w' => ∃ v ds, e = .returned v ∧ Sl w' v ds ∧ Bg.Nrm ds ∧ Bg.val ds = a0 - (b0) ∧ Below w.heap.size w w' := by
  have mk := make1
  obtain ⟨ha00, ha01⟩ := ha0
  obtain ⟨hb00, hb01⟩ := hb0
  obtain ⟨t0, r0, k0, et0, ek0, er0, ur0, vr0, uk0, vk0, en0⟩ := sub_a a0 b0 ha00 ha01 hb00 hb01
  have Lv : Hid (r0 = a0 - (b0)) := by
    unfold Hid
    omega
  clear en0
  go_enter Tryd.func55, Tryd.ntmps55
  go_wp2
  refine wp_loop_rounds 2 ?_
  rw [rounds_succ]
  go_wp2
  rw [rounds_succ]
  go_wp2_with fail
  refine (trim_sl w.heap.size 1 1 [r0] _ rfl (wds1 ⟨ur0, vr0⟩) (by omega) (by omega) (by simp) (cells1 (by simp))).mono ?_
  rintro e w1 ⟨v, ds, rfl, hs, hn, hv, rfl⟩
  have Hs : Hid (Sl _ v ds) := hs
  have Hn : Hid (Bg.Nrm ds) := hn
  have Hv : Hid (Bg.val ds = a0 - (b0)) := by
    unfold Hid
    rw [hv, ← Lv.out]
    simp only [Bg.val, Int.mul_zero, Int.add_zero]
  clear hs hn hv
  go_wp2
  go_ret
  exact ⟨v, ds, rfl, Hs, Hn, Hv, (Below.refl _ _).alloc (Nat.le_refl _) _⟩

set_option maxHeartbeats 1000000 in
theorem sub_21 (p cp cq : Nat) (q : Nat) (a0 a1 b0 : Int) (w : World) (ha0 : 0 ≤ a0 ∧ a0 < 4294967296) (ha1 : 0 ≤ a1 ∧ a1 < 4294967296) (hb0 : 0 ≤ b0 ∧ b0 < 4294967296) (hp : p < w.heap.size) (hq : q < w.heap.size) (hle : b0 ≤ a0 + 4294967296 * a1)
    (p0 : w.cell? ⟨p, 0, none⟩ = some (.int .u32 a0)) (p1 : w.cell? ⟨p, 1, none⟩ = some (.int .u32 a1)) (q0 : w.cell? ⟨q, 0, none⟩ = some (.int .u32 b0)) :
    Calls Tryd.prog 55 #[.slice (some ⟨p, 0, none⟩) 2 cp, .slice (some ⟨q, 0, none⟩) 1 cq] w fun e w' => ∃ v ds, e = .returned v ∧ Sl w' v ds ∧ Bg.Nrm ds ∧ Bg.val ds = a0 + 4294967296 * a1 - (b0) ∧ Below w.heap.size w w' := by
  have mk := make2
  obtain ⟨ha00, ha01⟩ := ha0
  obtain ⟨ha10, ha11⟩ := ha1
  obtain ⟨hb00, hb01⟩ := hb0
  obtain ⟨t0, r0, k0, et0, ek0, er0, ur0, vr0, uk0, vk0, en0⟩ := sub_a a0 b0 ha00 ha01 hb00 hb01
  obtain ⟨t1, r1, k1, et1, ek1, er1, ur1, vr1, uk1, vk1, en1⟩ := sub_a a1 k0 ha10 ha11 uk0 (by omega)
  have Lv : Hid (r0 + 4294967296 * r1 = a0 + 4294967296 * a1 - (b0)) := by
    unfold Hid
    omega
  clear en0 en1
  go_enter Tryd.func55, Tryd.ntmps55
  go_wp2
  refine wp_loop_rounds 3 ?_
  rw [rounds_succ]
  go_wp2
  rw [rounds_succ]
  go_wp2
  rw [rounds_succ]
  go_wp2_with fail
  refine (trim_sl w.heap.size 2 2 [r0, r1] _ rfl (wds2 ⟨ur0, vr0⟩ ⟨ur1, vr1⟩) (by omega) (by omega) (by simp) (cells2 (by simp) (by simp))).mono ?_
  rintro e w1 ⟨v, ds, rfl, hs, hn, hv, rfl⟩
  have Hs : Hid (Sl _ v ds) := hs
  have Hn : Hid (Bg.Nrm ds) := hn
  have Hv : Hid (Bg.val ds = a0 + 4294967296 * a1 - (b0)) := by
    unfold Hid
    rw [hv, ← Lv.out]
    simp only [Bg.val, Int.mul_zero, Int.add_zero]
  clear hs hn hv
  go_wp2
  go_ret
  exact ⟨v, ds, rfl, Hs, Hn, Hv, (Below.refl _ _).alloc (Nat.le_refl _) _⟩

set_option maxHeartbeats 1000000 in
theorem sub_22 (p cp cq : Nat) (q : Nat) (a0 a1 b0 b1 : Int) (w : World) (ha0 : 0 ≤ a0 ∧ a0 < 4294967296) (ha1 : 0 ≤ a1 ∧ a1 < 4294967296) (hb0 : 0 ≤ b0 ∧ b0 < 4294967296) (hb1 : 0 ≤ b1 ∧ b1 < 4294967296) (hp : p < w.heap.size) (hq : q < w.heap.size) (hle : b0 + 4294967296 * b1 ≤ a0 + 4294967296 * a1)
    (p0 : w.cell? ⟨p, 0, none⟩ = some (.int .u32 a0)) (p1 : w.cell? ⟨p, 1, none⟩ = some (.int .u32 a1)) (q0 : w.cell? ⟨q, 0, none⟩ = some (.int .u32 b0)) (q1 : w.cell? ⟨q, 1, none⟩ = some (.int .u32 b1)) :
    Calls Tryd.prog 55 #[.slice (some ⟨p, 0, none⟩) 2 cp, .slice (some ⟨q, 0, none⟩) 2 cq] w fun e w' => ∃ v ds, e = .returned v ∧ Sl w' v ds ∧ Bg.Nrm ds ∧ Bg.val ds = a0 + 4294967296 * a1 - (b0 + 4294967296 * b1) ∧ Below w.heap.size w w' := by
  have mk := make2
  obtain ⟨ha00, ha01⟩ := ha0
  obtain ⟨ha10, ha11⟩ := ha1
  obtain ⟨hb00, hb01⟩ := hb0
  obtain ⟨hb10, hb11⟩ := hb1
  obtain ⟨t0, r0, k0, et0, ek0, er0, ur0, vr0, uk0, vk0, en0⟩ := sub_a a0 b0 ha00 ha01 hb00 hb01
  obtain ⟨s1, t1, r1, k1, es1, et1, ek1, er1, ur1, vr1, uk1, vk1, en1⟩ := sub_b a1 k0 b1 ha10 ha11 uk0 vk0 hb10 hb11
  have Lv : Hid (r0 + 4294967296 * r1 = a0 + 4294967296 * a1 - (b0 + 4294967296 * b1)) := by
    unfold Hid
    omega
  clear en0 en1
  go_enter Tryd.func55, Tryd.ntmps55
  go_wp2
  refine wp_loop_rounds 3 ?_
  rw [rounds_succ]
  go_wp2
  rw [rounds_succ]
  go_wp2
  rw [rounds_succ]
  go_wp2_with fail
  refine (trim_sl w.heap.size 2 2 [r0, r1] _ rfl (wds2 ⟨ur0, vr0⟩ ⟨ur1, vr1⟩) (by omega) (by omega) (by simp) (cells2 (by simp) (by simp))).mono ?_
  rintro e w1 ⟨v, ds, rfl, hs, hn, hv, rfl⟩
  have Hs : Hid (Sl _ v ds) := hs
  have Hn : Hid (Bg.Nrm ds) := hn
  have Hv : Hid (Bg.val ds = a0 + 4294967296 * a1 - (b0 + 4294967296 * b1)) := by
    unfold Hid
    rw [hv, ← Lv.out]
    simp only [Bg.val, Int.mul_zero, Int.add_zero]
  clear hs hn hv
  go_wp2
  go_ret
  exact ⟨v, ds, rfl, Hs, Hn, Hv, (Below.refl _ _).alloc (Nat.le_refl _) _⟩

end Go.Proofs.YthdpafcodmlenaaDoor
