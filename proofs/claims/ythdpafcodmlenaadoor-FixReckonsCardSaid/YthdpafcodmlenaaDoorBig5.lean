/- Whole numbers of any size: what plain, small, add, sub, mul do at few words. -/
import Derived.Test.YthdpafcodmlenaaDoorBig4
import Derived.Test.YthdpafcodmlenaaDoorBig3
namespace Go.Proofs.YthdpafcodmlenaaDoor
open Go.RowKit

theorem or_hi (x y : Int) (hx : 0 ≤ x) (hx2 : x < 4294967296) (hy : 0 ≤ y) (hy2 : y < 4294967296) : bits .or .u64 x (y * 4294967296) = x + 4294967296 * y := by
  rw [u64_or x (y * 4294967296) hx (by omega) (by omega) (by omega)]
  have e : (y * 4294967296).toNat = 4294967296 * y.toNat := by omega
  rw [e, Nat.or_comm, nat_join 32 (4294967296 * y.toNat) x.toNat (by omega) (by omega)]
  omega
theorem or_lo (x y : Int) (hx : 0 ≤ x) (hx2 : x < 4294967296) (hy : 0 ≤ y) (hy2 : y < 4294967296) : bits .or .u64 (y * 4294967296) x = x + 4294967296 * y := by
  rw [u64_or (y * 4294967296) x (by omega) (by omega) hx (by omega)]
  have e : (y * 4294967296).toNat = 4294967296 * y.toNat := by omega
  rw [e, nat_join 32 (4294967296 * y.toNat) x.toNat (by omega) (by omega)]
  omega

set_option maxHeartbeats 400000 in
theorem plain_two (b c : Nat) (x y : Int) (w : World) (hx : 0 ≤ x) (hx2 : x < 4294967296) (hy : 0 ≤ y) (hy2 : y < 4294967296) (h0 : w.cell? ⟨b, 0, none⟩ = some (.int .u32 x)) (h1 : w.cell? ⟨b, 1, none⟩ = some (.int .u32 y)) :
    Calls Tryd.prog 49 #[.slice (some ⟨b, 0, none⟩) 2 c] w fun e w' => e = .returned (.int .u64 (x + 4294967296 * y)) ∧ w' = w := by
  have hor := or_hi x y hx hx2 hy hy2
  go_enter Tryd.func49, Tryd.ntmps49
  go_wp2
  go_ret
  exact ⟨rfl, rfl⟩

set_option maxHeartbeats 400000 in
theorem plain_one (b c : Nat) (x : Int) (w : World) (hx : 0 ≤ x) (hx2 : x < 4294967296) (h0 : w.cell? ⟨b, 0, none⟩ = some (.int .u32 x)) :
    Calls Tryd.prog 49 #[.slice (some ⟨b, 0, none⟩) 1 c] w fun e w' => e = .returned (.int .u64 x) ∧ w' = w := by
  go_enter Tryd.func49, Tryd.ntmps49
  go_wp2
  go_ret
  exact ⟨rfl, rfl⟩

theorem make2 (w : World) : (Instr.makeSlice 43 (.int .i64 2) (.int .i64 2)).run Tryd.prog w = .ok (.slice (some ⟨w.heap.size, 0, none⟩) 2 2) (w.alloc (.cells #[.int .u32 0, .int .u32 0] 56)) := by kernel_rfl
theorem make3 (w : World) : (Instr.makeSlice 43 (.int .i64 3) (.int .i64 3)).run Tryd.prog w = .ok (.slice (some ⟨w.heap.size, 0, none⟩) 3 3) (w.alloc (.cells #[.int .u32 0, .int .u32 0, .int .u32 0] 56)) := by kernel_rfl
theorem make4 (w : World) : (Instr.makeSlice 43 (.int .i64 4) (.int .i64 4)).run Tryd.prog w = .ok (.slice (some ⟨w.heap.size, 0, none⟩) 4 4) (w.alloc (.cells #[.int .u32 0, .int .u32 0, .int .u32 0, .int .u32 0] 56)) := by kernel_rfl

theorem trim_sl (b n cap : Nat) (ds : List Int) (w : World) (hn : n = ds.length) (hw : Bg.Wds ds) (hcap : n ≤ cap) (hcap2 : cap ≤ 9223372036854775807) (hb : b < w.heap.size) (hc : ∀ i d, ds[i]? = some d → w.cell? ⟨b, i, none⟩ = some (.int .u32 d)) :
    Calls Tryd.prog 31 #[.slice (some ⟨b, 0, none⟩) n cap] w fun e w' => ∃ v ds', e = .returned v ∧ Sl w v ds' ∧ Bg.Nrm ds' ∧ Bg.val ds' = Bg.val ds ∧ w' = w := by
  subst hn
  refine (trim_any b cap ds w hw hcap hcap2 hc).mono ?_
  rintro e w1 ⟨m, hm, hz, hn, rfl, rfl⟩
  have hl : (ds.take m).length = m := by rw [List.length_take]; omega
  refine ⟨_, ds.take m, rfl, .inr ⟨b, cap, by rw [hl], by omega, hcap2, hb, fun i d hd => ?_⟩, Bg.trim_nrm _ _ hw hm hn, Bg.trim_val _ _ hz, rfl⟩
  rw [List.getElem?_take] at hd
  split at hd
  · exact hc i d hd
  · cases hd

theorem wds3 {x y z : Int} (hx : 0 ≤ x ∧ x < 4294967296) (hy : 0 ≤ y ∧ y < 4294967296) (hz : 0 ≤ z ∧ z < 4294967296) : Bg.Wds [x, y, z] := Bg.Wds.cons hx (Bg.Wds.cons hy (Bg.Wds.cons hz Bg.Wds.nil))
theorem wds2 {x y : Int} (hx : 0 ≤ x ∧ x < 4294967296) (hy : 0 ≤ y ∧ y < 4294967296) : Bg.Wds [x, y] := Bg.Wds.cons hx (Bg.Wds.cons hy Bg.Wds.nil)
theorem wds4 {x y z t : Int} (hx : 0 ≤ x ∧ x < 4294967296) (hy : 0 ≤ y ∧ y < 4294967296) (hz : 0 ≤ z ∧ z < 4294967296) (ht : 0 ≤ t ∧ t < 4294967296) : Bg.Wds [x, y, z, t] := Bg.Wds.cons hx (wds3 hy hz ht)

theorem cells3 {w : World} {b : Nat} {x y z : Int} (h0 : w.cell? ⟨b, 0, none⟩ = some (.int .u32 x)) (h1 : w.cell? ⟨b, 1, none⟩ = some (.int .u32 y)) (h2 : w.cell? ⟨b, 2, none⟩ = some (.int .u32 z)) :
    ∀ i d, [x, y, z][i]? = some d → w.cell? ⟨b, i, none⟩ = some (.int .u32 d) := by
  intro i d hd
  match i, hd with
  | 0, hd => simp at hd; subst hd; exact h0
  | 1, hd => simp at hd; subst hd; exact h1
  | 2, hd => simp at hd; subst hd; exact h2
theorem cells2 {w : World} {b : Nat} {x y : Int} (h0 : w.cell? ⟨b, 0, none⟩ = some (.int .u32 x)) (h1 : w.cell? ⟨b, 1, none⟩ = some (.int .u32 y)) :
    ∀ i d, [x, y][i]? = some d → w.cell? ⟨b, i, none⟩ = some (.int .u32 d) := by
  intro i d hd
  match i, hd with
  | 0, hd => simp at hd; subst hd; exact h0
  | 1, hd => simp at hd; subst hd; exact h1
theorem cells4 {w : World} {b : Nat} {x y z t : Int} (h0 : w.cell? ⟨b, 0, none⟩ = some (.int .u32 x)) (h1 : w.cell? ⟨b, 1, none⟩ = some (.int .u32 y)) (h2 : w.cell? ⟨b, 2, none⟩ = some (.int .u32 z)) (h3 : w.cell? ⟨b, 3, none⟩ = some (.int .u32 t)) :
    ∀ i d, [x, y, z, t][i]? = some d → w.cell? ⟨b, i, none⟩ = some (.int .u32 d) := by
  intro i d hd
  match i, hd with
  | 0, hd => simp at hd; subst hd; exact h0
  | 1, hd => simp at hd; subst hd; exact h1
  | 2, hd => simp at hd; subst hd; exact h2
  | 3, hd => simp at hd; subst hd; exact h3

/-- one step of a division by one word. -/
theorem step (r x d : Int) (hr : 0 ≤ r) (hrd : r < d) (hd : d < 4294967296) (hx : 0 ≤ x) (hx1 : x < 4294967296) :
    ∃ n q s, n = x + 4294967296 * r ∧ n = q * d + s ∧ 0 ≤ q ∧ q < 4294967296 ∧ 0 ≤ s ∧ s < d ∧ bits .or .u64 (r * 4294967296) x = n ∧ n.tdiv d = q ∧ n.tmod d = s ∧ IntKind.u64.wrap q = q ∧ q % 4294967296 = q := by
  have hn : 0 ≤ x + 4294967296 * r := by omega
  refine ⟨_, (x + 4294967296 * r) / d, (x + 4294967296 * r) % d, rfl, ?_, ?_, ?_, Int.emod_nonneg _ (by omega), Int.emod_lt_of_pos _ (by omega), or_lo x r hx hx1 hr (by omega), Int.tdiv_eq_ediv_of_nonneg hn, Int.tmod_eq_emod_of_nonneg hn, ?_, ?_⟩
  · have := Int.mul_ediv_add_emod (x + 4294967296 * r) d
    rw [Int.mul_comm] at this
    omega
  · exact Int.ediv_nonneg hn (by omega)
  · refine (Int.ediv_lt_iff_lt_mul (by omega)).2 ?_
    have : 4294967296 * (r + 1) ≤ 4294967296 * d := Int.mul_le_mul_of_nonneg_left (by omega) (by omega)
    omega
  · have a : 0 ≤ (x + 4294967296 * r) / d := Int.ediv_nonneg hn (by omega)
    have b : (x + 4294967296 * r) / d < 4294967296 := by
      refine (Int.ediv_lt_iff_lt_mul (by omega)).2 ?_
      have : 4294967296 * (r + 1) ≤ 4294967296 * d := Int.mul_le_mul_of_nonneg_left (by omega) (by omega)
      omega
    rw [IntKind.wrap_u64]
    generalize (x + 4294967296 * r) / d = q at *
    omega
  · have a : 0 ≤ (x + 4294967296 * r) / d := Int.ediv_nonneg hn (by omega)
    have b : (x + 4294967296 * r) / d < 4294967296 := by
      refine (Int.ediv_lt_iff_lt_mul (by omega)).2 ?_
      have : 4294967296 * (r + 1) ≤ 4294967296 * d := Int.mul_le_mul_of_nonneg_left (by omega) (by omega)
      omega
    generalize (x + 4294967296 * r) / d = q at *
    omega

set_option maxHeartbeats 1000000 in
theorem small_three (b c : Nat) (x y z d : Int) (w : World) (hx : 0 ≤ x ∧ x < 4294967296) (hy : 0 ≤ y ∧ y < 4294967296) (hz : 0 ≤ z ∧ z < 4294967296) (hd : 0 < d ∧ d < 4294967296) (hb : b < w.heap.size)
    (h0 : w.cell? ⟨b, 0, none⟩ = some (.int .u32 x)) (h1 : w.cell? ⟨b, 1, none⟩ = some (.int .u32 y)) (h2 : w.cell? ⟨b, 2, none⟩ = some (.int .u32 z)) :
    Calls Tryd.prog 50 #[.slice (some ⟨b, 0, none⟩) 3 c, .int .u32 d] w fun e w' => ∃ v ds r, e = .returned (.tuple #[v, .int .u32 r]) ∧ Sl w' v ds ∧ Bg.Nrm ds ∧ 0 ≤ r ∧ r < d ∧ Bg.val ds * d + r = x + 4294967296 * (y + 4294967296 * z) ∧ Below w.heap.size w w' := by
  obtain ⟨hx0, hx1⟩ := hx
  obtain ⟨hy0, hy1⟩ := hy
  obtain ⟨hz0, hz1⟩ := hz
  obtain ⟨hd0, hd1⟩ := hd
  have mk := make3
  obtain ⟨n2, q2, r2, k2, l2, a2, b2, c2, d2, e2, f2, g2, i2, j2⟩ := step 0 z d (by omega) hd0 hd1 hz0 hz1
  obtain ⟨n1, q1, r1, k1, l1, a1, b1, c1, d1, e1, f1, g1, i1, j1⟩ := step r2 y d c2 d2 hd1 hy0 hy1
  obtain ⟨n0, q0, r0, k0, l0, a0, b0, c0, d0, e0, f0, g0, i0, j0⟩ := step r1 x d c1 d1 hd1 hx0 hx1
  rw [Int.zero_mul] at e2
  have hr0 : r0 % 4294967296 = r0 := by omega
  have fin : Hid ((q0 + 4294967296 * (q1 + 4294967296 * q2)) * d + r0 = x + 4294967296 * (y + 4294967296 * z)) := by
    unfold Hid
    have t1 : (q0 + 4294967296 * (q1 + 4294967296 * q2)) * d = q0 * d + 4294967296 * (q1 * d) + 18446744073709551616 * (q2 * d) := by
      simp only [Int.add_mul, Int.mul_add, Int.mul_assoc]
      omega
    rw [t1]
    omega
  clear k0 k1 k2 l0 l1 l2
  have Q0 : Hid (0 ≤ q0 ∧ q0 < 4294967296) := ⟨a0, b0⟩
  have Q1 : Hid (0 ≤ q1 ∧ q1 < 4294967296) := ⟨a1, b1⟩
  have Q2 : Hid (0 ≤ q2 ∧ q2 < 4294967296) := ⟨a2, b2⟩
  go_enter Tryd.func50, Tryd.ntmps50
  go_wp2
  refine wp_loop_rounds 4 ?_
  rw [rounds_succ]
  go_wp2
  rw [rounds_succ]
  go_wp2
  rw [rounds_succ]
  go_wp2
  rw [rounds_succ]
  go_wp2_with fail
  refine (trim_sl w.heap.size 3 3 [q0, q1, q2] _ rfl (wds3 Q0 Q1 Q2) (by omega) (by omega) (by simp) (cells3 (by simp) (by simp) (by simp))).mono ?_
  rintro e w1 ⟨v, ds, rfl, hs, hn, hv, rfl⟩
  have Hs : Hid (Sl _ v ds) := hs
  have Hn : Hid (Bg.Nrm ds) := hn
  have Hv : Hid (Bg.val ds = q0 + 4294967296 * (q1 + 4294967296 * q2)) := by
    unfold Hid
    rw [hv]
    simp [Bg.val]
  clear hs hn hv
  go_wp2
  go_ret2
  exact ⟨v, ds, r0, rfl, Hs, Hn, c0, d0, by rw [Hv.out]; exact fin, (Below.refl _ _).alloc (Nat.le_refl _) _⟩
end Go.Proofs.YthdpafcodmlenaaDoor
