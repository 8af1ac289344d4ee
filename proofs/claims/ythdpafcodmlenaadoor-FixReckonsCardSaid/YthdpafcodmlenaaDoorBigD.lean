/- Whole numbers of any size: what Sign, Uint64, Int64, Neg, Set do. -/
import Derived.Test.YthdpafcodmlenaaDoorBigB
namespace Go.Proofs.YthdpafcodmlenaaDoor
open Go.RowKit

theorem nil_iff (ds : List Int) (x : Int) (h : Bg.Nrm ds) (hv : Bg.val ds = x.natAbs) : ds = [] ↔ x = 0 := by
  constructor
  · rintro rfl
    simp [Bg.val] at hv
    omega
  · intro hx
    by_cases hd : ds = []
    · exact hd
    · have := Bg.val_pos ds h hd
      omega

set_option maxHeartbeats 400000 in
theorem int_sign (xb : Nat) (x : Int) (w : World) (hx : IntAt w xb x) :
    Calls Tryd.prog 24 #[.pointer (some ⟨xb, 0, none⟩)] w fun e w' => e = .returned (.int .i64 (if x = 0 then 0 else if x < 0 then -1 else 1)) ∧ w' = w := by
  obtain ⟨u, ds, cx0, cx1, hu, hd, vd, lx⟩ := hx.open
  obtain ⟨a, c, rfl, -⟩ := hu.form
  have key := nil_iff ds x hd vd
  clear hx hu hd vd lx
  by_cases h0 : x = 0
  · have e : ds = [] := key.2 h0
    subst e
    rw [if_pos h0]
    clear key
    subst h0
    go_enter Tryd.func24, Tryd.ntmps24
    go_wp2
    go_ret
    exact ⟨rfl, rfl⟩
  · have hn : ((ds.length : Int) == 0) = false := beq_eq_false_iff_ne.2 (by have := List.length_pos_iff.2 (fun h => h0 (key.1 h)); omega)
    rw [if_neg h0]
    clear key
    by_cases hx : x < 0
    · have e : decide (x < 0) = true := by simp [hx]
      rw [e] at cx0
      rw [if_pos hx]
      clear hx e
      go_enter Tryd.func24, Tryd.ntmps24
      go_wp2
      go_ret
      exact ⟨rfl, rfl⟩
    · have e : decide (x < 0) = false := by simp; omega
      rw [e] at cx0
      rw [if_neg hx]
      clear hx e
      go_enter Tryd.func24, Tryd.ntmps24
      go_wp2
      go_ret
      exact ⟨rfl, rfl⟩

set_option maxHeartbeats 400000 in
theorem int_u64 (xb : Nat) (x : Int) (w : World) (hx : IntAt w xb x) (x0 : -18446744073709551616 < x) (x1 : x < 18446744073709551616) :
    Calls Tryd.prog 38 #[.pointer (some ⟨xb, 0, none⟩)] w fun e w' => e = .returned (.int .u64 x.natAbs) ∧ w' = w := by
  obtain ⟨u, ds, cx0, cx1, hu, hd, vd, lx⟩ := hx.open
  have ld := len_of ds x hd vd x0 x1
  rw [← vd]
  clear vd x0 x1 hx
  by_cases h0 : ds = []
  · subst h0
    obtain ⟨a, c, rfl, -⟩ := hu.form
    clear hu hd lx ld cx0
    go_enter Tryd.func38, Tryd.ntmps38
    go_wp2
    go_ret
    exact ⟨rfl, rfl⟩
  · obtain ⟨p, cp, rfl, hp, hpc⟩ := hu.at h0
    rcases two_words ds ld with rfl | ⟨a0, rfl⟩ | ⟨a0, a1, rfl⟩
    · exact absurd rfl h0
    · have c0 := hpc 0 a0 rfl
      obtain ⟨b0, b1⟩ := hd.1 a0 (by simp)
      rw [val1]
      rw [len1] at cx1
      clear hu hd lx ld cx0 hpc h0
      go_enter Tryd.func38, Tryd.ntmps38
      go_wp2
      go_ret
      exact ⟨rfl, rfl⟩
    · have c0 := hpc 0 a0 rfl
      have c1 := hpc 1 a1 rfl
      obtain ⟨b0, b1⟩ := hd.1 a0 (by simp)
      obtain ⟨b2, b3⟩ := hd.1 a1 (by simp)
      have hor := or_hi a0 a1 b0 b1 b2 b3
      rw [val2]
      rw [len2] at cx1
      clear hu hd lx ld cx0 hpc h0
      go_enter Tryd.func38, Tryd.ntmps38
      go_wp2
      go_ret
      exact ⟨rfl, rfl⟩

set_option maxHeartbeats 400000 in
theorem int_i64 (xb : Nat) (x : Int) (w : World) (hx : IntAt w xb x) (x0 : -1099511627776 ≤ x) (x1 : x ≤ 1099511627776) :
    Calls Tryd.prog 28 #[.pointer (some ⟨xb, 0, none⟩)] w fun e w' => e = .returned (.int .i64 x) ∧ w' = w := by
  have U := int_u64 xb x w hx (by omega) (by omega)
  obtain ⟨u, ds, cx0, -⟩ := hx.open
  by_cases hn : x < 0
  · have e : decide (x < 0) = true := by simp [hn]
    rw [e] at cx0
    obtain ⟨y, hy⟩ : ∃ y : Int, y = x.natAbs := ⟨_, rfl⟩
    rw [← hy] at U
    obtain rfl : x = -y := by omega
    have HU : Hid (Calls Tryd.prog 38 #[.pointer (some ⟨xb, 0, none⟩)] w fun e w' => e = .returned (.int .u64 y) ∧ w' = w) := U
    clear U hx hy e
    go_enter Tryd.func28, Tryd.ntmps28
    go_wp2_with fail
    refine Calls.mono HU.out ?_
    rintro e w1 ⟨rfl, rfl⟩
    go_wp2
    go_ret
    exact ⟨rfl, rfl⟩
  · have e : decide (x < 0) = false := by simp; omega
    rw [e] at cx0
    have ey : (x.natAbs : Int) = x := by omega
    rw [ey] at U
    have HU : Hid (Calls Tryd.prog 38 #[.pointer (some ⟨xb, 0, none⟩)] w fun e w' => e = .returned (.int .u64 x) ∧ w' = w) := U
    clear U hx ey e
    go_enter Tryd.func28, Tryd.ntmps28
    go_wp2_with fail
    refine Calls.mono HU.out ?_
    rintro e w1 ⟨rfl, rfl⟩
    go_wp2
    go_ret
    exact ⟨rfl, rfl⟩
end Go.Proofs.YthdpafcodmlenaaDoor
