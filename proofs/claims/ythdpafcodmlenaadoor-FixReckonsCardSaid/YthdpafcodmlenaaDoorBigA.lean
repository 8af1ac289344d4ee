/- Whole numbers of any size: what div does, where the first is less, and where it has three words and the second one. -/
import Derived.Test.YthdpafcodmlenaaDoorBig9
namespace Go.Proofs.YthdpafcodmlenaaDoor
open Go.RowKit

set_option maxHeartbeats 1000000 in
set_option maxRecDepth 100000 in
theorem div_lt (u v : Value) (ds es : List Int) (w : World) (hu : Sl w u ds) (hv : Sl w v es) (hd : Bg.Nrm ds) (he : Bg.Nrm es) (ld : ds.length ≤ 1000) (le : es.length ≤ 1000) (e0 : es ≠ []) (h : Bg.val ds < Bg.val es) :
    Calls Tryd.prog 44 #[u, v] w fun e w' => ∃ vq vr qs rs, e = .returned (.tuple #[vq, vr]) ∧ Sl w' vq qs ∧ Sl w' vr rs ∧ Bg.Nrm qs ∧ Bg.Nrm rs ∧ Bg.val qs = Bg.val ds / Bg.val es ∧ Bg.val rs = Bg.val ds % Bg.val es ∧ Below w.heap.size w w' := by
  have x0 := Bg.val_nonneg ds hd.1
  have K4 : Hid (0 = Bg.val ds / Bg.val es) := (Int.ediv_eq_zero_of_lt x0 h).symm
  have K5 : Hid (Bg.val ds = Bg.val ds % Bg.val es) := (Int.emod_eq_of_lt x0 h).symm
  have Cm : Hid (Calls Tryd.prog 37 #[u, v] w fun e w' => e = .returned (.int .i64 (-1)) ∧ Below w.heap.size w w') := by
    have c := cmp_any u v ds es w hu hv hd he ld le
    have e : ord (Bg.val ds) (Bg.val es) = -1 := by simp [ord, h]
    rw [e] at c
    exact c
  have Tw : Hid (∀ W, Below w.heap.size w W → Calls Tryd.prog 32 #[u] W fun e w' => ∃ v', e = .returned v' ∧ Sl w' v' ds ∧ Below W.heap.size W w') := fun W hb => twin_any u ds W (hu.below hb) ld
  have Hd : Hid (Bg.Nrm ds) := hd
  obtain ⟨q, cq, hqe, -, -⟩ := hv.at e0
  have l2 : ((es.length : Int) == 0) = false := beq_eq_false_iff_ne.2 (by have := List.length_pos_iff.2 e0; omega)
  clear hu hv hd he e0 h x0
  subst hqe
  go_enter Tryd.func44, Tryd.ntmps44
  go_wp2_with fail
  refine Calls.mono Cm.out ?_
  rintro e w1 ⟨rfl, hb1⟩
  have Hb1 : Hid (Below w.heap.size w w1) := hb1
  clear hb1
  go_wp2_with fail
  refine Calls.mono (Tw.out w1 Hb1) ?_
  rintro e w2 ⟨v', rfl, hs2, hb2⟩
  have Hs2 : Hid (Sl w2 v' ds) := hs2
  have Hb2 : Hid (Below w1.heap.size w1 w2) := hb2
  clear hs2 hb2
  go_wp2
  go_ret2
  exact ⟨.slice none 0 0, v', [], ds, rfl, .inl ⟨rfl, rfl⟩, Hs2, Bg.nrm_nil, Hd, K4, K5, Hb1.out.trans (Hb2.out.mono Hb1.out.size)⟩

set_option maxHeartbeats 1000000 in
set_option maxRecDepth 100000 in
theorem div_three (u v : Value) (x y z d : Int) (w : World) (hu : Sl w u [x, y, z]) (hv : Sl w v [d]) (hd : Bg.Nrm [x, y, z]) (he : Bg.Nrm [d]) :
    Calls Tryd.prog 44 #[u, v] w fun e w' => ∃ vq vr qs rs, e = .returned (.tuple #[vq, vr]) ∧ Sl w' vq qs ∧ Sl w' vr rs ∧ Bg.Nrm qs ∧ Bg.Nrm rs ∧ Bg.val qs = Bg.val [x, y, z] / Bg.val [d] ∧ Bg.val rs = Bg.val [x, y, z] % Bg.val [d] ∧ Below w.heap.size w w' := by
  have hlt := Bg.lt_of_len [d] [x, y, z] he hd (by simp)
  have dx := hd.1 x (by simp)
  have dy := hd.1 y (by simp)
  have dz := hd.1 z (by simp)
  have dd := he.1 d (by simp)
  have dp : 0 < d := by have := Bg.val_pos [d] he (by simp); rw [val1] at this; exact this
  have Cm : Hid (Calls Tryd.prog 37 #[u, v] w fun e w' => e = .returned (.int .i64 1) ∧ Below w.heap.size w w') := by
    have c := cmp_any u v [x, y, z] [d] w hu hv hd he (by simp) (by simp)
    have e : ord (Bg.val [x, y, z]) (Bg.val [d]) = 1 := by unfold ord; rw [if_neg (by omega), if_pos hlt]
    rw [e] at c
    exact c
  obtain ⟨p, cp, hpe, hp, hpc⟩ := hu.at (by simp)
  obtain ⟨q, cq, hqe, hq, hqc⟩ := hv.at (by simp)
  have q0 := hqc 0 d rfl
  have Sm : Hid (∀ W, Below w.heap.size w W → Calls Tryd.prog 50 #[.slice (some ⟨p, 0, none⟩) 3 cp, .int .u32 d] W fun e w' => ∃ v ds r, e = .returned (.tuple #[v, .int .u32 r]) ∧ Sl w' v ds ∧ Bg.Nrm ds ∧ 0 ≤ r ∧ r < d ∧ Bg.val ds * d + r = x + 4294967296 * (y + 4294967296 * z) ∧ Below W.heap.size W w') := fun W hb =>
    small_three p cp x y z d W dx dy dz ⟨dp, dd.2⟩ (Nat.lt_of_lt_of_le hp hb.size) (by rw [hb.cell (p := ⟨p, 0, none⟩) hp]; exact hpc 0 x rfl) (by rw [hb.cell (p := ⟨p, 1, none⟩) hp]; exact hpc 1 y rfl) (by rw [hb.cell (p := ⟨p, 2, none⟩) hp]; exact hpc 2 z rfl)
  rw [len3] at hpe
  rw [len1] at hqe
  rw [val3, val1]
  have Hq : Hid (q < w.heap.size) := hq
  have Q0 : Hid (w.cell? ⟨q, 0, none⟩ = some (.int .u32 d)) := q0
  have d1 : d < 4294967296 := dd.2
  clear hu hv hd he hlt dx dy dz dd hp hpc hqc hq q0
  subst hpe hqe
  go_enter Tryd.func44, Tryd.ntmps44
  go_wp2_with fail
  refine Calls.mono Cm.out ?_
  rintro e w1 ⟨rfl, hb1⟩
  have c0 : w1.cell? ⟨q, 0, none⟩ = some (.int .u32 d) := by rw [hb1.cell (p := ⟨q, 0, none⟩) Hq]; exact Q0
  have Hb1 : Hid (Below w.heap.size w w1) := hb1
  clear hb1
  go_wp2_with fail
  refine Calls.mono (Sm.out w1 Hb1) ?_
  rintro e w2 ⟨vq, qs, r, rfl, hs2, hn2, r0, r1, hv2, hb2⟩
  have Hs2 : Hid (Sl w2 vq qs) := hs2
  have Hn2 : Hid (Bg.Nrm qs) := hn2
  have Hv2 : Hid (Bg.val qs * d + r = x + 4294967296 * (y + 4294967296 * z)) := hv2
  have Hb2 : Hid (Below w1.heap.size w1 w2) := hb2
  clear hs2 hn2 hv2 hb2
  go_wp2_with fail
  refine (trim_sl w2.heap.size 1 1 [r] _ rfl (wds1 ⟨r0, by omega⟩) (by omega) (by omega) (by simp) (cells1 (by simp))).mono ?_
  rintro e w3 ⟨vr, rs, rfl, hs3, hn3, hv3, rfl⟩
  have Hs3 : Hid (Sl _ vr rs) := hs3
  have Hn3 : Hid (Bg.Nrm rs) := hn3
  have Hv3 : Hid (Bg.val rs = r) := by unfold Hid; rw [hv3, val1]
  clear hs3 hn3 hv3
  go_wp2
  go_ret2
  have fin : Bg.val qs = (x + 4294967296 * (y + 4294967296 * z)) / d ∧ r = (x + 4294967296 * (y + 4294967296 * z)) % d := by
    have h1 := Hv2.out
    have h2 : (x + 4294967296 * (y + 4294967296 * z)) / d = Bg.val qs := by
      have a := (Int.le_ediv_iff_mul_le (a := Bg.val qs) (b := x + 4294967296 * (y + 4294967296 * z)) dp).2 (by omega)
      have b : (x + 4294967296 * (y + 4294967296 * z)) / d < Bg.val qs + 1 := (Int.ediv_lt_iff_lt_mul dp).2 (by rw [Int.add_mul]; omega)
      omega
    have h3 := Int.mul_ediv_add_emod (x + 4294967296 * (y + 4294967296 * z)) d
    rw [h2, Int.mul_comm] at h3
    exact ⟨h2.symm, by omega⟩
  have B2 : Below w.heap.size w w2 := Hb1.out.trans (Hb2.out.mono Hb1.out.size)
  exact ⟨vq, vr, qs, rs, rfl, Sl.below Hs2 ((Below.refl _ _).alloc (Nat.le_refl _) _), Hs3, Hn2, Hn3, fin.1, by rw [Hv3.out]; exact fin.2, B2.alloc B2.size _⟩

/-- a quotient and a rest, where no long division is needed. -/
theorem div_sl (u v : Value) (ds es : List Int) (w : World) (hu : Sl w u ds) (hv : Sl w v es) (hd : Bg.Nrm ds) (he : Bg.Nrm es) (e0 : es ≠ []) (hl : ds.length ≤ 2 ∧ es.length ≤ 2 ∨ ds.length ≤ 3 ∧ es.length = 1) :
    Calls Tryd.prog 44 #[u, v] w fun e w' => ∃ vq vr qs rs, e = .returned (.tuple #[vq, vr]) ∧ Sl w' vq qs ∧ Sl w' vr rs ∧ Bg.Nrm qs ∧ Bg.Nrm rs ∧ Bg.val qs = Bg.val ds / Bg.val es ∧ Bg.val rs = Bg.val ds % Bg.val es ∧ Below w.heap.size w w' := by
  by_cases h : Bg.val ds < Bg.val es
  · exact div_lt u v ds es w hu hv hd he (by omega) (by omega) e0 h
  · by_cases h2 : ds.length ≤ 2
    · exact div_two u v ds es w hu hv hd he h2 (by omega) e0 (by omega)
    · have l3 : ds.length = 3 := by omega
      have l1 : es.length = 1 := by omega
      match ds, es, l3, l1 with
      | [x, y, z], [d], _, _ => exact div_three u v x y z d w hu hv hd he
end Go.Proofs.YthdpafcodmlenaaDoor
