/- What the reference says of a field (cut out of RfA). · What the reference says of a step (cut out of RfN). -/
import Derived.Test.YtaicnhkobhdehaaDoorZWorldBegins2
import Derived.Test.YtaicnhkobhdehaaDoorZWorldBegins1
import Derived.Deep.DeepCutAuto
namespace Go.Proofs.YtaicnhkobhdehaaDoor
open Go.RowKit
set_option linter.unusedVariables false

theorem ret_int {k : IntKind} {a b : Int} (h : a = b) : Ending.returned (.int k a) = .returned (.int k b) := by rw [h]

set_option maxHeartbeats 1000000 in
theorem ref_cells (a b : Option Addr) (c d : Nat) (W H : Int) (gs os : List Int) (w : World) (w1 : 1 ≤ W) (w2 : W ≤ 12) (h1 : 1 ≤ H) (h2 : H ≤ 12) (hg : (gs.length : Int) = W * H) (ho : (os.length : Int) = W * H)
    (c1 : gs.length ≤ c) (c2 : c ≤ 9223372036854775807) (d1 : os.length ≤ d) (d2 : d ≤ 9223372036854775807) (ha : Cells w a gs) (hb : Cells w b os) :
    Calls Tryd.prog 5 #[.agg #[.int .i64 W, .int .i64 H, .slice a gs.length c, .slice b os.length d]] w fun e w' => e = .returned (.int .i64 (Fd.cellsFault gs os)) ∧ Below w.heap.size w w' := by
  have Ha : Hid (Cells w a gs) := ha
  have Hb : Hid (Cells w b os) := hb
  have hn : W * H ≤ 144 := by
    have := Int.mul_le_mul w2 h2 (by omega) (by omega)
    omega
  have Ho : Hid (os.length = gs.length) := by unfold Hid; omega
  have e1 : W * H = (gs.length : Int) := by omega
  have e2 : os.length = gs.length := Ho.out
  have hnn : gs.length ≤ 144 := by omega
  clear ha hb
  rw [e2] at d1 ⊢
  clear hg ho e2
  generalize hw0 : w.alloc (Obj.cells #[.int .i64 W, .int .i64 H, .slice a gs.length c, .slice b gs.length d] 25) = w0
  have B0 : Hid (Below w.heap.size w w0) := by rw [← hw0]; exact (Below.refl _ _).alloc (Nat.le_refl _) _
  have f0 : w0.cell? ⟨w.heap.size, 2, none⟩ = some (.slice a gs.length c) := by rw [← hw0]; simp
  have f1 : w0.cell? ⟨w.heap.size, 3, none⟩ = some (.slice b gs.length d) := by rw [← hw0]; simp
  have Hw : Hid (w.alloc (Obj.cells #[.int .i64 W, .int .i64 H, .slice a gs.length c, .slice b gs.length d] 25) = w0) := hw0
  clear hw0
  have Ca : Hid (Cells w0 a gs) := Ha.out.below B0.out
  have Cb : Hid (Cells w0 b os) := Hb.out.below B0.out
  clear Ha Hb
  go_enter Tryd.func5, Tryd.ntmps5
  go_wp2_with fail
  rw [Hw.out]
  go_loop [3] (fun i => ∃ (k : Nat), k ≤ gs.length ∧ i = .int .i64 (k : Nat) ∧ Fd.cellsFault (gs.drop k) (os.drop k) = Fd.cellsFault gs os) (fun i => gs.length - (intOf i).toNat)
  case atStart => exact ⟨0, Nat.zero_le _, rfl, by simp⟩
  case round =>
    obtain ⟨k, hk, rfl, hf⟩ := hrel
    have Hf : Hid (Fd.cellsFault (gs.drop k) (os.drop k) = Fd.cellsFault gs os) := hf
    clear hf
    by_cases h0 : k = gs.length
    · subst h0
      go_wp2
      go_ret
      refine ⟨?_, B0.out⟩
      rw [← Hf.out, List.drop_of_length_le (Nat.le_refl _)]
      rfl
    · have hkx : k < gs.length := by omega
      have hky : k < os.length := by rw [Ho.out]; exact hkx
      obtain ⟨x, rfl, -, hx⟩ := Ca.out (by intro h; rw [h] at hkx; simp at hkx)
      obtain ⟨y, rfl, -, hy⟩ := Cb.out (by intro h; rw [h] at hky; simp at hky)
      have cx := hx k gs[k] (List.getElem?_eq_getElem hkx)
      have cy := hy k os[k] (List.getElem?_eq_getElem hky)
      have Te := Fd.cellsFault_drop gs os k gs[k] os[k] (List.getElem?_eq_getElem hkx) (List.getElem?_eq_getElem hky)
      rw [Hf.out] at Te
      have HT : Hid _ := Te
      generalize gs[k] = p at *
      generalize os[k] = r at *
      clear hx hy Te
      have Bad : Hid ((p < 0 ∨ 3 < p ∨ r < 0 ∨ 1000000 < r) → Fd.cellsFault gs os = 1) := fun h => by
        have e : Fd.cellFault p r = 1 := by unfold Fd.cellFault; rw [if_pos h]
        have := HT.out
        rw [e] at this
        exact this
      by_cases q1 : p < 0
      · go_wp2
        go_ret
        exact ⟨ret_int (Bad.out (.inl q1)).symm, B0.out⟩
      · by_cases q2 : 3 < p
        · go_wp2
          go_ret
          exact ⟨ret_int (Bad.out (.inr (.inl q2))).symm, B0.out⟩
        · by_cases q3 : r < 0
          · go_wp2
            go_ret
            exact ⟨ret_int (Bad.out (.inr (.inr (.inl q3)))).symm, B0.out⟩
          · by_cases q4 : 1000000 < r
            · go_wp2
              go_ret
              exact ⟨ret_int (Bad.out (.inr (.inr (.inr q4)))).symm, B0.out⟩
            · have HT2 : Hid (Fd.cellsFault gs os = if 0 < r ∧ p ≠ 0 then 7 else Fd.cellsFault (gs.drop (k + 1)) (os.drop (k + 1))) := by
                unfold Hid
                have e : Fd.cellFault p r = if 0 < r ∧ p ≠ 0 then 7 else 0 := by unfold Fd.cellFault; rw [if_neg (by omega)]
                rw [HT.out, e]
                by_cases q : 0 < r ∧ p ≠ 0
                · rw [if_pos q, if_pos q, if_neg (show ¬ (7 : Int) = 0 by decide)]
                · rw [if_neg q, if_neg q, if_pos rfl]
              clear HT Bad
              by_cases q5 : 0 < r
              · by_cases q6 : p = 0
                · subst q6
                  go_wp2
                  go_round
                  case rel => exact ⟨k + 1, by omega, by go_num, by rw [HT2.out, if_neg (by simp)]⟩
                  case measure => simp [intOf]; omega
                · go_wp2
                  go_ret
                  exact ⟨ret_int (by rw [HT2.out, if_pos ⟨q5, q6⟩]), B0.out⟩
              · go_wp2
                go_round
                case rel => exact ⟨k + 1, by omega, by go_num, by rw [HT2.out, if_neg (by omega)]⟩
                case measure => simp [intOf]; omega

set_option maxHeartbeats 1000000 in
theorem ref_range (u1 u2 : Value) (W H : Int) (w : World) (h : W < 1 ∨ 12 < W ∨ H < 1 ∨ 12 < H) :
    Calls Tryd.prog 5 #[.agg #[.int .i64 W, .int .i64 H, u1, u2]] w fun e w' => e = .returned (.int .i64 1) ∧ Below w.heap.size w w' := by
  have B : Hid (∀ o, Below w.heap.size w (w.alloc o)) := fun o => (Below.refl _ _).alloc (Nat.le_refl _) _
  by_cases q1 : W < 1
  · go_enter Tryd.func5, Tryd.ntmps5
    go_wp2
    go_ret
    exact ⟨rfl, B.out _⟩
  · by_cases q2 : 12 < W
    · go_enter Tryd.func5, Tryd.ntmps5
      go_wp2
      go_ret
      exact ⟨rfl, B.out _⟩
    · by_cases q3 : H < 1
      · go_enter Tryd.func5, Tryd.ntmps5
        go_wp2
        go_ret
        exact ⟨rfl, B.out _⟩
      · have q4 : 12 < H := by omega
        clear h
        go_enter Tryd.func5, Tryd.ntmps5
        go_wp2
        go_ret
        exact ⟨rfl, B.out _⟩

set_option maxHeartbeats 1000000 in
theorem ref_shape (a b : Option Addr) (n m c d : Nat) (W H : Int) (w : World) (w1 : 1 ≤ W) (w2 : W ≤ 12) (h1 : 1 ≤ H) (h2 : H ≤ 12) (h : (n : Int) ≠ W * H ∨ (m : Int) ≠ W * H) :
    Calls Tryd.prog 5 #[.agg #[.int .i64 W, .int .i64 H, .slice a n c, .slice b m d]] w fun e w' => e = .returned (.int .i64 3) ∧ Below w.heap.size w w' := by
  have hn : W * H ≤ 144 := by
    have := Int.mul_le_mul w2 h2 (by omega) (by omega)
    omega
  have hp : 0 ≤ W * H := Int.mul_nonneg (by omega) (by omega)
  by_cases e : (n : Int) = W * H
  · have e2 : ¬ (m : Int) = W * H := by omega
    have e' : W * H = (n : Int) := e.symm
    rw [e'] at e2
    clear h e
    go_enter Tryd.func5, Tryd.ntmps5
    go_wp2
    go_ret
    exact ⟨rfl, (Below.refl _ _).alloc (Nat.le_refl _) _⟩
  · clear h
    go_enter Tryd.func5, Tryd.ntmps5
    go_wp2
    go_ret
    exact ⟨rfl, (Below.refl _ _).alloc (Nat.le_refl _) _⟩

/-- what the reference says of a field. -/
theorem ref_field (v : Value) (W H : Int) (gs os : List Int) (w : World) (h : Fl w v W H gs os) :
    Calls Tryd.prog 5 #[v] w fun e w' => e = .returned (.int .i64 (Fd.fault W H gs os)) ∧ Below w.heap.size w w' := by
  obtain ⟨u1, u2, rfl, ⟨a, c, rfl, c1, c2, ca⟩, ⟨b, d, rfl, d1, d2, cb⟩⟩ := h
  unfold Fd.fault
  by_cases h1 : W < 1 ∨ 12 < W ∨ H < 1 ∨ 12 < H
  · rw [if_pos h1]
    exact ref_range _ _ W H w h1
  · rw [if_neg h1]
    by_cases h2 : (gs.length : Int) ≠ W * H ∨ (os.length : Int) ≠ W * H
    · rw [if_pos h2]
      exact ref_shape _ _ _ _ _ _ W H w (by omega) (by omega) (by omega) (by omega) h2
    · rw [if_neg h2]
      exact ref_cells a b c d W H gs os w (by omega) (by omega) (by omega) (by omega) (by omega) (by omega) c1 c2 d1 d2 ca cb
end Go.Proofs.YtaicnhkobhdehaaDoor

namespace Go.Proofs.YtaicnhkobhdehaaDoor
open Go.RowKit
set_option linter.unusedVariables false

set_option maxRecDepth 100000 in
set_option maxHeartbeats 1000000 in
theorem ref_onto (v : Value) (W H : Int) (gs os : List Int) (a : Nat) (g : Int) (fl : Bool) (w : World) (h : Fl w v W H gs os) (hl : gs.length ≤ 144) (hg : gs[a]? = some g) (g0 : 0 ≤ g) (g3 : g ≤ 3) :
    Calls Tryd.prog 10 #[v, .int .i64 (a : Nat), .bool fl] w fun e w' => e = .returned (.int .i64 (Fd.onto g fl)) ∧ Below w.heap.size w w' := by
  obtain ⟨u1, u2, rfl, ⟨a1, c, rfl, c1, c2, ca⟩, ⟨b1, d, rfl, d1, d2, cb⟩⟩ := h
  have hal : a < gs.length := (List.getElem?_eq_some_iff.1 hg).1
  obtain ⟨x, rfl, xl, hx⟩ := ca (by intro e; rw [e] at hal; simp at hal)
  have j0 : (0 : Int) ≤ (a : Int) := by omega
  have j1 : (a : Int) < (gs.length : Int) := by omega
  obtain ⟨w0, hw0⟩ : ∃ w0, w.alloc (Obj.cells #[.int .i64 W, .int .i64 H, .slice (some x) gs.length c, .slice b1 os.length d] 25) = w0 := ⟨_, rfl⟩
  have B0 : Hid (Below w.heap.size w w0) := by rw [← hw0]; exact (Below.refl _ _).alloc (Nat.le_refl _) _
  have cg : w0.cell? (x.add a) = some (.int .i64 g) := by rw [B0.out.cell (p := x.add a) (by rw [add_block]; exact xl)]; exact hx a g hg
  have x2 : w0.cell? ⟨w.heap.size, 2, none⟩ = some (.slice (some x) gs.length c) := by rw [← hw0]; simp
  have Hw : Hid (w.alloc (Obj.cells #[.int .i64 W, .int .i64 H, .slice (some x) gs.length c, .slice b1 os.length d] 25) = w0) := hw0
  have O : Hid (∀ u, u = Fd.onto g fl → Ending.returned (.int .i64 u) = .returned (.int .i64 (Fd.onto g fl))) := fun u h => by rw [h]
  clear hw0 cb hx xl ca hg
  go_enter Tryd.func10, Tryd.ntmps10
  go_upto_region 1 with fail
  rw [Hw.out]
  have hg' : g = 0 ∨ g = 1 ∨ g = 2 ∨ g = 3 := by omega
  rcases hg' with rfl | rfl | rfl | rfl
  all_goals cases fl
  all_goals
    go_wp2
    go_ret
    exact ⟨O.out _ rfl, B0⟩
end Go.Proofs.YtaicnhkobhdehaaDoor

