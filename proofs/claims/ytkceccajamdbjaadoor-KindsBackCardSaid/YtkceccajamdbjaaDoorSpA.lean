/- strings.SplitN at a blank, of at most twelve words. -/
import Derived.Test.YtkceccajamdbjaaDoorSpB
namespace Go.Proofs.YtkceccajamdbjaaDoor
open Go.RowKit
set_option linter.unusedVariables false

/-- what is cut: all words; or twelve of more. -/
def Cut12 (l : List UInt8) (R : List ByteArray) : Prop := R.map (·.data.toList) = Tx.cut 32 l ∨ (R.length = 12 ∧ 12 ≤ (Tx.cut 32 l).length)
def SplitSays (l : List UInt8) (w : World) (e : Ending) (w' : World) : Prop := ∃ (R : List ByteArray) (N : Nat), e = .returned (.slice (some ⟨w.heap.size, 0, none⟩) R.length N) ∧ R ≠ [] ∧ R.length ≤ N ∧ N ≤ 12 ∧ Cut12 l R ∧ (∀ (j : Nat) x, R[j]? = some x → w'.cell? ⟨w.heap.size, j, none⟩ = some (.string x)) ∧ (∀ x ∈ R, x.size ≤ l.length) ∧ Os w' w.heap.size (.slice (some ⟨w.heap.size, 0, none⟩) R.length N) R ∧ Below w.heap.size w w'

set_option maxRecDepth 100000 in
set_option maxHeartbeats 4000000 in
theorem split_any (s : ByteArray) (w : World) (hs : s.size ≤ 9223372036854775806) :
    Calls Tryd.prog 83 #[.string s, .string ⟨#[32]⟩, .int .i64 0, .int .i64 12] w (SplitSays s.data.toList w) := by
  obtain ⟨N, hN⟩ : ∃ N : Nat, N = min 12 (s.size + 1) := ⟨_, rfl⟩
  have hN1 : 1 ≤ N := by omega
  have hN2 : N ≤ 12 := by omega
  have hm := makeS N hN2 w
  have hmin : min (12 : Int) ((s.size : Int) + 1) = (N : Int) := by omega
  obtain ⟨l0, hl0⟩ : ∃ l0, s.data.toList = l0 := ⟨_, rfl⟩
  have L0 : Hid (s.data.toList = l0) := hl0
  have Ls : Hid (l0.length = s.size) := by unfold Hid; rw [← hl0]; rfl
  have HN : Hid (N = min 12 (s.size + 1)) := hN
  have S0 : Hid (StA (w.alloc (.cells ((List.replicate N (⟨#[]⟩ : ByteArray)).map Value.string).toArray 9)) w.heap.size (List.replicate N ⟨#[]⟩)) := by
    unfold Hid StA
    rw [heap_alloc_new]
  have B0 : Hid (Below w.heap.size w (w.alloc (.cells ((List.replicate N (⟨#[]⟩ : ByteArray)).map Value.string).toArray 9))) := (Below.refl _ _).alloc (Nat.le_refl _) _
  rw [hl0]
  clear hl0 hN
  generalize w.alloc (.cells ((List.replicate N (⟨#[]⟩ : ByteArray)).map Value.string).toArray 9) = w1 at *
  go_enter Tryd.func83, Tryd.ntmps83
  go_wp2_with fail
  go_loopw [0, 10] (fun v i W' => ∃ (r : ByteArray) (ds xs : List ByteArray), v = .string r ∧ i = .int .i64 (ds.length : Nat) ∧ ds.length ≤ N - 1 ∧ xs.length = N ∧ xs.take ds.length = ds ∧ StA W' w.heap.size xs ∧ Tx.cut 32 l0 = ds.map (·.data.toList) ++ Tx.cut 32 r.data.toList ∧ r.size + ds.length ≤ l0.length ∧ (∀ x ∈ ds, x.size ≤ l0.length) ∧ Below w.heap.size w W') (fun _ i _ => N - (intOf i).toNat)
  case atStart => exact ⟨s, [], List.replicate N ⟨#[]⟩, rfl, rfl, by simp, by simp, rfl, S0, by rw [L0.out]; rfl, by rw [Ls.out]; simp, by simp, B0⟩
  case round =>
    obtain ⟨r, ds, xs, rfl, rfl, hd, hxl, htk, hst, hcut, hrz, hdz, hb⟩ := hrel
    have X : Hid (StA wr w.heap.size xs) := hst
    have B : Hid (Below w.heap.size w wr) := hb
    have Tk : Hid (xs.take ds.length = ds) := htk
    have Ct : Hid (Tx.cut 32 l0 = ds.map (·.data.toList) ++ Tx.cut 32 r.data.toList) := hcut
    have Rz : Hid (r.size + ds.length ≤ l0.length) := hrz
    have Dz : Hid (∀ x ∈ ds, x.size ≤ l0.length) := hdz
    have hrs : r.size ≤ 9223372036854775806 := by have := Ls.out; omega
    obtain ⟨xi, hxi⟩ : ∃ xi, xs[ds.length]? = some xi := ⟨_, List.getElem?_eq_getElem (by omega)⟩
    have hiN : (ds.length : Int) < (N : Int) := by omega
    clear hst hb htk hcut hrz hdz
    by_cases he : ds.length = N - 1
    · have CT : Hid (Cut12 l0 (ds ++ [r])) := by
        by_cases h12 : N = 12
        · right
          have h1 := cut_pos 32 r.data.toList
          refine ⟨by simp; omega, ?_⟩
          rw [Ct.out, List.length_append, List.length_map]
          omega
        · left
          have h1 : r.size = 0 := by
            have h2 := HN.out
            have h3 := Ls.out
            have h4 := Rz.out
            omega
          have h2 : r.data.toList = [] := List.length_eq_zero_iff.1 (by rw [size_list]; exact h1)
          rw [Ct.out, List.map_append, h2]
          simp [Tx.cut, h2]
      have hlt : ¬ (ds.length : Int) < (N : Int) - 1 := by omega
      clear he
      have hb2 : StA (wr.setCell ⟨w.heap.size, ds.length, none⟩ (.string r)) w.heap.size (xs.set ds.length r) := X.out.set _ _
      have yi : wr.cell? ⟨w.heap.size, ds.length, none⟩ = some (.string xi) := X.out.cell hxi
      have fi := X.out.thaw ds.length
      have HX : Hid (StA (wr.setCell ⟨w.heap.size, ds.length, none⟩ (.string r)) w.heap.size (xs.set ds.length r)) := hb2
      have HB : Hid (Below w.heap.size w (wr.setCell ⟨w.heap.size, ds.length, none⟩ (.string r))) := B.out.setCell (p := ⟨w.heap.size, ds.length, none⟩) (Nat.le_refl _) _
      have HR : Hid (∀ (j : Nat) x, (ds ++ [r])[j]? = some x → (xs.set ds.length r)[j]? = some x) := fun j x hj => by
        by_cases hjl : j < ds.length
        · rw [List.getElem?_append_left hjl] at hj
          rw [List.getElem?_set_ne (by omega)]
          rw [← Tk.out, List.getElem?_take, if_pos hjl] at hj
          exact hj
        · rw [List.getElem?_append_right (by omega)] at hj
          have hz : j - ds.length = 0 := by
            have := (List.getElem?_eq_some_iff.1 hj).1
            simp at this
            omega
          rw [hz] at hj
          simp at hj
          have hjj : j = ds.length := by omega
          subst hjj
          rw [List.getElem?_set_self (by omega), hj]
      clear hb2 hxi
      go_wp2
      go_ret
      refine ⟨ds ++ [r], N, by rw [List.length_append]; rfl, by simp, by simp; omega, hN2, CT.out, fun j x hj => HX.out.cell (HR.out j x hj), fun x hx => ?_, HX.out.os (by simpa using hxl) (by omega) (by simp; omega) HR.out, HB⟩
      rcases List.mem_append.1 hx with hx | hx
      · exact Dz.out x hx
      · simp at hx
        subst hx
        have := Rz.out
        omega
    · have hlt : (ds.length : Int) < (N : Int) - 1 := by omega
      have IX := idx1_any r 32 wr
      rcases idxb_spec 32 r.data.toList with ⟨h1, h2⟩ | ⟨k, h1, h2, h3, h4⟩
      · rw [h1] at IX
        have IX' : Hid (Calls Tryd.prog 103 #[.string r, .string ⟨#[32]⟩] wr fun e w' => e = .returned (.int .i64 (-1)) ∧ w' = wr) := IX
        have CT : Hid (Cut12 l0 (ds ++ [r])) := by
          left
          rw [Ct.out, List.map_append, Tx.cut_word h2]
          rfl
        clear IX h1 h2
        go_wp2_with fail
        refine IX'.out.mono ?_
        rintro e w2 ⟨rfl, hw2⟩
        obtain rfl := hw2.symm
        clear IX'
        have hb2 : StA (wr.setCell ⟨w.heap.size, ds.length, none⟩ (.string r)) w.heap.size (xs.set ds.length r) := X.out.set _ _
        have yi : wr.cell? ⟨w.heap.size, ds.length, none⟩ = some (.string xi) := X.out.cell hxi
        have fi := X.out.thaw ds.length
        have HX : Hid (StA (wr.setCell ⟨w.heap.size, ds.length, none⟩ (.string r)) w.heap.size (xs.set ds.length r)) := hb2
        have HB : Hid (Below w.heap.size w (wr.setCell ⟨w.heap.size, ds.length, none⟩ (.string r))) := B.out.setCell (p := ⟨w.heap.size, ds.length, none⟩) (Nat.le_refl _) _
        have HR : Hid (∀ (j : Nat) x, (ds ++ [r])[j]? = some x → (xs.set ds.length r)[j]? = some x) := fun j x hj => by
          by_cases hjl : j < ds.length
          · rw [List.getElem?_append_left hjl] at hj
            rw [List.getElem?_set_ne (by omega)]
            rw [← Tk.out, List.getElem?_take, if_pos hjl] at hj
            exact hj
          · rw [List.getElem?_append_right (by omega)] at hj
            have hz : j - ds.length = 0 := by
              have := (List.getElem?_eq_some_iff.1 hj).1
              simp at this
              omega
            rw [hz] at hj
            simp at hj
            have hjj : j = ds.length := by omega
            subst hjj
            rw [List.getElem?_set_self (by omega), hj]
        clear hb2 hxi
        go_wp2
        go_ret
        refine ⟨ds ++ [r], N, by rw [List.length_append]; rfl, by simp, by simp; omega, hN2, CT.out, fun j x hj => HX.out.cell (HR.out j x hj), fun x hx => ?_, HX.out.os (by simpa using hxl) (by omega) (by simp; omega) HR.out, HB⟩
        rcases List.mem_append.1 hx with hx | hx
        · exact Dz.out x hx
        · simp at hx
          subst hx
          have := Rz.out
          omega
      · rw [h1] at IX
        have hk : k < r.size := h2
        have IX' : Hid (Calls Tryd.prog 103 #[.string r, .string ⟨#[32]⟩] wr fun e w' => e = .returned (.int .i64 (k : Nat)) ∧ w' = wr) := IX
        have C2 : Hid (Tx.cut 32 l0 = (ds ++ [r.extract 0 k]).map (·.data.toList) ++ Tx.cut 32 (r.extract (k + 1) r.size).data.toList) := by
          unfold Hid
          rw [Ct.out]
          conv => lhs; rw [h3, Tx.cut_app h4]
          rw [List.map_append, ext_drop]
          simp
        have z1 : (r.extract 0 k).size = k := by rw [← size_list, ext_take, List.length_take, size_list]; omega
        have z2 : (r.extract (k + 1) r.size).size = r.size - (k + 1) := by rw [← size_list, ext_drop, List.length_drop, size_list]
        have X2 : Hid (StA (wr.setCell ⟨w.heap.size, ds.length, none⟩ (.string (r.extract 0 k))) w.heap.size (xs.set ds.length (r.extract 0 k))) := X.out.set _ _
        have B2 : Hid (Below w.heap.size w (wr.setCell ⟨w.heap.size, ds.length, none⟩ (.string (r.extract 0 k)))) := B.out.setCell (p := ⟨w.heap.size, ds.length, none⟩) (Nat.le_refl _) _
        have T2 : Hid ((xs.set ds.length (r.extract 0 k)).take (ds ++ [r.extract 0 k]).length = ds ++ [r.extract 0 k]) := by
          unfold Hid
          rw [List.length_append]
          show (xs.set ds.length (r.extract 0 k)).take (ds.length + 1) = _
          rw [List.take_succ_eq_append_getElem (by simp; omega), List.take_set_of_le (Nat.le_refl _), Tk.out]
          simp
        have R2 : Hid ((r.extract (k + 1) r.size).size + (ds ++ [r.extract 0 k]).length ≤ l0.length) := by
          unfold Hid
          have := Rz.out
          rw [z2, List.length_append]
          simp
          omega
        have D2 : Hid (∀ x ∈ ds ++ [r.extract 0 k], x.size ≤ l0.length) := fun x hx => by
          rcases List.mem_append.1 hx with hx | hx
          · exact Dz.out x hx
          · simp at hx
            subst hx
            have := Rz.out
            omega
        have yi : wr.cell? ⟨w.heap.size, ds.length, none⟩ = some (.string xi) := X.out.cell hxi
        have fi := X.out.thaw ds.length
        clear IX h1 h2 h3 h4 hxi
        go_wp2_with fail
        refine IX'.out.mono ?_
        rintro e w2 ⟨rfl, hw2⟩
        obtain rfl := hw2.symm
        clear IX'
        go_wp2
        go_round
        case rel => exact ⟨r.extract (k + 1) r.size, ds ++ [r.extract 0 k], xs.set ds.length (r.extract 0 k), rfl, by rw [List.length_append]; go_num, by rw [List.length_append]; simp; omega, by simpa using hxl, T2, X2, C2, R2, D2, B2⟩
        case measure => simp [intOf]; omega
end Go.Proofs.YtkceccajamdbjaaDoor
