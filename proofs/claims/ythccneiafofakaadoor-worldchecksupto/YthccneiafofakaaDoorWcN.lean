/- Worlds: the reference's On and number. -/
import Derived.Test.YthccneiafofakaaDoorWcA
import Derived.Test.YthccneiafofakaaDoorWcM
namespace Go.Proofs.YthccneiafofakaaDoor
open Go.RowKit
set_option linter.unusedVariables false

set_option maxHeartbeats 1000000 in
theorem rnumber_q (n : Int) (q : Bool) (w : World) (hq : Hid (decide (0 ≤ n ∧ n ≤ 1000000) = q)) :
    Calls Tryd.prog 55 #[.int .i64 n] w fun e w' => e = .returned (.bool q) ∧ w' = w := by
  go_enter Tryd.func55, Tryd.ntmps55
  by_cases h0 : 0 ≤ n
  · by_cases h1 : n ≤ 1000000
    · have E : Hid (q = true) := by unfold Hid; rw [← hq.out]; simp [h0, h1]
      go_wp2
      go_ret
      exact ⟨by rw [E.out]; rfl, rfl⟩
    · have E : Hid (q = false) := by unfold Hid; rw [← hq.out]; simp [h1]
      go_wp2
      go_ret
      exact ⟨by rw [E.out]; rfl, rfl⟩
  · have E : Hid (q = false) := by unfold Hid; rw [← hq.out]; simp [h0]
    go_wp2
    go_ret
    exact ⟨by rw [E.out]; rfl, rfl⟩
set_option maxRecDepth 100000 in
set_option maxHeartbeats 2000000 in
theorem ron_any (v : Value) (W : WV) (at_ : Int) (w : World) (h : Wl w v W) :
    Calls Tryd.prog 23 #[v, .int .i64 at_] w fun e w' => ∃ r : Int, e = .returned (.int .i64 r) ∧ FstU (fun u => u.at_ == at_) W.us r ∧ Below w.heap.size w w' := by
  obtain ⟨u1, u2, u3, u4, u5, rfl, -, -, -, ⟨a, c, rfl, c1, c2, ca⟩, -⟩ := h
  have Ca : Hid (W.us ≠ [] → ∃ x, a = some x ∧ x.block < w.heap.size ∧ ∀ (i : Nat) k, W.us[i]? = some k → Unc w (x.add (i * 8)) k) := ca
  clear ca
  go_enter Tryd.func23, Tryd.ntmps23
  go_wp2
  have B0 : Hid (Below w.heap.size w (w.alloc (Obj.cells #[.int .i64 W.turn, .int .i64 W.next, .int .i64 W.wide, .int .i64 W.high, u1, u2, u3, .slice a W.us.length c, u5] 49))) := (Below.refl _ _).alloc (Nat.le_refl _) _
  have X0 : Hid (Bw (w.alloc (Obj.cells #[.int .i64 W.turn, .int .i64 W.next, .int .i64 W.wide, .int .i64 W.high, u1, u2, u3, .slice a W.us.length c, u5] 49)) w.heap.size W u1 u2 u3 (.slice a W.us.length c) u5) := Bw.mk' W _ _ _ _ _ rfl
  generalize w.alloc (Obj.cells #[.int .i64 W.turn, .int .i64 W.next, .int .i64 W.wide, .int .i64 W.high, u1, u2, u3, .slice a W.us.length c, u5] 49) = w0 at *
  go_loopw [5] (fun iv V => ∃ k : Nat, k ≤ W.us.length ∧ iv = .int .i64 (k : Nat) ∧ (W.us.take k).any (fun u => u.at_ == at_) = false ∧ V = w0) (fun iv _ => W.us.length - (intOf iv).toNat)
  case atStart => exact ⟨0, Nat.zero_le _, rfl, rfl, rfl⟩
  case round =>
    obtain ⟨k, hk, rfl, hn, rfl⟩ := hrel
    have HN : Hid ((W.us.take k).any (fun u => u.at_ == at_) = false) := hn
    have c7 := X0.out.c7
    clear hn
    by_cases hkl : k = W.us.length
    · have F : Hid (FstU (fun u => u.at_ == at_) W.us (-1)) := .inl ⟨rfl, by have := HN.out; rwa [hkl, List.take_length] at this⟩
      subst hkl
      clear hk
      go_wp2
      go_ret
      exact ⟨-1, rfl, F.out, B0.out⟩
    · have hlt : k < W.us.length := by omega
      have hli : (k : Int) < (W.us.length : Int) := by omega
      obtain ⟨u, hu⟩ : ∃ u, W.us[k]? = some u := ⟨_, List.getElem?_eq_getElem hlt⟩
      obtain ⟨x, rfl, hx, hcell⟩ := Ca.out (by intro e; rw [e] at hlt; simp at hlt)
      obtain ⟨-, -, -, d3, -, -, -, -⟩ := (hcell k u hu).below B0.out (by rw [add_block]; exact hx)
      have HU : Hid (W.us[k]? = some u) := hu
      clear hcell hx hu hkl
      by_cases hid : u.at_ = at_
      · have F : Hid (FstU (fun u => u.at_ == at_) W.us (k : Nat)) := .inr ⟨k, u, rfl, HU.out, by simp [hid], HN.out⟩
        go_wp2
        go_ret
        exact ⟨_, rfl, F.out, B0.out⟩
      · have hidb : (u.at_ == at_) = false := by simpa using hid
        have N2 : Hid ((W.us.take (k + 1)).any (fun u => u.at_ == at_) = false) := by unfold Hid; rw [anyu_next HU.out, HN.out, hidb]; rfl
        clear hid
        go_wp2
        go_roundw
        case rel => exact ⟨k + 1, by omega, rfl, N2.out, trivial⟩
        case measure => simp [intOf]; omega
end Go.Proofs.YthccneiafofakaaDoor
