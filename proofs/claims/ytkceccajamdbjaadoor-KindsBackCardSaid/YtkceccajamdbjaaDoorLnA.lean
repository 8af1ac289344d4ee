/- A range over strings.Lines: each line of a text, in their order. -/
import Derived.Test.YtkceccajamdbjaaDoorLnM
import Derived.Test.YtkceccajamdbjaaDoorSpB
import Derived.RangeFuncBox
import Derived.RangeFuncCalls
import Derived.TacticsInMore
import Derived.LoopNIn
import Derived.LoopIn
import Derived.BigRegionIn
namespace Go.Proofs.YtkceccajamdbjaaDoor
open Go.RowKit
set_option linter.unusedVariables false

attribute [local go_sem] Oper.semAt_some

def boxLen (W : World) (b : Nat) : Nat := match W.cell? ⟨b, 0, none⟩ with
  | some (.string r) => r.size
  | _ => 0
theorem boxLen_eq {W : World} {b : Nat} {r : ByteArray} (h : W.cell? ⟨b, 0, none⟩ = some (.string r)) : boxLen W b = r.size := by
  unfold boxLen
  rw [h]
theorem boxed_put {W : World} {B : Nat} {t : TypeId} {v : Value} (h : Boxed W B t v) (u : Value) : Boxed (W.setCell ⟨B, 0, none⟩ u) B t u := by
  unfold Boxed at *
  rw [heap_setCell_same W B 0 _ _ _ h]
  rfl
abbrev tl (b : ByteArray) : List UInt8 := b.data.toList

set_option maxRecDepth 100000 in
set_option maxHeartbeats 4000000 in
/-- what strings.Lines gives, as a function of what is done with each line: block cb holds what is left of the text. -/
theorem lines1_in (n l cb : Nat) (s0 : ByteArray) (hs : s0.size ≤ 9223372036854775806) (J Jx : List ByteArray → World → Prop)
    (hJs : ∀ pre W v, J pre W → J pre (W.setCell ⟨cb, 0, none⟩ v)) (hJd : ∀ pre W, J pre W → J pre W.drew)
    (hY : ∀ pre x W r, J pre W → Boxed W cb 9 (.string r) → pre.map tl ++ tl x :: Tx.lines (tl r) = Tx.lines (tl s0) → YieldAt Fence.wide (n - 1) Tryd.prog l #[.string x] W fun e W' =>
      (e = .returned (.bool true) ∧ J (pre ++ [x]) W' ∧ Boxed W' cb 9 (.string r)) ∨ (e = .returned (.bool false) ∧ Jx (pre ++ [x]) W'))
    (W : World) (hc : Boxed W cb 9 (.string s0)) (h0 : J [] W) :
    CallsIn Fence.wide n Tryd.prog 41 #[.func (.yield l) #[] #[], .pointer (some ⟨cb, 0, none⟩)] W fun e W' => (∃ v, e = .returned v) ∧
      ((∃ xs, xs.map tl = Tx.lines (tl s0) ∧ J xs W') ∨ (∃ pre post, pre.map tl ++ post = Tx.lines (tl s0) ∧ Jx pre W')) := by
  refine callsIn_of_wp Tryd.func41 rfl trivial ?_ rfl
  simp only [Tryd.ntmps41, List.size_toArray, List.length_cons, List.length_nil, Nat.reduceAdd, Nat.reduceSub, Array.replicate_succ, Array.replicate_zero, List.push_toArray, List.append_toArray, List.nil_append, List.cons_append]
  gi_wp2
  gi_loopw [3, 4] (fun a b wr => ∃ (pre : List ByteArray) (r : ByteArray), Boxed wr cb 9 (.string r) ∧ pre.map tl ++ Tx.lines (tl r) = Tx.lines (tl s0) ∧ r.size ≤ s0.size ∧ J pre wr) (fun a b wr => boxLen wr cb)
  case atStart => exact ⟨[], s0, hc, rfl, Nat.le_refl _, h0⟩
  case round =>
    obtain ⟨pre, r, hb, hl, hz, hj⟩ := hrel
    have c0 := hb.cell
    have f0 := hb.frozen
    by_cases he : r.size = 0
    · have he' : ¬ (0 : Int) < (r.size : Int) := by omega
      gi_wp2
      go_end0
      refine ⟨⟨_, rfl⟩, .inl ⟨pre, ?_, hj⟩⟩
      have : tl r = [] := List.length_eq_zero_iff.1 he
      rw [this] at hl
      simpa [Tx.lines] using hl
    · have he' : (0 : Int) < (r.size : Int) := by omega
      have hne : tl r ≠ [] := fun e => he (by show (tl r).length = 0; rw [e]; rfl)
      have IX := Tryd.strings_IndexByte r 10 wr
      rw [show ((10 : Int).toNat.toUInt8) = 10 from rfl] at IX
      rcases idxb_spec 10 r.data.toList with ⟨h1, h2⟩ | ⟨k, h1, h2, h3, h4⟩
      · rw [h1] at IX
        have IX' : Hid (Calls Tryd.prog 42 #[.string r, .int .u8 10] wr fun e w' => e = .returned (.int .i64 (-1)) ∧ w' = wr) := IX
        have L : Hid (pre.map tl ++ tl r :: Tx.lines (tl ⟨#[]⟩) = Tx.lines (tl s0)) := by
          unfold Hid
          rw [← hl, Tx.lines_word h2 hne]
          rfl
        clear IX h1 h2
        gi_wp2
        refine ⟨trivial, fun h => by simp [Fence.wide] at h, (callsIn_wide.2 IX'.out).mono ?_⟩
        rintro e w' ⟨rfl, hw⟩
        obtain rfl := hw.symm
        obtain ⟨fn, tmps, assign, body, hy, hR⟩ := hY pre r (wr.setCell ⟨cb, 0, none⟩ (.string ⟨#[]⟩)) ⟨#[]⟩ (hJs _ _ _ hj) (boxed_put hb _) L.out
        gi_wp2
        refine ⟨fun h => by simp [Fence.wide] at h, hR.mono ?_⟩
        clear hR hy hY
        rintro e W3 (⟨rfl, hJ3, hb3⟩ | ⟨rfl, hJx3⟩)
        · gi_wp2
          go_roundw
          case rel => exact ⟨pre ++ [r], ⟨#[]⟩, hb3, by rw [← L.out]; simp, Nat.zero_le _, hJ3⟩
          case measure => rw [boxLen_eq hb3.cell, boxLen_eq c0]; show 0 < r.size; omega
        · gi_wp2
          refine bodyPost_ret (results_none rfl _ _ _) rfl ?_
          exact ⟨⟨_, rfl⟩, .inr ⟨pre ++ [r], _, by rw [← L.out]; simp; rfl, hJx3⟩⟩
      · rw [h1] at IX
        have IX' : Hid (Calls Tryd.prog 42 #[.string r, .int .u8 10] wr fun e w' => e = .returned (.int .i64 (k : Nat)) ∧ w' = wr) := IX
        have hk : k < r.size := h2
        have hrs : r.size ≤ 9223372036854775806 := by omega
        have L : Hid (pre.map tl ++ tl (r.extract 0 (k + 1)) :: Tx.lines (tl (r.extract (k + 1) r.size)) = Tx.lines (tl s0)) := by
          unfold Hid
          rw [← hl]
          have e1 : tl (r.extract 0 (k + 1)) = r.data.toList.take k ++ [10] := by
            show (r.extract 0 (k + 1)).data.toList = _
            have hlt : k < r.data.toList.length := h2
            rw [ext_take, List.take_succ_eq_append_getElem hlt]
            congr 2
            have h5 : r.data.toList[k]? = some 10 := by
              rw [h3, List.getElem?_append_right (by rw [List.length_take]; omega)]
              have : k - (r.data.toList.take k).length = 0 := by rw [List.length_take]; omega
              rw [this]
              rfl
            rw [List.getElem?_eq_getElem hlt] at h5
            exact Option.some.inj h5
          have e2 : tl (r.extract (k + 1) r.size) = r.data.toList.drop (k + 1) := ext_drop r (k + 1)
          have e3 : Tx.lines (tl r) = (r.data.toList.take k ++ [10]) :: Tx.lines (r.data.toList.drop (k + 1)) := (congrArg Tx.lines h3).trans (Tx.lines_app h4 _)
          rw [e1, e2, e3]
        have z2 : (r.extract (k + 1) r.size).size = r.size - (k + 1) := by rw [← size_list, ext_drop, List.length_drop, size_list]
        have k0 : ¬ ((k : Nat) : Int) < 0 := by omega
        clear IX h1 h2 h3 h4
        gi_wp2
        refine ⟨trivial, fun h => by simp [Fence.wide] at h, (callsIn_wide.2 IX'.out).mono ?_⟩
        rintro e w' ⟨rfl, hw⟩
        obtain rfl := hw.symm
        clear IX'
        gi_wp2
        gi_region
        obtain ⟨fn, tmps, assign, body, hy, hR⟩ := hY pre (r.extract 0 (k + 1)) (wr.setCell ⟨cb, 0, none⟩ (.string (r.extract (k + 1) r.size))).drew (r.extract (k + 1) r.size) (hJd _ _ (hJs _ _ _ hj)) (boxed_put hb _) L.out
        gi_wp2
        refine ⟨fun h => by simp [Fence.wide] at h, hR.mono ?_⟩
        clear hR hy hY
        rintro e W3 (⟨rfl, hJ3, hb3⟩ | ⟨rfl, hJx3⟩)
        · gi_wp2
          go_roundw
          case rel => exact ⟨pre ++ [r.extract 0 (k + 1)], r.extract (k + 1) r.size, hb3, by rw [← L.out]; simp, by omega, hJ3⟩
          case measure => rw [boxLen_eq hb3.cell, boxLen_eq c0]; omega
        · gi_wp2
          refine bodyPost_ret (results_none rfl _ _ _) rfl ?_
          exact ⟨⟨_, rfl⟩, .inr ⟨pre ++ [r.extract 0 (k + 1)], _, by rw [← L.out]; simp; rfl, hJx3⟩⟩
end Go.Proofs.YtkceccajamdbjaaDoor
