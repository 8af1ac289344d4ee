/- Fields: Line and Sees. -/
import Derived.Test.YthnfaflhecfnfaaDoorFdL
import Derived.Test.YthnfaflhecfnfaaDoorFdC
import Derived.Test.YthnfaflhecfnfaaDoorFixC
namespace Go.Proofs.YthnfaflhecfnfaaDoor
open Go.RowKit
set_option linter.unusedVariables false

theorem Ro.lit2 {w : World} {z : Nat} (a b : Int) (hz : w.heap.size = z) : Ro (w.alloc (.cells #[.int .i64 a, .int .i64 b] 3)) (.slice (some ⟨z, 0, none⟩) 2 2) [a, b] := by
  subst hz
  refine ⟨_, 2, rfl, Nat.le_refl _, by omega, fun _ => ⟨_, rfl, by simp, fun i d hd => ?_⟩⟩
  rw [Addr.add_lit, Nat.zero_add]
  match i, hd with
  | 0, hd => simp at hd; subst hd; simp
  | 1, hd => simp at hd; subst hd; simp

theorem ask2_zero {F : Int} {n : Nat} {a b : Int} (h : Fd.askFault F n [a, b] = 0) : F = 0 ∧ 0 ≤ a ∧ a < n ∧ 0 ≤ b ∧ b < n := by
  unfold Fd.askFault at h
  split at h
  · omega
  · rename_i hF
    have hF : F = 0 := by omega
    split at h
    · rename_i hx
      simp at hx
      omega
    · omega

set_option maxHeartbeats 1000000 in
/-- what Line says where something is wrong. -/
theorem Line_bad (v : Value) (W H : Int) (gs os : List Int) (a b F : Int) (w : World) (h : Fl w v W H gs os) (hF : Fd.askFault (Fd.fault W H gs os) gs.length [a, b] = F) (h0 : F ≠ 0) :
    Calls Tryd.prog 22 #[v, .int .i64 a, .int .i64 b] w fun e w' => e = .returned (.tuple #[.slice none 0 0, .iface 54 (.int .i64 F)]) ∧ Below w.heap.size w w' := by
  have F0 : Hid (Fl w v W H gs os) := h
  have HF : Hid (Fd.askFault (Fd.fault W H gs os) gs.length [a, b] = F) := hF
  have H0 : Hid (F ≠ 0) := h0
  obtain ⟨u1, u2, rfl, ⟨a1, c, rfl, c1, c2, ca⟩, ⟨b1, d, rfl, d1, d2, cb⟩⟩ := h
  clear hF h0 ca cb
  go_enter Tryd.func22, Tryd.ntmps22
  go_wp2_with fail
  refine (ask_any _ _ W H gs os [a, b] _ (F0.out.below (((Below.refl _ _).alloc (Nat.le_refl _) _).alloc (by simp) _)) (Ro.lit2 (w := w.alloc _) a b (by simp))).mono ?_
  rintro e w1 ⟨v1, rfl, hv, hb⟩
  have B1 : Hid (Below w.heap.size w w1) := (((Below.refl _ _).alloc (Nat.le_refl _) _).alloc (by simp) _).trans (hb.mono (by simp; omega))
  rw [HF.out] at hv
  clear hb
  rcases hv with ⟨hz, rfl⟩ | ⟨hz, rfl⟩
  · exact absurd hz H0.out
  · clear hz
    go_wp2
    go_ret2
    exact ⟨rfl, B1⟩

set_option maxHeartbeats 1000000 in
/-- what Line says. -/
theorem Line_ok (v : Value) (W H : Nat) (gs os : List Int) (a b : Nat) (w : World) (h : Fl w v W H gs os) (G : Fd.Good W H gs os) (ha : a < W * H) (hb : b < W * H) :
    Calls Tryd.prog 22 #[v, .int .i64 (a : Nat), .int .i64 (b : Nat)] w fun e w' => ∃ u, e = .returned (.tuple #[u, .nilIface]) ∧ Ro w' u (Fd.line W a b) ∧ Below w.heap.size w w' := by
  have F0 : Hid (Fl w v W H gs os) := h
  have HG : Hid (Fd.Good W H gs os) := G
  have HA : Hid (a < W * H) := ha
  have HB : Hid (b < W * H) := hb
  have HF : Hid (Fd.askFault (Fd.fault W H gs os) gs.length [(a : Int), (b : Int)] = 0) := by
    unfold Hid Fd.askFault
    rw [Fd.fault_good G, if_neg (by decide), if_pos]
    rw [G.gl]
    simp
    omega
  obtain ⟨u1, u2, rfl, ⟨a1, c, rfl, c1, c2, ca⟩, ⟨b1, d, rfl, d1, d2, cb⟩⟩ := h
  clear ca cb G ha hb
  go_enter Tryd.func22, Tryd.ntmps22
  go_wp2_with fail
  refine (ask_any _ _ W H gs os [(a : Int), (b : Int)] _ (F0.out.below (((Below.refl _ _).alloc (Nat.le_refl _) _).alloc (by simp) _)) (Ro.lit2 (w := w.alloc _) a b (by simp))).mono ?_
  rintro e w1 ⟨v1, rfl, hv, hb⟩
  have B1 : Hid (Below w.heap.size w w1) := (((Below.refl _ _).alloc (Nat.le_refl _) _).alloc (by simp) _).trans (hb.mono (by simp; omega))
  have f1 : w1.cell? ⟨w.heap.size, 0, none⟩ = some (.int .i64 W) := by
    rw [hb.cell (p := ⟨w.heap.size, 0, none⟩) (by simp; omega)]
    simp
  rw [HF.out] at hv
  clear hb
  rcases hv with ⟨hz, rfl⟩ | ⟨hz, rfl⟩
  · clear hz
    go_wp2_with fail
    refine (line_any W H a b _ HG.out.w1 HG.out.w2 HG.out.h2 HA.out HB.out).mono ?_
    rintro e w2 ⟨u, rfl, ho, hb2⟩
    have B2 : Hid (Below w.heap.size w w2) := B1.out.trans (hb2.mono B1.out.size)
    have O2 : Hid (Ro w2 u (Fd.line W a b)) := ho.ro
    clear ho hb2
    go_wp2
    go_ret2
    exact ⟨_, rfl, O2, B2⟩
  · exact absurd rfl hz
end Go.Proofs.YthnfaflhecfnfaaDoor
