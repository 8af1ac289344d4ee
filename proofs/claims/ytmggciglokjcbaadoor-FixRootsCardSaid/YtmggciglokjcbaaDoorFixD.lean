import Derived.Test.YtmggciglokjcbaaDoorFixC
namespace Go.Proofs.YtmggciglokjcbaaDoor
open Go.RowKit

theorem out6 (x : Int) (h : ¬ In6 x) : x < -1000000 ∨ 1000000 < x := by unfold In6 at h; omega

set_option maxHeartbeats 400000 in
theorem far_bad (a b c d : Int) (w : World) (hn : ¬ (In6 a ∧ In6 b ∧ In6 c ∧ In6 d)) :
    Calls Tryd.prog 9 #[.int .i64 a, .int .i64 b, .int .i64 c, .int .i64 d] w fun e w' => e = .returned (.tuple #[.int .i64 0, .iface 32 (.int .i64 1)]) ∧ w' = w := by
  have i0 := idx0 a b c d
  have i1 := idx1 a b c d
  have i2 := idx2 a b c d
  have i3 := idx3 a b c d
  have Hn : Hid (¬ (In6 a ∧ In6 b ∧ In6 c ∧ In6 d)) := hn
  clear hn
  go_enter Tryd.func9, Tryd.ntmps9
  go_wp2
  go_loop [19] (fun i => ∃ k : Nat, k ≤ 4 ∧ i = .int .i64 k ∧ (1 ≤ k → In6 a) ∧ (2 ≤ k → In6 b) ∧ (3 ≤ k → In6 c) ∧ (4 ≤ k → In6 d)) (fun i => 4 - (intOf i).toNat)
  case atStart => exact ⟨0, by omega, rfl, by omega, by omega, by omega, by omega⟩
  case round =>
    obtain ⟨k, hk, rfl, ka, kb, kc, kd⟩ := hrel
    match k, hk, ka, kb, kc, kd with
    | 0, _, ka, kb, kc, kd =>
      by_cases h : In6 a
      · obtain ⟨ha1, ha2⟩ := h
        clear ka kb kc kd
        go_wp2_with (go_at_call 11; refine (within_yes _ _ _ (by omega) (by omega) (by omega) (by omega)).mono ?_; rintro e w' ⟨rfl, rfl⟩)
        go_round
        case rel => exact ⟨1, by omega, rfl, fun _ => ⟨ha1, ha2⟩, by omega, by omega, by omega⟩
        case measure => simp [intOf]
      · have ho := out6 a h
        clear ka kb kc kd h
        go_wp2_with (go_at_call 11; refine (within_no _ _ _ (by omega) (by omega) (by omega)).mono ?_; rintro e w' ⟨rfl, rfl⟩)
        go_ret2
        exact ⟨rfl, rfl⟩
    | 1, _, ka, kb, kc, kd =>
      have xa : Hid (In6 a) := ka (by omega)
      by_cases h : In6 b
      · obtain ⟨ha1, ha2⟩ := h
        clear ka kb kc kd
        go_wp2_with (go_at_call 11; refine (within_yes _ _ _ (by omega) (by omega) (by omega) (by omega)).mono ?_; rintro e w' ⟨rfl, rfl⟩)
        go_round
        case rel => exact ⟨2, by omega, rfl, fun _ => xa, fun _ => ⟨ha1, ha2⟩, by omega, by omega⟩
        case measure => simp [intOf]
      · have ho := out6 b h
        clear ka kb kc kd h
        go_wp2_with (go_at_call 11; refine (within_no _ _ _ (by omega) (by omega) (by omega)).mono ?_; rintro e w' ⟨rfl, rfl⟩)
        go_ret2
        exact ⟨rfl, rfl⟩
    | 2, _, ka, kb, kc, kd =>
      have xa : Hid (In6 a) := ka (by omega)
      have xb : Hid (In6 b) := kb (by omega)
      by_cases h : In6 c
      · obtain ⟨ha1, ha2⟩ := h
        clear ka kb kc kd
        go_wp2_with (go_at_call 11; refine (within_yes _ _ _ (by omega) (by omega) (by omega) (by omega)).mono ?_; rintro e w' ⟨rfl, rfl⟩)
        go_round
        case rel => exact ⟨3, by omega, rfl, fun _ => xa, fun _ => xb, fun _ => ⟨ha1, ha2⟩, by omega⟩
        case measure => simp [intOf]
      · have ho := out6 c h
        clear ka kb kc kd h
        go_wp2_with (go_at_call 11; refine (within_no _ _ _ (by omega) (by omega) (by omega)).mono ?_; rintro e w' ⟨rfl, rfl⟩)
        go_ret2
        exact ⟨rfl, rfl⟩
    | 3, _, ka, kb, kc, kd =>
      have xa : Hid (In6 a) := ka (by omega)
      have xb : Hid (In6 b) := kb (by omega)
      have xc : Hid (In6 c) := kc (by omega)
      have h : ¬ In6 d := fun h => Hn ⟨xa, xb, xc, h⟩
      have ho := out6 d h
      clear ka kb kc kd h
      go_wp2_with (go_at_call 11; refine (within_no _ _ _ (by omega) (by omega) (by omega)).mono ?_; rintro e w' ⟨rfl, rfl⟩)
      go_ret2
      exact ⟨rfl, rfl⟩
    | 4, _, ka, kb, kc, kd =>
      exact absurd ⟨ka (by omega), kb (by omega), kc (by omega), kd (by omega)⟩ Hn

end Go.Proofs.YtmggciglokjcbaaDoor
