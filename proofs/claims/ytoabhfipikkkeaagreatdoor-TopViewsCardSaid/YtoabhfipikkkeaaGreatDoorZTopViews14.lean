/- Worlds: the numbers that are written. · Worlds: Encode. · api.Change: records in memory. · What has changed: as mathematics. · Slices of api.Change that the call itself makes, by append. · feed.byteAt, feed.Diff. · Sight: who sees where it is: plain mathematics. · Sight: a player's world is right; looked at once more it is the same: plain mathematics. · Bytes: a whole list behind another one; a part of one. · Bytes: a whole list behind another one; a part of one. · feed.News. · What comes of changes, their bytes: as mathematics. · feed.within, anywhere, the function of Apply, check. · feed.changed, feed.Apply. · feed.Apply. · What is packed is read as it was. Plain mathematics. · TopViews as mathematics: how long a right world's bytes are. · feed.Pack. -/
import Derived.Test.YtoabhfipikkkeaaGreatDoorZTopViews2
import Derived.Test.YtoabhfipikkkeaaGreatDoorZTopViews13
import Derived.Test.YtoabhfipikkkeaaGreatDoorZTopViews1
import Derived.OwnWalk
import Derived.Deep.AppendLies
import Derived.IntWalk
import Derived.Laws.Closers25
import Derived.Deep.DeepCutAuto
import Derived.Test.YtoabhfipikkkeaaGreatDoorZTopViews3
import Derived.Test.YtoabhfipikkkeaaGreatDoorZTopViews5
import Derived.Laws.IdiomStrings
import Derived.BigQuiet
import Derived.Test.YtoabhfipikkkeaaGreatDoorZTopViews6
import Derived.Lib.SmallJoins
import Derived.Test.YtoabhfipikkkeaaGreatDoorZTopViews12
namespace Go.Proofs.YtoabhfipikkkeaaGreatDoor
open Go.RowKit
set_option linter.unusedVariables false

set_option maxRecDepth 100000 in
set_option maxHeartbeats 8000000 in
theorem numbers_any (v : Value) (W : WV) (w : World) (h : Wl w v W) (hs : WSmall W) :
    Calls Tryz.prog 45 #[v] w fun e w' => ∃ u, e = .returned u ∧ Ow w' (w.heap.size + 2) u (Wd.nums W) ∧ Below w.heap.size w w' := by
  have H : Hid (Wl w v W) := h
  have S : Hid (WSmall W) := hs
  obtain ⟨u1, u2, u3, u4, u5, rfl, h1, h2, h3, h4, h5⟩ := h
  obtain ⟨a1, k1, rfl, -⟩ := h1
  obtain ⟨a2, k2, rfl, -⟩ := h2
  obtain ⟨a3, k3, rfl, -⟩ := h3
  obtain ⟨a4, k4, rfl, -⟩ := h4
  obtain ⟨a5, k5, rfl, -⟩ := h5
  clear hs
  go_enter Tryz.func45, Tryz.ntmps45
  go_wp2
  have N0 : Hid (Nm1 w W (.slice a1 W.gs.length k1) (.slice a2 W.os.length k2) (.slice a3 W.gold.length k3) (.slice a4 W.us.length k4) (.slice a5 W.qs.length k5) (w.heap.size + 1 + 1 + 1) (.slice (some ⟨w.heap.size + 1 + 1, 0, none⟩) 4 4) (nums1 W 0) ((((w.alloc (Obj.cells #[.int .i64 W.turn, .int .i64 W.next, .int .i64 W.wide, .int .i64 W.high, .slice a1 W.gs.length k1, .slice a2 W.os.length k2, .slice a3 W.gold.length k3, .slice a4 W.us.length k4, .slice a5 W.qs.length k5] 29)).alloc (Obj.cells #[.int .i64 W.wide, .int .i64 W.high, .slice a1 W.gs.length k1, .slice a2 W.os.length k2] 25)).alloc (Obj.cells #[.int .i64 W.turn, .int .i64 W.next, .int .i64 W.wide, .int .i64 W.high] 3)).alloc (Obj.cells #[.slice a1 W.gs.length k1, .slice a2 W.os.length k2, .slice a3 W.gold.length k3] 23))) := by
    refine ⟨?_, by simp [Value.ownBlock], (Bw.mk' W _ _ _ _ _ rfl).below (n := w.heap.size + 1) ((((Below.refl _ _).alloc (by simp) _).alloc (by simp) _).alloc (by simp) _) (Nat.lt_succ_self _), cell_of_new (by simp) rfl, cell_of_new (by simp) rfl, cell_of_new (by simp) rfl, ?_⟩
    · refine World.ownsRow.alloc ?_ _
      have e : w.heap.size + 1 + 1 = ((w.alloc (Obj.cells #[.int .i64 W.turn, .int .i64 W.next, .int .i64 W.wide, .int .i64 W.high, .slice a1 W.gs.length k1, .slice a2 W.os.length k2, .slice a3 W.gold.length k3, .slice a4 W.us.length k4, .slice a5 W.qs.length k5] 29)).alloc (Obj.cells #[.int .i64 W.wide, .int .i64 W.high, .slice a1 W.gs.length k1, .slice a2 W.os.length k2] 25)).heap.size := by simp
      rw [e]
      exact World.ownsRow_lit _ _ 4 (by simp) (by unfold maxLen; omega) rfl
    · exact ((((Below.refl _ _).alloc (Nat.le_refl _) _).alloc (by simp) _).alloc (by simp; omega) _).alloc (by simp; omega) _
  generalize ((((w.alloc (Obj.cells #[.int .i64 W.turn, .int .i64 W.next, .int .i64 W.wide, .int .i64 W.high, .slice a1 W.gs.length k1, .slice a2 W.os.length k2, .slice a3 W.gold.length k3, .slice a4 W.us.length k4, .slice a5 W.qs.length k5] 29)).alloc (Obj.cells #[.int .i64 W.wide, .int .i64 W.high, .slice a1 W.gs.length k1, .slice a2 W.os.length k2] 25)).alloc (Obj.cells #[.int .i64 W.turn, .int .i64 W.next, .int .i64 W.wide, .int .i64 W.high] 3)).alloc (Obj.cells #[.slice a1 W.gs.length k1, .slice a2 W.os.length k2, .slice a3 W.gold.length k3] 23)) = w3 at *
  generalize hzl : w.heap.size + 1 + 1 + 1 = zl at *
  have HZ : Hid (w.heap.size + 3 = zl) := hzl
  clear hzl
  go_loopw [4, 30] (fun lv iv W' => ∃ k : Nat, k ≤ 3 ∧ iv = .int .i64 (k : Nat) ∧ Nm1 w W (.slice a1 W.gs.length k1) (.slice a2 W.os.length k2) (.slice a3 W.gold.length k3) (.slice a4 W.us.length k4) (.slice a5 W.qs.length k5) zl lv (nums1 W k) W') (fun _ iv _ => 3 - (intOf iv).toNat)
  case atStart => exact ⟨0, by omega, rfl, N0.out⟩
  case round =>
    obtain ⟨k, hk, rfl, hn⟩ := hrel
    have N : Hid (Nm1 w W (.slice a1 W.gs.length k1) (.slice a2 W.os.length k2) (.slice a3 W.gold.length k3) (.slice a4 W.us.length k4) (.slice a5 W.qs.length k5) zl u4 (nums1 W k) wr) := hn
    clear hn N0
    have SZ : Hid (w.heap.size + 2 ≤ wr.heap.size) := by
      unfold Hid
      have h1 := HZ.out
      have h2 := cell_lt N.out.c0
      simp only at h2
      omega
    by_cases hk3 : k = 3
    · subst hk3
      have c7 := N.out.b.c7
      clear hk
      go_wp2_with (at_builtin; refine app_int _ rfl _ _ rfl (w.heap.size + 2) _ (nums1 W 3) rfl (N.out.o.alloc _) ⟨wr.heap.size, 0, none⟩ (W.us.length : Nat) rfl (by simp) (by have := nums1_len S.out 3; omega) (by have := SZ.out; simp; omega) ?_)
      intro g cap w5 o5 g5 q5 l5
      have N5 : Hid (Nm1 w W (.slice a1 W.gs.length k1) (.slice a2 W.os.length k2) (.slice a3 W.gold.length k3) (.slice a4 W.us.length k4) (.slice a5 W.qs.length k5) zl (.slice (some ⟨g, 0, none⟩) ((nums1 W 3).length + 1) cap) (nums2 W 0) w5) := N.out.step ((Below.refl _ _).alloc (Nat.le_refl _) _) g5 o5 (own_is (by simpa using q5))
      clear o5 g5 q5 l5 c7 N SZ
      have c7 := N5.out.b.c7
      go_wp2
      clear c7
      go_loopw [4, 52] (fun lv iv W' => ∃ k : Nat, k ≤ W.us.length ∧ iv = .int .i64 (k : Nat) ∧ Nm1 w W (.slice a1 W.gs.length k1) (.slice a2 W.os.length k2) (.slice a3 W.gold.length k3) (.slice a4 W.us.length k4) (.slice a5 W.qs.length k5) zl lv (nums2 W k) W') (fun _ iv _ => W.us.length - (intOf iv).toNat)
      case atStart => exact ⟨0, Nat.zero_le _, rfl, N5.out⟩
      case round =>
        obtain ⟨k, hk, rfl, hn⟩ := hrel
        have N : Hid (Nm1 w W (.slice a1 W.gs.length k1) (.slice a2 W.os.length k2) (.slice a3 W.gold.length k3) (.slice a4 W.us.length k4) (.slice a5 W.qs.length k5) zl u4 (nums2 W k) wr) := hn
        have SZ : Hid (w.heap.size + 2 ≤ wr.heap.size) := by
          unfold Hid
          have h1 := HZ.out
          have h2 := cell_lt N.out.c0
          simp only at h2
          omega
        clear hn N5
        by_cases hkl : k = W.us.length
        · have hki : (k : Int) = (W.us.length : Int) := by omega
          have ho := N.out.o
          rw [hkl] at ho
          have N' : Hid (Nm1 w W (.slice a1 W.gs.length k1) (.slice a2 W.os.length k2) (.slice a3 W.gold.length k3) (.slice a4 W.us.length k4) (.slice a5 W.qs.length k5) zl u4 (nums2 W W.us.length) wr) := by have := N.out; rwa [hkl] at this
          subst hkl
          have c8 := N'.out.b.c8
          clear hk ho hki
          go_wp2_with (at_builtin; refine app_int _ rfl _ _ rfl (w.heap.size + 2) _ (nums2 W W.us.length) rfl (N'.out.o.alloc _) ⟨wr.heap.size, 0, none⟩ (W.qs.length : Nat) rfl (by simp) (by have := nums2_len S.out W.us.length; omega) (by have := SZ.out; simp; omega) ?_)
          intro g cap w5 o5 g5 q5 l5
          have N5 : Hid (Nm1 w W (.slice a1 W.gs.length k1) (.slice a2 W.os.length k2) (.slice a3 W.gold.length k3) (.slice a4 W.us.length k4) (.slice a5 W.qs.length k5) zl (.slice (some ⟨g, 0, none⟩) ((nums2 W W.us.length).length + 1) cap) (nums3 W 0) w5) := N'.out.step ((Below.refl _ _).alloc (Nat.le_refl _) _) g5 o5 (own_is (by simpa using q5))
          clear o5 g5 q5 l5 c8 N N' SZ
          have c8 := N5.out.b.c8
          go_wp2
          clear c8
          go_loopw [4, 85] (fun lv iv W' => ∃ k : Nat, k ≤ W.qs.length ∧ iv = .int .i64 (k : Nat) ∧ Nm1 w W (.slice a1 W.gs.length k1) (.slice a2 W.os.length k2) (.slice a3 W.gold.length k3) (.slice a4 W.us.length k4) (.slice a5 W.qs.length k5) zl lv (nums3 W k) W') (fun _ iv _ => W.qs.length - (intOf iv).toNat)
          case atStart => exact ⟨0, Nat.zero_le _, rfl, N5.out⟩
          case round =>
            obtain ⟨k, hk, rfl, hn⟩ := hrel
            have N : Hid (Nm1 w W (.slice a1 W.gs.length k1) (.slice a2 W.os.length k2) (.slice a3 W.gold.length k3) (.slice a4 W.us.length k4) (.slice a5 W.qs.length k5) zl u4 (nums3 W k) wr) := hn
            have SZ : Hid (w.heap.size + 2 ≤ wr.heap.size) := by
              unfold Hid
              have h1 := HZ.out
              have h2 := cell_lt N.out.c0
              simp only at h2
              omega
            clear hn N5
            by_cases hkl : k = W.qs.length
            · subst hkl
              clear hk
              go_wp2
              go_ret
              exact ⟨_, rfl, by have := N.out.o; rwa [nums3_all] at this, N.out.bl⟩
            · have hlt : k < W.qs.length := by omega
              have hli : (k : Int) < (W.qs.length : Int) := by omega
              have hq : W.qs.length ≤ 1048576 := S.out.q
              obtain ⟨j, hj⟩ : ∃ j, W.qs[k]? = some j := ⟨_, List.getElem?_eq_getElem hlt⟩
              obtain ⟨-, -, -, -, b, c, e, -, -, hc⟩ := (H.out.below N.out.bl).slices
              injection e with e1 e2 e3
              subst e1 e3
              obtain ⟨x, rfl, hx, hcell⟩ := hc (by intro e; rw [e] at hlt; simp at hlt)
              obtain ⟨d0, d1, d2, d3⟩ := hcell k j hj
              have NX : Hid (nums3 W (k + 1) = nums3 W k ++ Wd.jnums j) := nums3_next hj
              clear hc hcell hx hj hkl
              go_wp2_with (at_builtin; refine app_row _ rfl _ _ rfl (w.heap.size + 2) _ (nums3 W k) rfl ((N.out.o.alloc _).alloc _) _ (Wd.jnums j) rfl (Ro.lit (Wd.jnums j) _ rfl (by simp [Wd.jnums]) (by simp)) (by have := nums3_len S.out k; simp [Wd.jnums]; omega) (by have := SZ.out; simp; omega) ?_)
              intro v6 w6 o6 g6 q6
              have N6 : Hid (Nm1 w W _ _ _ _ _ zl v6 (nums3 W (k + 1)) w6) := N.out.step (((Below.refl _ _).alloc (Nat.le_refl _) _).alloc (by simp) _) g6 (by rw [NX.out]; exact o6) (by simpa using q6)
              clear o6 g6 q6
              go_wp2
              go_roundw
              case rel => exact ⟨k + 1, by omega, rfl, N6.out⟩
              case measure => simp [intOf]; omega
        · have hlt : k < W.us.length := by omega
          have hli : (k : Int) < (W.us.length : Int) := by omega
          have hq : W.us.length ≤ 1048576 := S.out.u
          obtain ⟨j, hj⟩ : ∃ j, W.us[k]? = some j := ⟨_, List.getElem?_eq_getElem hlt⟩
          obtain ⟨-, -, -, ⟨b, c, e, -, -, hc⟩, -⟩ := (H.out.below N.out.bl).slices
          injection e with e1 e2 e3
          subst e1 e3
          obtain ⟨x, rfl, hx, hcell⟩ := hc (by intro e; rw [e] at hlt; simp at hlt)
          obtain ⟨d0, d1, d2, d3, d4, d5, d6, d7⟩ := hcell k j hj
          have NX : Hid (nums2 W (k + 1) = nums2 W k ++ Wd.unums j) := nums2_next hj
          clear hc hcell hx hj hkl
          go_wp2_with (at_builtin; refine app_row _ rfl _ _ rfl (w.heap.size + 2) _ (nums2 W k) rfl ((N.out.o.alloc _).alloc _) _ (Wd.unums j) rfl (Ro.lit (Wd.unums j) _ rfl (by simp [Wd.unums]) (by simp)) (by have := nums2_len S.out k; simp [Wd.unums]; omega) (by have := SZ.out; simp; omega) ?_)
          intro v6 w6 o6 g6 q6
          have N6 : Hid (Nm1 w W _ _ _ _ _ zl v6 (nums2 W (k + 1)) w6) := N.out.step (((Below.refl _ _).alloc (Nat.le_refl _) _).alloc (by simp) _) g6 (by rw [NX.out]; exact o6) (by simpa using q6)
          clear o6 g6 q6
          go_wp2
          go_roundw
          case rel => exact ⟨k + 1, by omega, rfl, N6.out⟩
          case measure => simp [intOf]; omega
    · have hk' : k = 0 ∨ k = 1 ∨ k = 2 := by omega
      clear hk hk3
      rcases hk' with rfl | rfl | rfl
      · have ck := N.out.c0
        go_wp2_with (at_builtin; refine app_int _ rfl _ _ rfl (w.heap.size + 2) _ (nums1 W 0) rfl (N.out.o.alloc _) ⟨wr.heap.size, 0, none⟩ (W.gs.length : Nat) rfl (by simp) (by have := nums1_len S.out 0; omega) (by have := SZ.out; simp; omega) ?_)
        intro g cap w5 o5 g5 q5 l5
        obtain ⟨L, hL⟩ : ∃ L, nums1 W 0 ++ [(W.gs.length : Int)] = L := ⟨_, rfl⟩
        rw [hL] at o5
        have N5 : Hid (Nm1 w W (.slice a1 W.gs.length k1) (.slice a2 W.os.length k2) (.slice a3 W.gold.length k3) (.slice a4 W.us.length k4) (.slice a5 W.qs.length k5) zl (.slice (some ⟨g, 0, none⟩) ((nums1 W 0).length + 1) cap) L w5) := N.out.step ((Below.refl _ _).alloc (Nat.le_refl _) _) g5 o5 (own_is (by simpa using q5))
        have S5 : Hid (w.heap.size + 2 ≤ w5.heap.size) := by have := SZ.out; have := g5.size; simp at this; unfold Hid; omega
        have R5 : Hid (Ro w5 (.slice a1 W.gs.length k1) W.gs) := (H.out.below N5.out.bl).slices.1
        have HL : Hid (L ++ W.gs = nums1 W 1 ∧ L.length ≤ 5000000) := ⟨by rw [← hL]; simp [nums1], by have := nums1_len S.out 0; rw [← hL, List.length_append]; simp; omega⟩
        clear o5 g5 q5 l5 hL ck
        go_wp2_with (at_builtin; refine app_row _ rfl _ _ rfl (w.heap.size + 2) _ L rfl N5.out.o _ W.gs rfl R5.out (by have := HL.out.2; have := S.out.g; omega) (by have := S5.out; omega) ?_)
        intro v6 w6 o6 g6 q6
        have N6 : Hid (Nm1 w W _ _ _ _ _ zl v6 (nums1 W 1) w6) := N5.out.step (Below.refl _ _) g6 (by rw [← HL.out.1]; exact o6) q6
        clear o6 g6 q6
        go_wp2
        go_roundw
        case rel => exact ⟨1, by omega, rfl, N6.out⟩
        case measure => simp [intOf]
      · have ck := N.out.c1
        go_wp2_with (at_builtin; refine app_int _ rfl _ _ rfl (w.heap.size + 2) _ (nums1 W 1) rfl (N.out.o.alloc _) ⟨wr.heap.size, 0, none⟩ (W.os.length : Nat) rfl (by simp) (by have := nums1_len S.out 1; omega) (by have := SZ.out; simp; omega) ?_)
        intro g cap w5 o5 g5 q5 l5
        obtain ⟨L, hL⟩ : ∃ L, nums1 W 1 ++ [(W.os.length : Int)] = L := ⟨_, rfl⟩
        rw [hL] at o5
        have N5 : Hid (Nm1 w W (.slice a1 W.gs.length k1) (.slice a2 W.os.length k2) (.slice a3 W.gold.length k3) (.slice a4 W.us.length k4) (.slice a5 W.qs.length k5) zl (.slice (some ⟨g, 0, none⟩) ((nums1 W 1).length + 1) cap) L w5) := N.out.step ((Below.refl _ _).alloc (Nat.le_refl _) _) g5 o5 (own_is (by simpa using q5))
        have S5 : Hid (w.heap.size + 2 ≤ w5.heap.size) := by have := SZ.out; have := g5.size; simp at this; unfold Hid; omega
        have R5 : Hid (Ro w5 (.slice a2 W.os.length k2) W.os) := (H.out.below N5.out.bl).slices.2.1
        have HL : Hid (L ++ W.os = nums1 W 2 ∧ L.length ≤ 5000000) := ⟨by rw [← hL]; simp [nums1], by have := nums1_len S.out 1; rw [← hL, List.length_append]; simp; omega⟩
        clear o5 g5 q5 l5 hL ck
        go_wp2_with (at_builtin; refine app_row _ rfl _ _ rfl (w.heap.size + 2) _ L rfl N5.out.o _ W.os rfl R5.out (by have := HL.out.2; have := S.out.o; omega) (by have := S5.out; omega) ?_)
        intro v6 w6 o6 g6 q6
        have N6 : Hid (Nm1 w W _ _ _ _ _ zl v6 (nums1 W 2) w6) := N5.out.step (Below.refl _ _) g6 (by rw [← HL.out.1]; exact o6) q6
        clear o6 g6 q6
        go_wp2
        go_roundw
        case rel => exact ⟨2, by omega, rfl, N6.out⟩
        case measure => simp [intOf]
      · have ck := N.out.c2
        go_wp2_with (at_builtin; refine app_int _ rfl _ _ rfl (w.heap.size + 2) _ (nums1 W 2) rfl (N.out.o.alloc _) ⟨wr.heap.size, 0, none⟩ (W.gold.length : Nat) rfl (by simp) (by have := nums1_len S.out 2; omega) (by have := SZ.out; simp; omega) ?_)
        intro g cap w5 o5 g5 q5 l5
        obtain ⟨L, hL⟩ : ∃ L, nums1 W 2 ++ [(W.gold.length : Int)] = L := ⟨_, rfl⟩
        rw [hL] at o5
        have N5 : Hid (Nm1 w W (.slice a1 W.gs.length k1) (.slice a2 W.os.length k2) (.slice a3 W.gold.length k3) (.slice a4 W.us.length k4) (.slice a5 W.qs.length k5) zl (.slice (some ⟨g, 0, none⟩) ((nums1 W 2).length + 1) cap) L w5) := N.out.step ((Below.refl _ _).alloc (Nat.le_refl _) _) g5 o5 (own_is (by simpa using q5))
        have S5 : Hid (w.heap.size + 2 ≤ w5.heap.size) := by have := SZ.out; have := g5.size; simp at this; unfold Hid; omega
        have R5 : Hid (Ro w5 (.slice a3 W.gold.length k3) W.gold) := (H.out.below N5.out.bl).slices.2.2.1
        have HL : Hid (L ++ W.gold = nums1 W 3 ∧ L.length ≤ 5000000) := ⟨by rw [← hL]; simp [nums1], by have := nums1_len S.out 2; rw [← hL, List.length_append]; simp; omega⟩
        clear o5 g5 q5 l5 hL ck
        go_wp2_with (at_builtin; refine app_row _ rfl _ _ rfl (w.heap.size + 2) _ L rfl N5.out.o _ W.gold rfl R5.out (by have := HL.out.2; have := S.out.p; omega) (by have := S5.out; omega) ?_)
        intro v6 w6 o6 g6 q6
        have N6 : Hid (Nm1 w W _ _ _ _ _ zl v6 (nums1 W 3) w6) := N5.out.step (Below.refl _ _) g6 (by rw [← HL.out.1]; exact o6) q6
        clear o6 g6 q6
        go_wp2
        go_roundw
        case rel => exact ⟨3, by omega, rfl, N6.out⟩
        case measure => simp [intOf]
end Go.Proofs.YtoabhfipikkkeaaGreatDoor

namespace Go.Proofs.YtoabhfipikkkeaaGreatDoor
open Go.RowKit
set_option linter.unusedVariables false

set_option maxHeartbeats 2000000 in
theorem encode_any (v : Value) (W : WV) (w : World) (h : Wl w v W) (hs : WSmall W) (hi : ∀ n ∈ Wd.nums W, Wd.In64 n) :
    Calls Tryz.prog 9 #[v] w fun e w' => ∃ u, e = .returned u ∧ Ob w' w.heap.size u (Wd.enc W) ∧ Below w.heap.size w w' := by
  have H : Hid (Wl w v W) := h
  have S : Hid (WSmall W) := hs
  have I : Hid (∀ n ∈ Wd.nums W, Wd.In64 n) := hi
  obtain ⟨u1, u2, u3, u4, u5, rfl, h1, h2, h3, h4, h5⟩ := h
  clear h1 h2 h3 h4 h5 hs hi
  go_enter Tryz.func9, Tryz.ntmps9
  go_wp2_with fail
  have B0 : Hid (Below w.heap.size w (w.alloc (Obj.cells #[.int .i64 W.turn, .int .i64 W.next, .int .i64 W.wide, .int .i64 W.high, u1, u2, u3, u4, u5] 29))) := (Below.refl _ _).alloc (Nat.le_refl _) _
  generalize w.alloc (Obj.cells #[.int .i64 W.turn, .int .i64 W.next, .int .i64 W.wide, .int .i64 W.high, u1, u2, u3, u4, u5] 29) = w0 at *
  refine (numbers_any _ W w0 (H.out.below B0.out) S.out).mono ?_
  rintro e w1 ⟨u, rfl, ho, hb⟩
  have O : Hid (Ow w1 (w0.heap.size + 2) u (Wd.nums W)) := ho
  have B1 : Hid (Below w.heap.size w w1) := B0.out.trans (hb.mono B0.out.size)
  clear ho hb
  go_wp2_with fail
  have L : (Wd.nums W).length ≤ 100000000 := by rw [← nums3_all]; have := nums3_len S.out W.qs.length; omega
  refine (write_any _ (Wd.nums W) w1 O.out.ro I.out L).mono ?_
  rintro e w2 ⟨b, rfl, ho, hb⟩
  have F : Hid (Ob w2 w.heap.size b (Wd.enc W) ∧ Below w.heap.size w w2) := by
    refine ⟨⟨ho.1, ?_⟩, B1.out.trans (hb.mono B1.out.size)⟩
    rcases ho.2 with h1 | ⟨g, cap, cur, h1, h2, h3⟩
    · exact .inl h1
    · exact .inr ⟨g, cap, cur, h1, Nat.le_trans B1.out.size h2, h3⟩
  clear ho hb L
  go_wp2
  go_ret
  exact ⟨_, rfl, F.out.1, F.out.2⟩
end Go.Proofs.YtoabhfipikkkeaaGreatDoor

namespace Go.Proofs.YtoabhfipikkkeaaGreatDoor
open Go.RowKit
set_option linter.unusedVariables false

structure ChV where
  at_ : Int
  old : Int
  new : Int
def ChV.val (k : ChV) : Value := .agg #[.int .i64 k.at_, .int .i64 k.old, .int .i64 k.new]
/-- its cells, from an address on. -/
structure Chc (w : World) (y : Addr) (k : ChV) : Prop where
  c0 : w.cell? y = some (.int .i64 k.at_)
  c1 : w.cell? ⟨y.block, y.off + 1, none⟩ = some (.int .i64 k.old)
  c2 : w.cell? ⟨y.block, y.off + 2, none⟩ = some (.int .i64 k.new)
theorem Chc.lt {w : World} {y : Addr} {k : ChV} (h : Chc w y k) : y.block < w.heap.size := cell_lt h.c0
theorem Chc.below {w w' : World} {y : Addr} {k : ChV} {B : Nat} (h : Chc w y k) (hb : Below B w w') (hy : y.block < B) : Chc w' y k :=
  ⟨by rw [hb.cell (p := y) hy]; exact h.c0, by rw [hb.cell (p := ⟨y.block, y.off + 1, none⟩) hy]; exact h.c1, by rw [hb.cell (p := ⟨y.block, y.off + 2, none⟩) hy]; exact h.c2⟩
/-- v is a slice of them. -/
def Chl (w : World) (v : Value) (ks : List ChV) : Prop := ∃ a c, v = .slice a ks.length c ∧ ks.length ≤ c ∧ c ≤ 9223372036854775807 ∧ (ks ≠ [] → ∃ x, a = some x ∧ x.block < w.heap.size ∧ ∀ (i : Nat) k, ks[i]? = some k → Chc w (x.add (i * 3)) k)
theorem Chl.below {w w' : World} {v : Value} {ks : List ChV} (h : Chl w v ks) (hb : Below w.heap.size w w') : Chl w' v ks := by
  obtain ⟨a, c, h1, h2, h3, h4⟩ := h
  refine ⟨a, c, h1, h2, h3, fun hn => ?_⟩
  obtain ⟨x, e, hx, hk⟩ := h4 hn
  exact ⟨x, e, Nat.lt_of_lt_of_le hx hb.size, fun i k hi => (hk i k hi).below hb (by rw [add_block]; exact hx)⟩
theorem Chc.mk' {w : World} {z : Nat} (k : ChV) (hz : w.heap.size = z) : Chc (w.alloc (.cells #[.int .i64 k.at_, .int .i64 k.old, .int .i64 k.new] 107)) ⟨z, 0, none⟩ k := by
  subst hz
  constructor <;> simp
end Go.Proofs.YtoabhfipikkkeaaGreatDoor

namespace Go.Proofs.YtoabhfipikkkeaaGreatDoor
set_option linter.unusedVariables false

namespace Fe
/-- what is at a place; -1 behind the end. -/
def bat (l : List UInt8) (i : Nat) : Int := match l[i]? with
  | some d => (d.toNat : Int)
  | none => -1
theorem bat_in {l : List UInt8} {i : Nat} {d : UInt8} (h : l[i]? = some d) : bat l i = (d.toNat : Int) := by unfold bat; rw [h]
theorem bat_out {l : List UInt8} {i : Nat} (h : l.length ≤ i) : bat l i = -1 := by unfold bat; rw [List.getElem?_eq_none h]
theorem bat_bounds (l : List UInt8) (i : Nat) : -1 ≤ bat l i ∧ bat l i ≤ 255 := by
  unfold bat
  split
  · rename_i d _
    have := d.toNat_lt
    omega
  · omega
theorem bat_iff (l : List UInt8) (i : Nat) : 0 ≤ bat l i ↔ i < l.length := by
  constructor
  · intro h
    apply Nat.lt_of_not_le
    intro h2
    rw [bat_out h2] at h
    omega
  · intro h
    rw [bat_in (List.getElem?_eq_getElem h)]
    omega
/-- what is told of one place. -/
def one (a b : List UInt8) (i : Nat) : List ChV := if bat a i = bat b i then [] else [⟨i, bat a i, bat b i⟩]
/-- what is told of the first n places. -/
def dif (a b : List UInt8) : Nat → List ChV
  | 0 => []
  | n + 1 => dif a b n ++ one a b n
theorem dif_len (a b : List UInt8) : ∀ n, (dif a b n).length ≤ n
  | 0 => by simp [dif]
  | n + 1 => by
    have := dif_len a b n
    unfold dif one
    rw [List.length_append]
    split <;> simp <;> omega
theorem dif_same {a b : List UInt8} {n : Nat} (h : bat a n = bat b n) : dif a b (n + 1) = dif a b n := by rw [dif, one, if_pos h, List.append_nil]
theorem dif_more {a b : List UInt8} {n : Nat} (h : bat a n ≠ bat b n) : dif a b (n + 1) = dif a b n ++ [⟨n, bat a n, bat b n⟩] := by rw [dif, one, if_neg h]
theorem dif_pre (a b : List UInt8) (n : Nat) : ∀ m, n ≤ m → ∃ r, dif a b m = dif a b n ++ r
  | 0, h => ⟨[], by obtain rfl : n = 0 := by omega
                    simp⟩
  | m + 1, h => by
    by_cases e : n = m + 1
    · subst e; exact ⟨[], by simp⟩
    · obtain ⟨r, hr⟩ := dif_pre a b n m (by omega)
      exact ⟨r ++ one a b m, by rw [dif, hr, List.append_assoc]⟩
/-- the changes of two texts. -/
def diff (a b : List UInt8) : List ChV := dif a b (max a.length b.length)
end Fe
end Go.Proofs.YtoabhfipikkkeaaGreatDoor

namespace Go.Proofs.YtoabhfipikkkeaaGreatDoor
open Go.RowKit
set_option linter.unusedVariables false

theorem info_ch : (Tryz.prog.info? 107).map (fun i => (i.zero, i.size, i.bytes)) = some (some (.agg #[.int .i64 0, .int .i64 0, .int .i64 0]), 3, 24) := by kernel_rfl
def ChV.cs (k : ChV) : List Value := [.int .i64 k.at_, .int .i64 k.old, .int .i64 k.new]
theorem flat_ch : ∀ (ks : List ChV) (i j : Nat) (k : ChV), ks[i]? = some k → j < 3 → (ks.flatMap ChV.cs)[i * 3 + j]? = k.cs[j]?
  | [], i, j, k, h, _ => by simp at h
  | x :: ks, 0, j, k, h, hj => by
    simp at h
    subst h
    rw [List.flatMap_cons, List.getElem?_append_left (by simp [ChV.cs]; omega)]
    simp
  | x :: ks, i + 1, j, k, h, hj => by
    rw [List.flatMap_cons, List.getElem?_append_right (by simp [ChV.cs]; omega)]
    have : (i + 1) * 3 + j - (ChV.cs x).length = i * 3 + j := by simp [ChV.cs]; omega
    rw [this]
    exact flat_ch ks i j k (by simpa using h) hj
/-- v is a slice of them, in a block of its own from base on. -/
def Cho (w : World) (base : Nat) (v : Value) (ks : List ChV) : Prop := w.ownsRow base 107 3 v ks.length (ks.flatMap ChV.cs)
theorem Cho.nil (w : World) (base : Nat) : Cho w base (.slice none 0 0) [] := World.ownsRow_nil _ _ _ _
theorem Cho.below {w w' : World} {base : Nat} {v : Value} {ks : List ChV} (h : Cho w base v ks) (hb : Below w.heap.size w w') : Cho w' base v ks :=
  World.ownsRow.kept h (row := none) ⟨hb.os, hb.tape, hb.output, hb.size, fun k hk _ => hb.block k hk⟩ (by cases v.ownBlock <;> simp)
theorem Cho.kept {w w' : World} {base : Nat} {v : Value} {ks : List ChV} {row : Option Nat} (h : Cho w base v ks) (hg : w.grownBy w' row) (hne : v.ownBlock = none ∨ v.ownBlock ≠ row) : Cho w' base v ks := World.ownsRow.kept h hg hne
theorem Cho.alloc {w : World} {base : Nat} {v : Value} {ks : List ChV} (h : Cho w base v ks) (o : Obj) : Cho (w.alloc o) base v ks := World.ownsRow.alloc h o
theorem Cho.block {w : World} {base : Nat} {v : Value} {ks : List ChV} (h : Cho w base v ks) : ∀ k, v.ownBlock = some k → base ≤ k ∧ k < w.heap.size := World.ownsRow.lt h
theorem Cho.mono {w : World} {base base' : Nat} {v : Value} {ks : List ChV} (h : Cho w base v ks) (hb : base' ≤ base) : Cho w base' v ks := by
  refine ⟨h.1, ?_⟩
  rcases h.2 with h1 | ⟨g, cap, cur, h1, h2, h3⟩
  · exact .inl h1
  · exact .inr ⟨g, cap, cur, h1, Nat.le_trans hb h2, h3⟩
theorem Cho.l {w : World} {base : Nat} {v : Value} {ks : List ChV} (h : Cho w base v ks) : Chl w v ks := by
  rcases h.2 with ⟨hv, h0⟩ | ⟨g, cap, cur, hv, hb, hg, h1, h2, h3, h4⟩
  · exact ⟨none, 0, by rw [hv, h0], by omega, by omega, fun hn => absurd (List.length_eq_zero_iff.1 h0) hn⟩
  · refine ⟨_, cap, hv, h1, by unfold maxLen at h2; omega, fun _ => ⟨_, rfl, lt_of_block hg, fun i k hi => ?_⟩⟩
    have hil : i < ks.length := (List.getElem?_eq_some_iff.1 hi).1
    have h5 : w.ownsRow base 107 3 (.slice (some ⟨g, 0, none⟩) ks.length cap) ks.length (ks.flatMap ChV.cs) := by rw [← hv]; exact h
    have hc : ∀ j u, j < 3 → k.cs[j]? = some u → w.cell? ⟨g, i * 3 + j, none⟩ = some u := fun j u hj hu => by
      rw [h5.cellAt (i * 3 + j) (by omega), flat_ch ks i j k hi hj, hu]
    rw [Addr.add_lit, Nat.zero_add]
    exact ⟨hc 0 _ (by decide) rfl, hc 1 _ (by decide) rfl, hc 2 _ (by decide) rfl⟩
theorem Cho.len {w : World} {base : Nat} {v : Value} {ks : List ChV} (h : Cho w base v ks) : ∃ a c, v = .slice a ks.length c := by
  obtain ⟨a, c, h1, -⟩ := h.l
  exact ⟨a, c, h1⟩

/-- one more. -/
theorem app_ch {ops : Array Oper} {rest : List Oper} {o : Oper} {a : Act} {Q : Exit → Act → World → Prop} (w : World) (hgd : o.guard = none) (s x : Operand)
    (ho : o.op = .call { callee := .builtin .append, args := #[s, x], argTypes := #[42, 42] }) (base : Nat) (v : Value) (ks : List ChV) (hs : a.eval s = v) (hown : Cho w base v ks)
    (b : Nat) (d : ChV) (hx : a.eval x = .slice (some ⟨b, 0, none⟩) 1 1) (hd : Chc w ⟨b, 0, none⟩ d) (hl : ks.length ≤ 1000000) (hbase : base ≤ w.heap.size)
    (h : ∀ g cap w', Cho w' base (.slice (some ⟨g, 0, none⟩) (ks.length + 1) cap) (ks ++ [d]) → w.grownBy w' v.ownBlock → (v.ownBlock = some g ∨ g = w.heap.size) → g < w'.heap.size → wpList Tryz.prog ops Q rest (a.put o.dst (.slice (some ⟨g, 0, none⟩) (ks.length + 1) cap)) w') :
    wpList Tryz.prog ops Q (o :: rest) a w := by
  obtain ⟨i0, hi, hz0, hz1, hz2⟩ := info_parts info_ch
  refine wpList_append_lies w hgd s x 42 ho base 107 i0 (.agg #[.int .i64 0, .int .i64 0, .int .i64 0]) 3 24 Tryz.underlying42 hi hz0 hz1 hz2 rfl (by decide) v ks.length _ hs hown ⟨b, 0, none⟩ 1 1 d.cs hx rfl ?_ ?_ (by decide) (by unfold maxLen; omega) (by omega) hbase _ rfl ?_
  · intro j u hj
    have hjn : j < 3 := (List.getElem?_eq_some_iff.1 hj).1
    rw [Addr.add_lit, Nat.zero_add]
    match j, hjn, hj with
    | 0, _, hj => simp [ChV.cs] at hj; subst hj; exact hd.c0
    | 1, _, hj => simp [ChV.cs] at hj; subst hj; exact hd.c1
    | 2, _, hj => simp [ChV.cs] at hj; subst hj; exact hd.c2
  · intro u hu
    simp [ChV.cs] at hu
    rcases hu with rfl | rfl | rfl <;> rfl
  · intro g cap w' h1 h2 h3 h4
    refine h g cap w' ?_ h2 h3 h4
    unfold Cho
    rw [List.length_append, List.flatMap_append]
    simpa using h1
end Go.Proofs.YtoabhfipikkkeaaGreatDoor

namespace Go.Proofs.YtoabhfipikkkeaaGreatDoor
open Go.RowKit
set_option linter.unusedVariables false

set_option maxRecDepth 100000 in
set_option maxHeartbeats 4000000 in
theorem byteAt_any (v : Value) (l : List UInt8) (i : Nat) (w : World) (h : By w v l) :
    Calls Tryz.prog 58 #[v, .int .i64 (i : Nat)] w fun e w' => e = .returned (.int .i64 (Fe.bat l i)) ∧ w' = w := by
  obtain ⟨a, c, rfl, h1, h2, h3⟩ := h
  have h2' : c ≤ 9223372036854775807 := by unfold maxLen at h2; omega
  clear h2
  by_cases hi : i < l.length
  · have hi' : (i : Int) < (l.length : Int) := by omega
    obtain ⟨d, hd⟩ : ∃ d, l[i]? = some d := ⟨_, List.getElem?_eq_getElem hi⟩
    have HB : Hid (Fe.bat l i = (d.toNat : Int)) := Fe.bat_in hd
    obtain ⟨x, rfl, hx, hc⟩ := h3 (by rintro rfl; simp at hi)
    have c1 := hc i d hd
    have dl := d.toNat_lt
    have wd : IntKind.i64.wrap (d.toNat : Int) = (d.toNat : Int) := by rw [IntKind.wrap_i64]; omega
    clear hc hd h3
    go_enter Tryz.func58, Tryz.ntmps58
    go_wp2
    go_ret
    exact ⟨by rw [HB.out]; rfl, rfl⟩
  · have hi' : ¬ (i : Int) < (l.length : Int) := by omega
    have HB : Hid (Fe.bat l i = -1) := Fe.bat_out (by omega)
    clear h3
    go_enter Tryz.func58, Tryz.ntmps58
    go_wp2
    go_ret
    exact ⟨by rw [HB.out]; rfl, rfl⟩
/-- what Diff tells. -/
def DiffSays (a b : List UInt8) (w w' : World) (v r : Value) : Prop :=
  ((6000 < a.length ∨ 6000 < b.length) ∧ v = .slice none 0 0 ∧ Er r 4) ∨ (a.length ≤ 6000 ∧ b.length ≤ 6000 ∧ r = .nilIface ∧ Cho w' w.heap.size v (Fe.diff a b))
set_option maxRecDepth 100000 in
set_option maxHeartbeats 8000000 in
theorem Diff_any (va vb : Value) (a b : List UInt8) (w : World) (ha : By w va a) (hb : By w vb b) :
    Calls Tryz.prog 51 #[va, vb] w fun e w' => ∃ v r, e = .returned (.tuple #[v, r]) ∧ DiffSays a b w w' v r ∧ Below w.heap.size w w' := by
  have A : Hid (By w va a) := ha
  have B : Hid (By w vb b) := hb
  obtain ⟨pa, ca, rfl, a1, a2, -⟩ := ha
  obtain ⟨pb, cb, rfl, b1, b2, -⟩ := hb
  have a2' : ca ≤ 9223372036854775807 := by unfold maxLen at a2; omega
  have b2' : cb ≤ 9223372036854775807 := by unfold maxLen at b2; omega
  clear a2 b2
  by_cases h1 : 6000 < a.length
  · have h1' : (6000 : Int) < (a.length : Int) := by omega
    have H1 : Hid (6000 < a.length) := h1
    clear h1
    go_enter Tryz.func51, Tryz.ntmps51
    go_wp2
    go_ret2
    exact ⟨_, _, rfl, .inl ⟨.inl H1.out, rfl, Er.no (by decide)⟩, Below.refl _ _⟩
  by_cases h2 : 6000 < b.length
  · have h1' : ¬ (6000 : Int) < (a.length : Int) := by omega
    have h2' : (6000 : Int) < (b.length : Int) := by omega
    have H2 : Hid (6000 < b.length) := h2
    clear h1 h2
    go_enter Tryz.func51, Tryz.ntmps51
    go_wp2
    go_ret2
    exact ⟨_, _, rfl, .inl ⟨.inr H2.out, rfl, Er.no (by decide)⟩, Below.refl _ _⟩
  have h1' : ¬ (6000 : Int) < (a.length : Int) := by omega
  have h2' : ¬ (6000 : Int) < (b.length : Int) := by omega
  have L : Hid (a.length ≤ 6000 ∧ b.length ≤ 6000) := ⟨by omega, by omega⟩
  clear h1 h2
  obtain ⟨m, hm⟩ : ∃ m, max a.length b.length = m := ⟨_, rfl⟩
  have M : Hid (max a.length b.length = m) := hm
  have hmi : (if a.length < b.length then (b.length : Int) else (a.length : Int)) = (m : Int) := by split <;> omega
  have hmj : (if (a.length : Int) < (b.length : Int) then (b.length : Int) else (a.length : Int)) = (m : Int) := by split <;> omega
  have hm6 : m ≤ 6000 := by omega
  clear hm
  go_enter Tryz.func51, Tryz.ntmps51
  go_wp2_with fail
  go_loopw [6, 23] (fun lv iv W => ∃ n : Nat, n ≤ m ∧ iv = .int .i64 (n : Nat) ∧ Cho W w.heap.size lv (Fe.dif a b n) ∧ Below w.heap.size w W) (fun _ iv _ => m - (intOf iv).toNat)
  case atStart => exact ⟨0, Nat.zero_le _, rfl, Cho.nil _ _, Below.refl _ _⟩
  case round =>
  obtain ⟨n, hn, rfl, ho, hb⟩ := hrel
  have O : Hid (Cho wr w.heap.size u6 (Fe.dif a b n)) := ho
  have BW : Hid (Below w.heap.size w wr) := hb
  clear ho hb
  by_cases he : n = m
  case pos =>
    subst he
    go_wp2
    go_ret2
    exact ⟨_, _, rfl, .inr ⟨L.out.1, L.out.2, rfl, by unfold Fe.diff; rw [M.out]; exact O.out⟩, BW.out⟩
  have hlt : n < m := by omega
  have hlt' : (n : Int) < (m : Int) := by omega
  go_wp2_with fail
  refine (byteAt_any _ a n wr (A.out.below BW.out)).mono ?_
  rintro e w1 ⟨rfl, rfl⟩
  go_wp2_with fail
  refine (byteAt_any _ b n _ (B.out.below BW.out)).mono ?_
  rintro e w2 ⟨rfl, rfl⟩
  obtain ⟨x, hx⟩ : ∃ x, Fe.bat a n = x := ⟨_, rfl⟩
  obtain ⟨y, hy⟩ : ∃ y, Fe.bat b n = y := ⟨_, rfl⟩
  have XY : Hid (Fe.bat a n = x ∧ Fe.bat b n = y) := ⟨hx, hy⟩
  rw [hx, hy]
  clear hx hy
  have SZ : Hid (w.heap.size ≤ w2.heap.size) := BW.out.size
  by_cases hxy : x = y
  case pos =>
    have DS : Hid (Fe.dif a b (n + 1) = Fe.dif a b n) := Fe.dif_same (by rw [XY.out.1, XY.out.2, hxy])
    subst hxy
    go_wp2
    go_roundw
    case rel => exact ⟨n + 1, by omega, by go_num, by rw [DS.out]; exact O.out.alloc _, BW.out.alloc SZ.out _⟩
    case measure => simp [intOf]; omega
  have DS : Hid (Fe.dif a b (n + 1) = Fe.dif a b n ++ [⟨n, x, y⟩]) := by
    unfold Hid
    rw [Fe.dif_more (by rw [XY.out.1, XY.out.2]; exact hxy), XY.out.1, XY.out.2]
  have hxb : (x == y) = false := beq_eq_false_iff_ne.2 hxy
  have DL : Hid ((Fe.dif a b n).length ≤ 6000) := Nat.le_trans (Fe.dif_len a b n) (by omega)
  go_wp2_with (at_builtin; refine app_ch _ rfl _ _ rfl w.heap.size _ (Fe.dif a b n) rfl ((O.out.alloc _).alloc _) (w2.heap.size + 1) ⟨n, x, y⟩ rfl (Chc.mk' ⟨n, x, y⟩ (by simp)) (by have := DL.out; omega) (by have := SZ.out; simp; omega) ?_)
  intro g cap w5 o5 g5 a5 l5
  have O5 : Hid (Cho w5 w.heap.size (.slice (some ⟨g, 0, none⟩) ((Fe.dif a b n).length + 1) cap) (Fe.dif a b n ++ [⟨n, x, y⟩])) := o5
  have B5 : Hid (Below w.heap.size w w5) := ((BW.out.alloc SZ.out _).alloc (by have := SZ.out; simp; omega) _).grown g5 (by have := SZ.out; simp; omega) (fun k hk => (O.out.block k hk).1)
  clear o5 g5 a5 l5
  go_wp2
  go_roundw
  case rel => exact ⟨n + 1, by omega, by go_num, by rw [DS.out]; exact O5.out, B5.out⟩
  case measure => simp [intOf]; omega
end Go.Proofs.YtoabhfipikkkeaaGreatDoor

namespace Go.Proofs.YtoabhfipikkkeaaGreatDoor
open Go.RowKit
set_option linter.unusedVariables false

theorem farN_self (W a : Nat) : farN W a a = 0 := by
  unfold farN
  rw [Int.sub_self, Int.sub_self]
  decide
theorem line_self (W a : Nat) : Fd.line W a a = [(a : Int)] := by
  unfold Fd.line
  rw [if_pos (by unfold Fd.span; simp)]
theorem see_self {W : Nat} {gs : List Int} {k : KV} {a : Nat} (h : 0 ≤ k.n3) : seeN W gs k a a = true := by
  unfold seeN
  rw [farN_self, line_self]
  simp [Fd.hide, h]
theorem own_sees {ks : List KV} {X : WV} {W i : Nat} {p : Int} {u : UnV} (WR : WRight ks X) (hu : X.us[i]? = some u) (hp : u.player = p) : seesP ks W X.gs X.us p u.at_.toNat = true := by
  obtain ⟨k, f⟩ := WR.fine hu
  have hN := kind_nums WR.kinds (List.mem_of_getElem? f.kk)
  refine List.any_eq_true.2 ⟨u, List.mem_of_getElem? hu, ?_⟩
  unfold seeU
  rw [f.kk, hp]
  simp [see_self (W := W) (gs := X.gs) (a := u.at_.toNat) hN.2.2.2.2.2.2.2.2.1]
theorem sees_has {ks : List KV} {gs : List Int} {us : List UnV} {W c : Nat} {p : Int} (h : seesP ks W gs us p c = true) : us.any (fun u => u.player == p) = true := by
  obtain ⟨u, hu, h⟩ := List.any_eq_true.1 h
  unfold seeU at h
  exact List.any_eq_true.2 ⟨u, hu, (Bool.and_eq_true_iff.1 h).1⟩
theorem seers_more (ks : List KV) (W : Nat) (X : WV) (c m : Nat) : ∀ d, ∃ t, seersUp ks W X c (m + d) = seersUp ks W X c m ++ t
  | 0 => ⟨[], by simp⟩
  | d + 1 => by
    obtain ⟨t, ht⟩ := seers_more ks W X c m d
    rw [← Nat.add_assoc, seers_next, ht, List.append_assoc]
    exact ⟨_, rfl⟩
theorem seers_at {ks : List KV} {W : Nat} {X : WV} {c p : Nat} (hp : p < X.gold.length) (h : seesP ks W X.gs X.us (p : Nat) c = true) : (seersL ks W X c)[(seersUp ks W X c p).length]? = some ((p : Nat) : Int) := by
  obtain ⟨t, ht⟩ := seers_more ks W X c (p + 1) (X.gold.length - (p + 1))
  have e : p + 1 + (X.gold.length - (p + 1)) = X.gold.length := by omega
  unfold seersL
  rw [e] at ht
  rw [ht, seers_next, h, if_pos rfl]
  simp
theorem seers_some {ks : List KV} {W : Nat} {X : WV} {c p : Nat} (h : seesP ks W X.gs X.us (p : Nat) c = true) : (seersUp ks W X c (p + 1)).length = (seersUp ks W X c p).length + 1 := by
  rw [seers_next, h, if_pos rfl]
  simp
theorem seers_none {ks : List KV} {W : Nat} {X : WV} {c p : Nat} (h : seesP ks W X.gs X.us (p : Nat) c = false) : (seersUp ks W X c (p + 1)).length = (seersUp ks W X c p).length := by
  rw [seers_next, h]
  simp
theorem pfault_ok {ks : List KV} {X : WV} {p : Int} (h : Wd.wfault ks X = 0) (h1 : 0 ≤ p) (h2 : p < (X.gold.length : Int)) : pfault ks X p = 0 := by
  unfold pfault
  rw [if_pos h, if_pos ⟨h1, h2⟩]
theorem seen_of {ks : List KV} {X : WV} {p : Int} {w : World} {v : Value} {Wn : Nat} (h : SeenSays ks X p w v) (h0 : pfault ks X p = 0) (hw : X.wide = (Wn : Nat)) : Bbl w v (seenL ks Wn X p) := by
  rcases h with ⟨h, -⟩ | ⟨-, Wm, h1, h2⟩
  · exact absurd h0 h
  · obtain rfl : Wm = Wn := by omega
    exact h2
end Go.Proofs.YtoabhfipikkkeaaGreatDoor

namespace Go.Proofs.YtoabhfipikkkeaaGreatDoor
open Go.RowKit
set_option linter.unusedVariables false

theorem filt_at {α : Type} {p : α → Bool} : ∀ (l : List α) (i : Nat) (x : α), (l.filter p)[i]? = some x → ∃ j, l[j]? = some x ∧ p x = true ∧ (l.filter p).take i = (l.take j).filter p
  | [], i, x, h => by simp at h
  | a :: l, i, x, h => by
    cases hp : p a with
    | true =>
      rw [List.filter_cons_of_pos hp] at h ⊢
      cases i with
      | zero =>
        simp at h
        subst h
        exact ⟨0, rfl, hp, rfl⟩
      | succ i =>
        rw [List.getElem?_cons_succ] at h
        obtain ⟨j, h1, h2, h3⟩ := filt_at l i x h
        exact ⟨j + 1, by rw [List.getElem?_cons_succ]; exact h1, h2, by rw [List.take_succ_cons, List.take_succ_cons, List.filter_cons_of_pos hp, h3]⟩
    | false =>
      have hn : ¬ p a = true := by rw [hp]; simp
      rw [List.filter_cons_of_neg hn] at h ⊢
      obtain ⟨j, h1, h2, h3⟩ := filt_at l i x h
      exact ⟨j + 1, by rw [List.getElem?_cons_succ]; exact h1, h2, by rw [List.take_succ_cons, List.filter_cons_of_neg hn, h3]⟩
theorem zer_at {q : Nat → Bool} {l : List Int} {i : Nat} {o : Int} (h : (zer q l)[i]? = some o) : ∃ x, l[i]? = some x ∧ o = if q i then 0 else x := by
  unfold zer at h
  rw [List.getElem?_mapIdx] at h
  cases hl : l[i]? with
  | none => rw [hl] at h; cases h
  | some x =>
    rw [hl] at h
    exact ⟨x, rfl, (Option.some.inj h).symm⟩
theorem zer_zer (q : Nat → Bool) (l : List Int) : zer q (zer q l) = zer q l := by
  unfold zer
  apply List.ext_getElem
  · simp
  · intro i h1 h2
    simp only [List.getElem_mapIdx]
    cases q i <;> simp
theorem hid_own {ks : List KV} {W : Nat} {X : WV} {p : Int} {u : UnV} (h : u.player = p) : hidU ks W X p u = false := by
  unfold hidU
  rw [h]
  simp
theorem sees_view (ks : List KV) (W : Nat) (X : WV) (p : Int) (c : Nat) : seesP ks W X.gs (viewOf ks W X p).us p c = seesP ks W X.gs X.us p c := by
  unfold seesP
  rw [Bool.eq_iff_iff, List.any_eq_true, List.any_eq_true]
  constructor
  · rintro ⟨u, hu, h⟩
    exact ⟨u, (List.mem_filter.1 hu).1, h⟩
  · rintro ⟨u, hu, h⟩
    refine ⟨u, List.mem_filter.2 ⟨hu, ?_⟩, h⟩
    unfold seeU at h
    have hp : u.player = p := by simpa using (Bool.and_eq_true_iff.1 h).1
    rw [hid_own hp]
    rfl
theorem hid_view (ks : List KV) (W : Nat) (X : WV) (p : Int) (u : UnV) : hidU ks W (viewOf ks W X p) p u = hidU ks W X p u := by
  unfold hidU
  have e : seesP ks W (viewOf ks W X p).gs (viewOf ks W X p).us p u.at_.toNat = seesP ks W X.gs X.us p u.at_.toNat := sees_view ks W X p _
  rw [e]
theorem view_fix {ks : List KV} {W : Nat} {V : WV} {p : Int} (h1 : V.us.filter (fun u => !hidU ks W V p u) = V.us) (h2 : V.qs.filter (fun j => !notJ p j) = V.qs) (h3 : zer (fun i => !decide ((i : Int) = p)) V.gold = V.gold) (h4 : zer (fun i => !seesP ks W V.gs V.us p i) V.os = V.os) : viewOf ks W V p = V := by
  unfold viewOf
  rw [h1, h2, h3, h4]
theorem view_view (ks : List KV) (W : Nat) (X : WV) (p : Int) : viewOf ks W (viewOf ks W X p) p = viewOf ks W X p := by
  have h1 : (viewOf ks W X p).us.filter (fun u => !hidU ks W (viewOf ks W X p) p u) = (viewOf ks W X p).us := by
    rw [List.filter_eq_self]
    intro u hu
    rw [hid_view]
    exact (List.mem_filter.1 hu).2
  have h2 : (viewOf ks W X p).qs.filter (fun j => !notJ p j) = (viewOf ks W X p).qs := by
    rw [List.filter_eq_self]
    intro j hj
    exact (List.mem_filter.1 hj).2
  have h3 : zer (fun i => !decide ((i : Int) = p)) (viewOf ks W X p).gold = (viewOf ks W X p).gold := zer_zer _ _
  have h4 : zer (fun i => !seesP ks W (viewOf ks W X p).gs (viewOf ks W X p).us p i) (viewOf ks W X p).os = (viewOf ks W X p).os := by
    have e : (fun i : Nat => !seesP ks W (viewOf ks W X p).gs (viewOf ks W X p).us p i) = fun i : Nat => !seesP ks W X.gs X.us p i := by
      funext i
      have : seesP ks W (viewOf ks W X p).gs (viewOf ks W X p).us p i = seesP ks W X.gs X.us p i := sees_view ks W X p i
      rw [this]
    rw [e]
    exact zer_zer _ _
  exact view_fix h1 h2 h3 h4
theorem seen_view (ks : List KV) (W : Nat) (X : WV) (p : Int) : seenL ks W (viewOf ks W X p) p = seenL ks W X p := by
  unfold seenL
  apply List.map_congr_left
  intro i _
  exact sees_view ks W X p i
theorem own_count (ks : List KV) (W : Nat) (X : WV) (p : Int) : (viewOf ks W X p).us.countP (fun u => u.player == p) = X.us.countP (fun u => u.player == p) := by
  show (X.us.filter _).countP _ = _
  rw [List.countP_filter]
  apply List.countP_congr
  intro u _
  constructor
  · intro h; exact (Bool.and_eq_true_iff.1 h).1
  · intro h
    have hp : u.player = p := by simpa using h
    rw [hid_own hp, h]
    rfl
theorem view_from {ks : List KV} {W : Nat} {X : WV} {p : Int} {i : Nat} {y : UnV} (h : (viewOf ks W X p).us[i]? = some y) : ∃ j, X.us[j]? = some y ∧ hidU ks W X p y = false ∧ (viewOf ks W X p).us.take i = (X.us.take j).filter (fun u => !hidU ks W X p u) := by
  obtain ⟨j, h1, h2, h3⟩ := filt_at X.us i y h
  exact ⟨j, h1, by simpa using h2, h3⟩
theorem view_right {ks : List KV} {Wn : Nat} {X : WV} {p : Int} (h : WRight ks X) : Wd.wfault ks (viewOf ks Wn X p) = 0 := by
  obtain ⟨Wm, Hm, e1, e2, G⟩ := h.good
  refine Wd.wfault_zero h.kinds ?_ ?_ ?_ ?_ ?_ ?_
  · show Fd.fault X.wide X.high X.gs (zer _ X.os) = 0
    rw [e1, e2]
    refine Fd.fault_good ⟨G.w1, G.w2, G.h1, G.h2, G.gl, by rw [zer_len]; exact G.ol, fun i g o hg ho => ?_⟩
    obtain ⟨x, hx, rfl⟩ := zer_at ho
    have := G.cell i g x hg hx
    split
    · exact ⟨this.1, this.2.1, by omega, by omega, fun h => by omega⟩
    · exact this
  · have hn := h.nums
    unfold Wd.numsBad at hn ⊢
    simp only [Bool.or_eq_false_iff] at hn ⊢
    obtain ⟨n1, n2, n3, n4⟩ := hn
    refine ⟨n1, n2, ?_, ?_⟩
    · show (!decide (1 ≤ ((zer _ X.gold).length : Int) ∧ ((zer _ X.gold).length : Int) ≤ 4)) = false
      rw [zer_len]
      exact n3
    · show (zer _ X.gold).any (Wd.off 0) = false
      rw [List.any_eq_false] at n4 ⊢
      intro o ho
      obtain ⟨i, hi⟩ := List.mem_iff_getElem?.1 ho
      obtain ⟨x, hx, rfl⟩ := zer_at hi
      split
      · decide
      · exact n4 x (List.mem_of_getElem? hx)
  · show (X.us.filter _).length ≤ 40
    have := List.length_filter_le (fun u => !hidU ks Wn X p u) X.us
    have := h.ul
    omega
  · intro i y hy
    obtain ⟨j, hu, hh, ht⟩ := view_from hy
    obtain ⟨k, f⟩ := h.fine hu
    have AH : ∀ q ∈ (viewOf ks Wn X p).us.take i, ∃ j', j' < j ∧ X.us[j']? = some q := fun q hq => by
      rw [ht] at hq
      obtain ⟨j', hj'⟩ := List.mem_iff_getElem?.1 (List.mem_filter.1 hq).1
      rw [List.getElem?_take] at hj'
      split at hj'
      · rename_i hlt; exact ⟨j', hlt, hj'⟩
      · cases hj'
    refine ⟨k, f.id1, f.id2, ?_, ⟨f.p.1, by show y.player < ((zer _ X.gold).length : Int); rw [zer_len]; exact f.p.2⟩, f.k0, f.kk, f.life, f.load, f.task, f.at_, f.goal, ?_, f.rest⟩
    · show Wd.notAbove (viewOf ks Wn X p).us i _ = false
      cases i with
      | zero => rfl
      | succ i =>
        have hil : i < (viewOf ks Wn X p).us.length := by have := (List.getElem?_eq_some_iff.1 hy).1; omega
        obtain ⟨q, hq⟩ : ∃ q, (viewOf ks Wn X p).us[i]? = some q := ⟨_, List.getElem?_eq_getElem hil⟩
        simp only [Wd.notAbove, hq, decide_eq_false_iff_not]
        obtain ⟨j', a1, a2⟩ := AH q (List.mem_of_getElem? (by rw [List.getElem?_take, if_pos (Nat.lt_succ_self _)]; exact hq))
        have := ids_rise h (j - j' - 1) j' q y a2 (by rw [show j' + (j - j' - 1) + 1 = j by omega]; exact hu)
        omega
    · have ho := f.opn
      unfold Wd.open_ at ho
      rw [Bool.and_eq_true] at ho
      show Wd.open_ X.gs ((viewOf ks Wn X p).us.take i) y.at_ k.f = true
      unfold Wd.open_
      rw [Bool.and_eq_true]
      refine ⟨ho.1, ?_⟩
      rw [Bool.not_eq_true', List.any_eq_false]
      intro q hq
      obtain ⟨j', a1, a2⟩ := AH q hq
      have h1 := ho.2
      rw [Bool.not_eq_true', List.any_eq_false] at h1
      exact h1 q (List.mem_of_getElem? (by rw [List.getElem?_take, if_pos a1]; exact a2))
  · show (X.qs.filter _).length ≤ 12
    have := List.length_filter_le (fun j => !notJ p j) X.qs
    have := h.ql
    omega
  · intro j hj
    obtain ⟨hjm, hjo⟩ := List.mem_filter.1 hj
    have hjp : j.player = p := by unfold notJ at hjo; simpa using hjo
    have hx := h.job hjm
    cases hf : X.us.find? (fun u => u.id == j.unit) with
    | none =>
      unfold Wd.jobFault at hx
      rw [hf] at hx
      cases hx
    | some u1 =>
      have hm1 := List.mem_of_find?_eq_some hf
      have hi1 : u1.id = j.unit := by simpa using List.find?_some hf
      obtain ⟨j1, hj1⟩ := List.mem_iff_getElem?.1 hm1
      have hpl : u1.player = p := by
        unfold Wd.jobFault at hx
        rw [hf] at hx
        simp only at hx
        cases hk : ks[u1.kind.toNat]? with
        | none => rw [hk] at hx; cases hx
        | some k =>
          rw [hk] at hx
          simp only at hx
          split at hx
          · cases hx
          · rename_i hb
            have hb' : ¬ (u1.player != j.player) = true := fun h => hb (by rw [h]; rfl)
            have : u1.player = j.player := by simpa using hb'
            rw [this, hjp]
      have hmv : u1 ∈ (viewOf ks Wn X p).us := List.mem_filter.2 ⟨hm1, by rw [hid_own hpl]; rfl⟩
      have hfs : ((viewOf ks Wn X p).us.find? (fun u => u.id == j.unit)).isSome = true := List.find?_isSome.2 ⟨u1, hmv, by simpa using hi1⟩
      obtain ⟨y0, hy0⟩ := Option.isSome_iff_exists.1 hfs
      have hm0 := List.mem_of_find?_eq_some hy0
      have hi0 : y0.id = j.unit := by simpa using List.find?_some hy0
      obtain ⟨j0, hj0⟩ := List.mem_iff_getElem?.1 (List.mem_filter.1 hm0).1
      have := id_one h hj0 hj1 (by rw [hi0, hi1])
      subst this
      rw [hj0] at hj1
      injection hj1 with hj1
      subst hj1
      unfold Wd.jobFault at hx ⊢
      rw [hf] at hx
      rw [hy0]
      exact hx
end Go.Proofs.YtoabhfipikkkeaaGreatDoor

namespace Go.Proofs.YtoabhfipikkkeaaGreatDoor
open Go.RowKit
set_option linter.unusedVariables false

theorem Ob.by_ {w : World} {base : Nat} {v : Value} {l : List UInt8} (h : Ob w base v l) : By w v l := by
  rcases h.2 with ⟨hv, h0⟩ | ⟨g, cap, cur, hv, hb, hg, h1, h2, h3, h4⟩
  · exact ⟨none, 0, by rw [hv, h0], by omega, by omega, fun hn => absurd (List.length_eq_zero_iff.1 h0) hn⟩
  · refine ⟨_, cap, hv, h1, h2, fun hn => ⟨_, rfl, lt_of_block hg, fun i d hd => ?_⟩⟩
    have hi : i < l.length := (List.getElem?_eq_some_iff.1 hd).1
    rw [Addr.add_lit, Nat.zero_add]
    have h5 : w.ownsRow base 5 1 (.slice (some ⟨g, 0, none⟩) l.length cap) l.length (byteCells l) := by rw [← hv]; exact h
    rw [h5.cellAt i (by omega), byteCells, List.getElem?_map, hd]
    rfl
theorem By.take {w : World} {ad : Option Addr} {n c k : Nat} {l : List UInt8} (h : By w (.slice ad n c) l) (hk : k ≤ l.length) : By w (.slice ad k c) (l.take k) := by
  obtain ⟨a, c', e, h1, h2, h3⟩ := h
  injection e with e1 e2 e3
  subst e1 e3
  have hl : (l.take k).length = k := by rw [List.length_take]; omega
  refine ⟨ad, c, by rw [hl], by omega, h2, fun hn => ?_⟩
  obtain ⟨x, e, hx, hc⟩ := h3 (by intro h; subst h; simp at hn)
  refine ⟨x, e, hx, fun i d hd => hc i d ?_⟩
  rw [List.getElem?_take] at hd
  split at hd
  · exact hd
  · cases hd
set_option maxRecDepth 100000 in
theorem By.conv {w : World} {ad : Option Addr} {n c : Nat} {l : List UInt8} (h : By w (.slice ad n c) l) : (convert 36 9 (.slice ad n c)).run Tryz.prog w = .ok (.string ⟨l.toArray⟩) w := by
  obtain ⟨a, c', e, h1, h2, h3⟩ := h
  injection e with e1 e2 e3
  subst e1 e2 e3
  by_cases hn : l = []
  · subst hn
    cases ad with
    | none => rw [show ([] : List UInt8).length = 0 from rfl, run_convert_bytes_string w 36 9 5 none 0 c Tryz.underlying36 Tryz.underlying5 Tryz.underlying9]; rfl
    | some a => exact run_convert_bytes_back (P := Tryz.prog) w 36 9 5 a c [] Tryz.underlying36 Tryz.underlying5 Tryz.underlying9 (fun j hj => by simp at hj)
  · obtain ⟨x, rfl, hx, hc⟩ := h3 hn
    exact run_convert_bytes_back (P := Tryz.prog) w 36 9 5 x c l Tryz.underlying36 Tryz.underlying5 Tryz.underlying9 (fun j hj => hc j _ (List.getElem?_eq_getElem hj))
theorem app_bytes {ops : Array Oper} {rest : List Oper} {o : Oper} {a : Act} {Q : Exit → Act → World → Prop} (w : World) (hgd : o.guard = none) (s x : Operand)
    (ho : o.op = .call { callee := .builtin .append, args := #[s, x], argTypes := #[36, 36] }) (base : Nat) (v : Value) (xs : List UInt8) (hs : a.eval s = v) (hown : Ob w base v xs)
    (u : Value) (ys : List UInt8) (hx : a.eval x = u) (hu : By w u ys) (hl : xs.length + ys.length ≤ 1000000000) (hbase : base ≤ w.heap.size)
    (h : ∀ v' w', Ob w' base v' (xs ++ ys) → w.grownBy w' v.ownBlock → wpList Tryz.prog ops Q rest (a.put o.dst v') w') :
    wpList Tryz.prog ops Q (o :: rest) a w := by
  obtain ⟨i0, hi, hz0, hz1, hz2⟩ := info_parts info_byte
  obtain ⟨ad, c, rfl, h1, h2, h3⟩ := hu
  by_cases hn : ys = []
  · subst hn
    refine wpList_plain hgd fun K hK => ?_
    have hrun := run_append_no (P := Tryz.prog) (w := w) base 36 o.type 5 i0 1 Tryz.underlying36 hi v xs.length _ hown ad c
    have hx' : a.eval x = .slice ad 0 c := hx
    unfold Oper.wp
    simp [execOp, ho, resolve, invoke, builtin, hs, hx', hrun, Result.andThen]
    exact hK _ _ (h v w (by simpa using hown) (World.grownBy.refl _ _))
  · obtain ⟨y, rfl, hy, hc⟩ := h3 hn
    refine wpList_append_own w hgd s x 36 ho base 5 i0 (.int .u8 0) 1 1 Tryz.underlying36 hi hz0 hz1 hz2 rfl (by decide) v xs.length _ hs hown y ys.length c (byteCells ys) hx (by simp [byteCells]) ?_ ?_ (by unfold maxLen; omega) (by omega) hbase ?_
    · intro j u hj
      rw [byteCells, List.getElem?_map] at hj
      cases hd : ys[j]? with
      | none => rw [hd] at hj; cases hj
      | some d => rw [hd] at hj; cases hj; exact hc j d hd
    · intro u hu
      simp only [byteCells, List.mem_map] at hu
      obtain ⟨b, -, rfl⟩ := hu
      rfl
    · intro v' w' k1 k2 _
      refine h v' w' ?_ k2
      unfold Ob
      rw [List.length_append, byteCells, List.map_append]
      exact k1
theorem Ob.take {w : World} {base : Nat} {ad : Option Addr} {n c k : Nat} {l : List UInt8} (h : Ob w base (.slice ad n c) l) (hk : k ≤ l.length) : Ob w base (.slice ad k c) (l.take k) := by
  have hl : (l.take k).length = k := by rw [List.length_take]; omega
  refine ⟨by rw [hl]; simp [byteCells]; omega, ?_⟩
  rw [hl]
  rcases h.2 with ⟨h1, h2⟩ | ⟨g, cap, cur, h1, h2, h3, h4, h5, h6, h7⟩
  · injection h1 with e1 e2 e3
    subst e1 e2 e3
    have : k = 0 := by omega
    subst this
    exact .inl ⟨rfl, rfl⟩
  · injection h1 with e1 e2 e3
    subst e1 e2 e3
    refine .inr ⟨g, c, cur, rfl, h2, h3, by omega, h5, h6, ?_⟩
    have e : byteCells (l.take k) = (byteCells l).take k := by simp [byteCells, List.map_take]
    rw [e, ← h7, List.take_take]
    congr 1
    omega
theorem Ob.below {w w' : World} {base : Nat} {v : Value} {l : List UInt8} (h : Ob w base v l) (hb : Below w.heap.size w w') : Ob w' base v l :=
  World.ownsRow.kept h (row := none) ⟨hb.os, hb.tape, hb.output, hb.size, fun k hk _ => hb.block k hk⟩ (by cases v.ownBlock <;> simp)
/-- a whole list behind another one, and where it lies. -/
theorem app_bytes2 {ops : Array Oper} {rest : List Oper} {o : Oper} {a : Act} {Q : Exit → Act → World → Prop} (w : World) (hgd : o.guard = none) (s x : Operand)
    (ho : o.op = .call { callee := .builtin .append, args := #[s, x], argTypes := #[36, 36] }) (base : Nat) (v : Value) (xs : List UInt8) (hs : a.eval s = v) (hown : Ob w base v xs)
    (u : Value) (ys : List UInt8) (hx : a.eval x = u) (hu : By w u ys) (hl : xs.length + ys.length ≤ 1000000000) (hbase : base ≤ w.heap.size)
    (h : ∀ v' w', Ob w' base v' (xs ++ ys) → w.grownBy w' v.ownBlock → (v'.ownBlock = v.ownBlock ∨ v'.ownBlock = some w.heap.size) → wpList Tryz.prog ops Q rest (a.put o.dst v') w') :
    wpList Tryz.prog ops Q (o :: rest) a w := by
  obtain ⟨i0, hi, hz0, hz1, hz2⟩ := info_parts info_byte
  obtain ⟨ad, c, rfl, h1, h2, h3⟩ := hu
  by_cases hn : ys = []
  · subst hn
    refine wpList_plain hgd fun K hK => ?_
    have hrun := run_append_no (P := Tryz.prog) (w := w) base 36 o.type 5 i0 1 Tryz.underlying36 hi v xs.length _ hown ad c
    have hx' : a.eval x = .slice ad 0 c := hx
    unfold Oper.wp
    simp [execOp, ho, resolve, invoke, builtin, hs, hx', hrun, Result.andThen]
    exact hK _ _ (h v w (by simpa using hown) (World.grownBy.refl _ _) (.inl rfl))
  · obtain ⟨y, rfl, hy, hc⟩ := h3 hn
    refine wpList_append_lies w hgd s x 36 ho base 5 i0 (.int .u8 0) 1 1 Tryz.underlying36 hi hz0 hz1 hz2 rfl (by decide) v xs.length _ hs hown y ys.length c (byteCells ys) hx (by simp [byteCells]) ?_ ?_ (List.length_pos_iff.2 hn) (by unfold maxLen; omega) (by omega) hbase _ rfl ?_
    · intro j u hj
      rw [byteCells, List.getElem?_map] at hj
      cases hd : ys[j]? with
      | none => rw [hd] at hj; cases hj
      | some d => rw [hd] at hj; cases hj; exact hc j d hd
    · intro u hu
      simp only [byteCells, List.mem_map] at hu
      obtain ⟨b, -, rfl⟩ := hu
      rfl
    · intro g cap w' k1 k2 k3 _
      refine h _ w' ?_ k2 ?_
      · unfold Ob
        rw [List.length_append, byteCells, List.map_append]
        exact k1
      · rcases k3 with k3 | k3
        · exact .inl k3.symm
        · exact .inr (by rw [k3]; rfl)
end Go.Proofs.YtoabhfipikkkeaaGreatDoor

namespace Go.Proofs.YtoabhfipikkkeaaGreatDoor
open Go.RowKit
set_option linter.unusedVariables false

end Go.Proofs.YtoabhfipikkkeaaGreatDoor

namespace Go.Proofs.YtoabhfipikkkeaaGreatDoor
open Go.RowKit
set_option linter.unusedVariables false

theorem wl_zero (w : World) : Wl w (.agg #[.int .i64 0, .int .i64 0, .int .i64 0, .int .i64 0, .slice none 0 0, .slice none 0 0, .slice none 0 0, .slice none 0 0, .slice none 0 0]) (⟨0, 0, 0, 0, [], [], [], [], []⟩ : WV) :=
  ⟨_, _, _, _, _, rfl, ⟨none, 0, rfl, Nat.le_refl _, by omega, fun h => absurd rfl h⟩, ⟨none, 0, rfl, Nat.le_refl _, by omega, fun h => absurd rfl h⟩, ⟨none, 0, rfl, Nat.le_refl _, by omega, fun h => absurd rfl h⟩, ⟨none, 0, rfl, Nat.le_refl _, by omega, fun h => absurd rfl h⟩, ⟨none, 0, rfl, Nat.le_refl _, by omega, fun h => absurd rfl h⟩⟩
theorem wok_zero : Wd.Wok (⟨0, 0, 0, 0, [], [], [], [], []⟩ : WV) := ⟨fun n hn => by
    have e : n = 0 := by simpa [Wd.nums] using hn
    subst e
    exact in64_small (by omega), by decide, by decide, by decide, by decide, by decide⟩
theorem wok_view {ks : List KV} {X : WV} {p : Int} (Wn : Nat) (h : pfault ks X p = 0) : Wd.Wok (viewOf ks Wn X p) := (wright_of (view_right (p := p) (Wn := Wn) (wright_of (pfault_zero h).1))).wok
/-- what a player is told of a world. -/
def ToldSays (ks : List KV) (X : WV) (p : Int) (w : World) (e : Ending) (w' : World) : Prop := ∃ u r, e = .returned (.tuple #[u, r]) ∧ Er r (pfault ks X p) ∧ (∃ l, By w' u l ∧ (pfault ks X p = 0 → ∃ Wn : Nat, X.wide = (Wn : Nat) ∧ l = Wd.enc (viewOf ks Wn X p))) ∧ Below w.heap.size w w'
set_option maxRecDepth 100000 in
set_option maxHeartbeats 8000000 in
theorem told_any (kb pb : Nat) (vk vw : Value) (ks : List KV) (X : WV) (p : Int) (w : World) (hk : Kl w vk ks) (hb : ∀ k ∈ ks, k.b.size ≤ 9223372036854775807) (hw : Wl w vw X) (ck : w.cell? ⟨kb, 0, none⟩ = some vk) (cp : w.cell? ⟨pb, 0, none⟩ = some (.int .i64 p)) :
    Calls Tryz.prog 50 #[vw, .pointer (some ⟨kb, 0, none⟩), .pointer (some ⟨pb, 0, none⟩)] w (ToldSays ks X p w) := by
  have K : Hid (Kl w vk ks ∧ ∀ k ∈ ks, k.b.size ≤ 9223372036854775807) := ⟨hk, hb⟩
  have H : Hid (Wl w vw X) := hw
  obtain ⟨p1, q1, p2, q2, p3, q3, p4, q4, p5, q5, rfl⟩ := wl_shape9 hw
  obtain ⟨pk, qk, rfl, -⟩ := hk
  have B0 : Hid (Below w.heap.size w (w.alloc (Obj.cells #[.int .i64 X.turn, .int .i64 X.next, .int .i64 X.wide, .int .i64 X.high, .slice p1 X.gs.length q1, .slice p2 X.os.length q2, .slice p3 X.gold.length q3, .slice p4 X.us.length q4, .slice p5 X.qs.length q5] 29))) := (Below.refl _ _).alloc (Nat.le_refl _) _
  obtain ⟨z, hz⟩ : ∃ z, w.heap.size = z := ⟨_, rfl⟩
  have X0 : Hid (Bw (w.alloc (Obj.cells #[.int .i64 X.turn, .int .i64 X.next, .int .i64 X.wide, .int .i64 X.high, .slice p1 X.gs.length q1, .slice p2 X.os.length q2, .slice p3 X.gold.length q3, .slice p4 X.us.length q4, .slice p5 X.qs.length q5] 29)) z X (.slice p1 X.gs.length q1) (.slice p2 X.os.length q2) (.slice p3 X.gold.length q3) (.slice p4 X.us.length q4) (.slice p5 X.qs.length q5)) := Bw.mk' X _ _ _ _ _ hz
  have c1 : (w.alloc (Obj.cells #[.int .i64 X.turn, .int .i64 X.next, .int .i64 X.wide, .int .i64 X.high, .slice p1 X.gs.length q1, .slice p2 X.os.length q2, .slice p3 X.gold.length q3, .slice p4 X.us.length q4, .slice p5 X.qs.length q5] 29)).cell? ⟨kb, 0, none⟩ = some (.slice pk ks.length qk) := by rw [B0.out.cell (p := ⟨kb, 0, none⟩) (cell_lt ck)]; exact ck
  have c2 : (w.alloc (Obj.cells #[.int .i64 X.turn, .int .i64 X.next, .int .i64 X.wide, .int .i64 X.high, .slice p1 X.gs.length q1, .slice p2 X.os.length q2, .slice p3 X.gold.length q3, .slice p4 X.us.length q4, .slice p5 X.qs.length q5] 29)).cell? ⟨pb, 0, none⟩ = some (.int .i64 p) := by rw [B0.out.cell (p := ⟨pb, 0, none⟩) (cell_lt cp)]; exact cp
  clear hb hw ck cp
  go_enter Tryz.func50, Tryz.ntmps50
  go_upto_region 1 with fail
  (try rw [hz])
  clear hz
  generalize (w.alloc (Obj.cells #[.int .i64 X.turn, .int .i64 X.next, .int .i64 X.wide, .int .i64 X.high, .slice p1 X.gs.length q1, .slice p2 X.os.length q2, .slice p3 X.gold.length q3, .slice p4 X.us.length q4, .slice p5 X.qs.length q5] 29)) = w0 at *
  obtain ⟨x0, x1, x2, x3, x4, x5, x6, x7, x8⟩ := X0.out
  go_wp2_with fail
  refine (View_any _ _ ks X p w0 (K.out.1.below B0.out) K.out.2 (H.out.below B0.out)).mono ?_
  rintro e w1 ⟨v, r, rfl, hr, hs, b1⟩
  have ER : Hid (Er r (pfault ks X p)) := hr
  have B1 : Hid (Below w.heap.size w w1) := B0.out.trans (b1.mono B0.out.size)
  clear hr b1 c1 c2 x0 x1 x2 x3 x4 x5 x6 x7 x8 X0 B0
  rcases hs with ⟨hf, rfl⟩ | ⟨hf, Wn, hww, hwo⟩
  · have HF : Hid (pfault ks X p ≠ 0) := hf
    clear hf
    have BA : Hid (Below w1.heap.size w1 (w1.alloc (Obj.cells #[.int .i64 0, .int .i64 0, .int .i64 0, .int .i64 0, .slice none 0 0, .slice none 0 0, .slice none 0 0, .slice none 0 0, .slice none 0 0] 29))) := (Below.refl _ _).alloc (Nat.le_refl _) _
    obtain ⟨y, hy⟩ : ∃ z, w1.heap.size = z := ⟨_, rfl⟩
    have Y0 : Hid (Bw (w1.alloc (Obj.cells #[.int .i64 0, .int .i64 0, .int .i64 0, .int .i64 0, .slice none 0 0, .slice none 0 0, .slice none 0 0, .slice none 0 0, .slice none 0 0] 29)) y (⟨0, 0, 0, 0, [], [], [], [], []⟩ : WV) (.slice none 0 0) (.slice none 0 0) (.slice none 0 0) (.slice none 0 0) (.slice none 0 0)) := Bw.mk' (⟨0, 0, 0, 0, [], [], [], [], []⟩ : WV) _ _ _ _ _ hy
    go_upto_region 2 with fail
    (try rw [hy])
    clear hy
    generalize (w1.alloc (Obj.cells #[.int .i64 0, .int .i64 0, .int .i64 0, .int .i64 0, .slice none 0 0, .slice none 0 0, .slice none 0 0, .slice none 0 0, .slice none 0 0] 29)) = w2 at *
    have y0 : w2.cell? ⟨y, 0, none⟩ = some (.int .i64 0) := Y0.out.c0
    have y1 : w2.cell? ⟨y, 1, none⟩ = some (.int .i64 0) := Y0.out.c1
    have y2 : w2.cell? ⟨y, 2, none⟩ = some (.int .i64 0) := Y0.out.c2
    have y3 : w2.cell? ⟨y, 3, none⟩ = some (.int .i64 0) := Y0.out.c3
    obtain ⟨-, -, -, -, y4, y5, y6, y7, y8⟩ := Y0.out
    go_wp2_with fail
    refine (encode_any _ (⟨0, 0, 0, 0, [], [], [], [], []⟩ : WV) w2 (wl_zero w2) (wsmall_of wok_zero) wok_zero.in_).mono ?_
    rintro e w3 ⟨u, rfl, ho, b3⟩
    have FIN : Hid (By w3 u (Wd.enc (⟨0, 0, 0, 0, [], [], [], [], []⟩ : WV)) ∧ Below w.heap.size w w3) := ⟨Ob.by_ ho, (B1.out.trans (BA.out.mono B1.out.size)).trans (b3.mono (Nat.le_trans B1.out.size BA.out.size))⟩
    clear ho b3 y0 y1 y2 y3 y4 y5 y6 y7 y8
    go_wp2
    go_ret2
    exact ⟨_, _, rfl, ER.out, ⟨_, FIN.out.1, fun h => absurd h HF.out⟩, FIN.out.2⟩
  · have HF : Hid (pfault ks X p = 0 ∧ X.wide = (Wn : Nat)) := ⟨hf, hww⟩
    obtain ⟨V, hV⟩ : ∃ V, viewOf ks Wn X p = V := ⟨_, rfl⟩
    have HV : Hid (viewOf ks Wn X p = V) := hV
    rw [hV] at hwo
    have OKV : Hid (Wd.Wok V) := by have h := wok_view Wn hf; rw [hV] at h; exact h
    have LV : Hid (Wl w1 v V) := hwo.l
    obtain ⟨s1, l1, s2, l2, s3, l3, s4, l4, s5, l5, rfl⟩ := wl_shape9 hwo.l
    clear hf hww hV hwo
    have BA : Hid (Below w1.heap.size w1 (w1.alloc (Obj.cells #[.int .i64 V.turn, .int .i64 V.next, .int .i64 V.wide, .int .i64 V.high, .slice s1 V.gs.length l1, .slice s2 V.os.length l2, .slice s3 V.gold.length l3, .slice s4 V.us.length l4, .slice s5 V.qs.length l5] 29))) := (Below.refl _ _).alloc (Nat.le_refl _) _
    obtain ⟨y, hy⟩ : ∃ z, w1.heap.size = z := ⟨_, rfl⟩
    have Y0 : Hid (Bw (w1.alloc (Obj.cells #[.int .i64 V.turn, .int .i64 V.next, .int .i64 V.wide, .int .i64 V.high, .slice s1 V.gs.length l1, .slice s2 V.os.length l2, .slice s3 V.gold.length l3, .slice s4 V.us.length l4, .slice s5 V.qs.length l5] 29)) y V (.slice s1 V.gs.length l1) (.slice s2 V.os.length l2) (.slice s3 V.gold.length l3) (.slice s4 V.us.length l4) (.slice s5 V.qs.length l5)) := Bw.mk' V _ _ _ _ _ hy
    go_upto_region 2 with fail
    (try rw [hy])
    clear hy
    generalize (w1.alloc (Obj.cells #[.int .i64 V.turn, .int .i64 V.next, .int .i64 V.wide, .int .i64 V.high, .slice s1 V.gs.length l1, .slice s2 V.os.length l2, .slice s3 V.gold.length l3, .slice s4 V.us.length l4, .slice s5 V.qs.length l5] 29)) = w2 at *
    obtain ⟨y0, y1, y2, y3, y4, y5, y6, y7, y8⟩ := Y0.out
    go_wp2_with fail
    refine (encode_any _ V w2 (LV.out.below BA.out) (wsmall_of OKV.out) OKV.out.in_).mono ?_
    rintro e w3 ⟨u, rfl, ho, b3⟩
    have FIN : Hid (By w3 u (Wd.enc V) ∧ Below w.heap.size w w3) := ⟨Ob.by_ ho, (B1.out.trans (BA.out.mono B1.out.size)).trans (b3.mono (Nat.le_trans B1.out.size BA.out.size))⟩
    clear ho b3 y0 y1 y2 y3 y4 y5 y6 y7 y8
    go_wp2
    go_ret2
    exact ⟨_, _, rfl, ER.out, ⟨_, FIN.out.1, fun _ => ⟨Wn, HF.out.2, by rw [HV.out]⟩⟩, FIN.out.2⟩
/-- what News says. -/
def NewsSays (ks : List KV) (A B : WV) (p : Int) (w w' : World) (v r : Value) : Prop :=
  (pfault ks A p ≠ 0 ∧ v = .slice none 0 0 ∧ Er r (pfault ks A p)) ∨ (pfault ks A p = 0 ∧ pfault ks B p ≠ 0 ∧ v = .slice none 0 0 ∧ Er r (pfault ks B p)) ∨
  (pfault ks A p = 0 ∧ pfault ks B p = 0 ∧ ∃ Wa Wb : Nat, A.wide = (Wa : Nat) ∧ B.wide = (Wb : Nat) ∧ DiffSays (Wd.enc (viewOf ks Wa A p)) (Wd.enc (viewOf ks Wb B p)) w w' v r)
set_option maxRecDepth 100000 in
set_option maxHeartbeats 16000000 in
theorem News_any (vk va vb : Value) (ks : List KV) (A B : WV) (p : Int) (w : World) (hk : Kl w vk ks) (hb : ∀ k ∈ ks, k.b.size ≤ 9223372036854775807) (ha : Wl w va A) (hbw : Wl w vb B) :
    Calls Tryz.prog 11 #[vk, va, vb, .int .i64 p] w fun e w' => ∃ v r, e = .returned (.tuple #[v, r]) ∧ NewsSays ks A B p w w' v r ∧ Below w.heap.size w w' := by
  have K : Hid (Kl w vk ks ∧ ∀ k ∈ ks, k.b.size ≤ 9223372036854775807) := ⟨hk, hb⟩
  have HA : Hid (Wl w va A) := ha
  have HB : Hid (Wl w vb B) := hbw
  obtain ⟨p1, q1, p2, q2, p3, q3, p4, q4, p5, q5, rfl⟩ := wl_shape9 ha
  obtain ⟨s1, t1, s2, t2, s3, t3, s4, t4, s5, t5, rfl⟩ := wl_shape9 hbw
  obtain ⟨pk, qk, rfl, -⟩ := hk
  clear hb ha hbw
  have b1 : Below w.heap.size w (w.alloc (Obj.cells #[.slice pk ks.length qk] 22)) := (Below.refl _ _).alloc (Nat.le_refl _) _
  have b2 : Below (w.alloc (Obj.cells #[.slice pk ks.length qk] 22)).heap.size (w.alloc (Obj.cells #[.slice pk ks.length qk] 22)) ((w.alloc (Obj.cells #[.slice pk ks.length qk] 22)).alloc (Obj.cells #[.int .i64 A.turn, .int .i64 A.next, .int .i64 A.wide, .int .i64 A.high, .slice p1 A.gs.length q1, .slice p2 A.os.length q2, .slice p3 A.gold.length q3, .slice p4 A.us.length q4, .slice p5 A.qs.length q5] 29)) := (Below.refl _ _).alloc (Nat.le_refl _) _
  have b3 : Below ((w.alloc (Obj.cells #[.slice pk ks.length qk] 22)).alloc (Obj.cells #[.int .i64 A.turn, .int .i64 A.next, .int .i64 A.wide, .int .i64 A.high, .slice p1 A.gs.length q1, .slice p2 A.os.length q2, .slice p3 A.gold.length q3, .slice p4 A.us.length q4, .slice p5 A.qs.length q5] 29)).heap.size ((w.alloc (Obj.cells #[.slice pk ks.length qk] 22)).alloc (Obj.cells #[.int .i64 A.turn, .int .i64 A.next, .int .i64 A.wide, .int .i64 A.high, .slice p1 A.gs.length q1, .slice p2 A.os.length q2, .slice p3 A.gold.length q3, .slice p4 A.us.length q4, .slice p5 A.qs.length q5] 29)) (((w.alloc (Obj.cells #[.slice pk ks.length qk] 22)).alloc (Obj.cells #[.int .i64 A.turn, .int .i64 A.next, .int .i64 A.wide, .int .i64 A.high, .slice p1 A.gs.length q1, .slice p2 A.os.length q2, .slice p3 A.gold.length q3, .slice p4 A.us.length q4, .slice p5 A.qs.length q5] 29)).alloc (Obj.cells #[.int .i64 B.turn, .int .i64 B.next, .int .i64 B.wide, .int .i64 B.high, .slice s1 B.gs.length t1, .slice s2 B.os.length t2, .slice s3 B.gold.length t3, .slice s4 B.us.length t4, .slice s5 B.qs.length t5] 29)) := (Below.refl _ _).alloc (Nat.le_refl _) _
  have b4 : Below (((w.alloc (Obj.cells #[.slice pk ks.length qk] 22)).alloc (Obj.cells #[.int .i64 A.turn, .int .i64 A.next, .int .i64 A.wide, .int .i64 A.high, .slice p1 A.gs.length q1, .slice p2 A.os.length q2, .slice p3 A.gold.length q3, .slice p4 A.us.length q4, .slice p5 A.qs.length q5] 29)).alloc (Obj.cells #[.int .i64 B.turn, .int .i64 B.next, .int .i64 B.wide, .int .i64 B.high, .slice s1 B.gs.length t1, .slice s2 B.os.length t2, .slice s3 B.gold.length t3, .slice s4 B.us.length t4, .slice s5 B.qs.length t5] 29)).heap.size (((w.alloc (Obj.cells #[.slice pk ks.length qk] 22)).alloc (Obj.cells #[.int .i64 A.turn, .int .i64 A.next, .int .i64 A.wide, .int .i64 A.high, .slice p1 A.gs.length q1, .slice p2 A.os.length q2, .slice p3 A.gold.length q3, .slice p4 A.us.length q4, .slice p5 A.qs.length q5] 29)).alloc (Obj.cells #[.int .i64 B.turn, .int .i64 B.next, .int .i64 B.wide, .int .i64 B.high, .slice s1 B.gs.length t1, .slice s2 B.os.length t2, .slice s3 B.gold.length t3, .slice s4 B.us.length t4, .slice s5 B.qs.length t5] 29)) ((((w.alloc (Obj.cells #[.slice pk ks.length qk] 22)).alloc (Obj.cells #[.int .i64 A.turn, .int .i64 A.next, .int .i64 A.wide, .int .i64 A.high, .slice p1 A.gs.length q1, .slice p2 A.os.length q2, .slice p3 A.gold.length q3, .slice p4 A.us.length q4, .slice p5 A.qs.length q5] 29)).alloc (Obj.cells #[.int .i64 B.turn, .int .i64 B.next, .int .i64 B.wide, .int .i64 B.high, .slice s1 B.gs.length t1, .slice s2 B.os.length t2, .slice s3 B.gold.length t3, .slice s4 B.us.length t4, .slice s5 B.qs.length t5] 29)).alloc (Obj.cells #[.int .i64 p] 3)) := (Below.refl _ _).alloc (Nat.le_refl _) _
  obtain ⟨z, hz⟩ : ∃ z, w.heap.size = z := ⟨_, rfl⟩
  have e1 : (w.alloc (Obj.cells #[.slice pk ks.length qk] 22)).heap.size = z + 1 := by simp [hz]
  have e2 : ((w.alloc (Obj.cells #[.slice pk ks.length qk] 22)).alloc (Obj.cells #[.int .i64 A.turn, .int .i64 A.next, .int .i64 A.wide, .int .i64 A.high, .slice p1 A.gs.length q1, .slice p2 A.os.length q2, .slice p3 A.gold.length q3, .slice p4 A.us.length q4, .slice p5 A.qs.length q5] 29)).heap.size = z + 2 := by simp [hz]
  have e3 : (((w.alloc (Obj.cells #[.slice pk ks.length qk] 22)).alloc (Obj.cells #[.int .i64 A.turn, .int .i64 A.next, .int .i64 A.wide, .int .i64 A.high, .slice p1 A.gs.length q1, .slice p2 A.os.length q2, .slice p3 A.gold.length q3, .slice p4 A.us.length q4, .slice p5 A.qs.length q5] 29)).alloc (Obj.cells #[.int .i64 B.turn, .int .i64 B.next, .int .i64 B.wide, .int .i64 B.high, .slice s1 B.gs.length t1, .slice s2 B.os.length t2, .slice s3 B.gold.length t3, .slice s4 B.us.length t4, .slice s5 B.qs.length t5] 29)).heap.size = z + 3 := by simp [hz]
  have c1 : (w.alloc (Obj.cells #[.slice pk ks.length qk] 22)).cell? ⟨z, 0, none⟩ = some (.slice pk ks.length qk) := by rw [← hz]; simp only [World.cell?, heap_alloc_new]; rfl
  have c4 : ((((w.alloc (Obj.cells #[.slice pk ks.length qk] 22)).alloc (Obj.cells #[.int .i64 A.turn, .int .i64 A.next, .int .i64 A.wide, .int .i64 A.high, .slice p1 A.gs.length q1, .slice p2 A.os.length q2, .slice p3 A.gold.length q3, .slice p4 A.us.length q4, .slice p5 A.qs.length q5] 29)).alloc (Obj.cells #[.int .i64 B.turn, .int .i64 B.next, .int .i64 B.wide, .int .i64 B.high, .slice s1 B.gs.length t1, .slice s2 B.os.length t2, .slice s3 B.gold.length t3, .slice s4 B.us.length t4, .slice s5 B.qs.length t5] 29)).alloc (Obj.cells #[.int .i64 p] 3)).cell? ⟨z + 3, 0, none⟩ = some (.int .i64 p) := by rw [← e3]; simp only [World.cell?, heap_alloc_new]; rfl
  have a2 : Bw ((w.alloc (Obj.cells #[.slice pk ks.length qk] 22)).alloc (Obj.cells #[.int .i64 A.turn, .int .i64 A.next, .int .i64 A.wide, .int .i64 A.high, .slice p1 A.gs.length q1, .slice p2 A.os.length q2, .slice p3 A.gold.length q3, .slice p4 A.us.length q4, .slice p5 A.qs.length q5] 29)) (z + 1) A (.slice p1 A.gs.length q1) (.slice p2 A.os.length q2) (.slice p3 A.gold.length q3) (.slice p4 A.us.length q4) (.slice p5 A.qs.length q5) := Bw.mk' A _ _ _ _ _ e1
  have a3 : Bw (((w.alloc (Obj.cells #[.slice pk ks.length qk] 22)).alloc (Obj.cells #[.int .i64 A.turn, .int .i64 A.next, .int .i64 A.wide, .int .i64 A.high, .slice p1 A.gs.length q1, .slice p2 A.os.length q2, .slice p3 A.gold.length q3, .slice p4 A.us.length q4, .slice p5 A.qs.length q5] 29)).alloc (Obj.cells #[.int .i64 B.turn, .int .i64 B.next, .int .i64 B.wide, .int .i64 B.high, .slice s1 B.gs.length t1, .slice s2 B.os.length t2, .slice s3 B.gold.length t3, .slice s4 B.us.length t4, .slice s5 B.qs.length t5] 29)) (z + 2) B (.slice s1 B.gs.length t1) (.slice s2 B.os.length t2) (.slice s3 B.gold.length t3) (.slice s4 B.us.length t4) (.slice s5 B.qs.length t5) := Bw.mk' B _ _ _ _ _ e2
  have FR : Hid (((((w.alloc (Obj.cells #[.slice pk ks.length qk] 22)).alloc (Obj.cells #[.int .i64 A.turn, .int .i64 A.next, .int .i64 A.wide, .int .i64 A.high, .slice p1 A.gs.length q1, .slice p2 A.os.length q2, .slice p3 A.gold.length q3, .slice p4 A.us.length q4, .slice p5 A.qs.length q5] 29)).alloc (Obj.cells #[.int .i64 B.turn, .int .i64 B.next, .int .i64 B.wide, .int .i64 B.high, .slice s1 B.gs.length t1, .slice s2 B.os.length t2, .slice s3 B.gold.length t3, .slice s4 B.us.length t4, .slice s5 B.qs.length t5] 29)).alloc (Obj.cells #[.int .i64 p] 3)).cell? ⟨z, 0, none⟩ = some (.slice pk ks.length qk) ∧ ((((w.alloc (Obj.cells #[.slice pk ks.length qk] 22)).alloc (Obj.cells #[.int .i64 A.turn, .int .i64 A.next, .int .i64 A.wide, .int .i64 A.high, .slice p1 A.gs.length q1, .slice p2 A.os.length q2, .slice p3 A.gold.length q3, .slice p4 A.us.length q4, .slice p5 A.qs.length q5] 29)).alloc (Obj.cells #[.int .i64 B.turn, .int .i64 B.next, .int .i64 B.wide, .int .i64 B.high, .slice s1 B.gs.length t1, .slice s2 B.os.length t2, .slice s3 B.gold.length t3, .slice s4 B.us.length t4, .slice s5 B.qs.length t5] 29)).alloc (Obj.cells #[.int .i64 p] 3)).cell? ⟨z + 3, 0, none⟩ = some (.int .i64 p) ∧ Bw ((((w.alloc (Obj.cells #[.slice pk ks.length qk] 22)).alloc (Obj.cells #[.int .i64 A.turn, .int .i64 A.next, .int .i64 A.wide, .int .i64 A.high, .slice p1 A.gs.length q1, .slice p2 A.os.length q2, .slice p3 A.gold.length q3, .slice p4 A.us.length q4, .slice p5 A.qs.length q5] 29)).alloc (Obj.cells #[.int .i64 B.turn, .int .i64 B.next, .int .i64 B.wide, .int .i64 B.high, .slice s1 B.gs.length t1, .slice s2 B.os.length t2, .slice s3 B.gold.length t3, .slice s4 B.us.length t4, .slice s5 B.qs.length t5] 29)).alloc (Obj.cells #[.int .i64 p] 3)) (z + 1) A (.slice p1 A.gs.length q1) (.slice p2 A.os.length q2) (.slice p3 A.gold.length q3) (.slice p4 A.us.length q4) (.slice p5 A.qs.length q5) ∧ Bw ((((w.alloc (Obj.cells #[.slice pk ks.length qk] 22)).alloc (Obj.cells #[.int .i64 A.turn, .int .i64 A.next, .int .i64 A.wide, .int .i64 A.high, .slice p1 A.gs.length q1, .slice p2 A.os.length q2, .slice p3 A.gold.length q3, .slice p4 A.us.length q4, .slice p5 A.qs.length q5] 29)).alloc (Obj.cells #[.int .i64 B.turn, .int .i64 B.next, .int .i64 B.wide, .int .i64 B.high, .slice s1 B.gs.length t1, .slice s2 B.os.length t2, .slice s3 B.gold.length t3, .slice s4 B.us.length t4, .slice s5 B.qs.length t5] 29)).alloc (Obj.cells #[.int .i64 p] 3)) (z + 2) B (.slice s1 B.gs.length t1) (.slice s2 B.os.length t2) (.slice s3 B.gold.length t3) (.slice s4 B.us.length t4) (.slice s5 B.qs.length t5) ∧ Below w.heap.size w ((((w.alloc (Obj.cells #[.slice pk ks.length qk] 22)).alloc (Obj.cells #[.int .i64 A.turn, .int .i64 A.next, .int .i64 A.wide, .int .i64 A.high, .slice p1 A.gs.length q1, .slice p2 A.os.length q2, .slice p3 A.gold.length q3, .slice p4 A.us.length q4, .slice p5 A.qs.length q5] 29)).alloc (Obj.cells #[.int .i64 B.turn, .int .i64 B.next, .int .i64 B.wide, .int .i64 B.high, .slice s1 B.gs.length t1, .slice s2 B.os.length t2, .slice s3 B.gold.length t3, .slice s4 B.us.length t4, .slice s5 B.qs.length t5] 29)).alloc (Obj.cells #[.int .i64 p] 3))) := by
    refine ⟨?_, c4, (a2.below b3 a2.lt).below b4 (by have := a2.lt; have := b3.size; omega), a3.below b4 a3.lt, ((b1.trans (b2.mono (by omega))).trans (b3.mono (by omega))).trans (b4.mono (by omega))⟩
    rw [b4.cell (p := ⟨z, 0, none⟩) (by show z < _; omega), b3.cell (p := ⟨z, 0, none⟩) (by show z < _; omega), b2.cell (p := ⟨z, 0, none⟩) (by show z < _; omega)]
    exact c1
  clear b1 b2 b3 b4 e1 e2 e3 c1 c4 a2 a3
  go_enter Tryz.func11, Tryz.ntmps11
  go_upto_region 1 with fail
  (try rw [hz])
  clear hz
  generalize ((((w.alloc (Obj.cells #[.slice pk ks.length qk] 22)).alloc (Obj.cells #[.int .i64 A.turn, .int .i64 A.next, .int .i64 A.wide, .int .i64 A.high, .slice p1 A.gs.length q1, .slice p2 A.os.length q2, .slice p3 A.gold.length q3, .slice p4 A.us.length q4, .slice p5 A.qs.length q5] 29)).alloc (Obj.cells #[.int .i64 B.turn, .int .i64 B.next, .int .i64 B.wide, .int .i64 B.high, .slice s1 B.gs.length t1, .slice s2 B.os.length t2, .slice s3 B.gold.length t3, .slice s4 B.us.length t4, .slice s5 B.qs.length t5] 29)).alloc (Obj.cells #[.int .i64 p] 3)) = w0 at *
  obtain ⟨x0, x1, x2, x3, x4, x5, x6, x7, x8⟩ := FR.out.2.2.1
  go_wp2_with fail
  refine (told_any z (z + 3) _ _ ks A p w0 (K.out.1.below FR.out.2.2.2.2) K.out.2 (HA.out.below FR.out.2.2.2.2) FR.out.1 FR.out.2.1).mono ?_
  rintro e w1 ⟨u1, r1, rfl, hr, ⟨la, hla, hfa⟩, hb1⟩
  have B1 : Hid (Below w.heap.size w w1) := FR.out.2.2.2.2.trans (hb1.mono FR.out.2.2.2.2.size)
  have F1 : Hid (w1.cell? ⟨z, 0, none⟩ = some (.slice pk ks.length qk) ∧ w1.cell? ⟨z + 3, 0, none⟩ = some (.int .i64 p) ∧ Bw w1 (z + 2) B (.slice s1 B.gs.length t1) (.slice s2 B.os.length t2) (.slice s3 B.gold.length t3) (.slice s4 B.us.length t4) (.slice s5 B.qs.length t5)) := ⟨by rw [hb1.cell (p := ⟨z, 0, none⟩) (cell_lt FR.out.1)]; exact FR.out.1, by rw [hb1.cell (p := ⟨z + 3, 0, none⟩) (cell_lt FR.out.2.1)]; exact FR.out.2.1, FR.out.2.2.2.1.below hb1 FR.out.2.2.2.1.lt⟩
  have LA : Hid (By w1 u1 la ∧ (pfault ks A p = 0 → ∃ Wn : Nat, A.wide = (Wn : Nat) ∧ la = Wd.enc (viewOf ks Wn A p))) := ⟨hla, hfa⟩
  obtain ⟨ua, na, rfl, -⟩ := hla
  clear hb1 hfa x0 x1 x2 x3 x4 x5 x6 x7 x8 FR
  rcases hr with ⟨hf, rfl⟩ | ⟨hf, rfl⟩
  case inr =>
    have HF : Hid (pfault ks A p ≠ 0) := hf
    obtain ⟨fa, hfa⟩ : ∃ f, pfault ks A p = f := ⟨_, rfl⟩
    have FA : Hid (pfault ks A p = fa ∧ fa ≠ 0) := ⟨hfa, by rw [← hfa]; exact hf⟩
    rw [hfa]
    clear hf hfa
    go_wp2
    go_ret2
    exact ⟨_, _, rfl, .inl ⟨HF.out, rfl, by rw [FA.out.1]; exact Er.no FA.out.2⟩, B1.out⟩
  have HF : Hid (pfault ks A p = 0) := hf
  clear hf
  obtain ⟨x0, x1, x2, x3, x4, x5, x6, x7, x8⟩ := F1.out.2.2
  go_wp2_with fail
  refine (told_any z (z + 3) _ _ ks B p w1 (K.out.1.below B1.out) K.out.2 (HB.out.below B1.out) F1.out.1 F1.out.2.1).mono ?_
  rintro e w2 ⟨u2, r2, rfl, hr, ⟨lb, hlb, hfb⟩, hb2⟩
  have B2 : Hid (Below w.heap.size w w2) := B1.out.trans (hb2.mono B1.out.size)
  have LB : Hid (By w2 u2 lb ∧ (pfault ks B p = 0 → ∃ Wn : Nat, B.wide = (Wn : Nat) ∧ lb = Wd.enc (viewOf ks Wn B p))) := ⟨hlb, hfb⟩
  have LA2 : Hid (By w2 (.slice ua la.length na) la) := LA.out.1.below hb2
  obtain ⟨ub, nb, rfl, -⟩ := hlb
  clear hb2 hfb x0 x1 x2 x3 x4 x5 x6 x7 x8 F1
  rcases hr with ⟨hf, rfl⟩ | ⟨hf, rfl⟩
  case inr =>
    have HG : Hid (pfault ks B p ≠ 0) := hf
    obtain ⟨fb, hfb⟩ : ∃ f, pfault ks B p = f := ⟨_, rfl⟩
    have FB : Hid (pfault ks B p = fb ∧ fb ≠ 0) := ⟨hfb, by rw [← hfb]; exact hf⟩
    rw [hfb]
    clear hf hfb
    go_wp2
    go_ret2
    exact ⟨_, _, rfl, .inr (.inl ⟨HF.out, HG.out, rfl, by rw [FB.out.1]; exact Er.no FB.out.2⟩), B2.out⟩
  have HG : Hid (pfault ks B p = 0) := hf
  clear hf
  go_wp2_with fail
  refine (Diff_any _ _ la lb w2 LA2.out LB.out.1).mono ?_
  rintro e w3 ⟨v3, r3, rfl, hs, hb3⟩
  have FIN : Hid (NewsSays ks A B p w w3 v3 r3 ∧ Below w.heap.size w w3) := by
    obtain ⟨Wa, ea, rfl⟩ := LA.out.2 HF.out
    obtain ⟨Wb, eb, rfl⟩ := LB.out.2 HG.out
    refine ⟨.inr (.inr ⟨HF.out, HG.out, Wa, Wb, ea, eb, ?_⟩), B2.out.trans (hb3.mono B2.out.size)⟩
    rcases hs with h | ⟨h1, h2, h3, h4⟩
    · exact .inl h
    · exact .inr ⟨h1, h2, h3, h4.mono B2.out.size⟩
  clear hs hb3
  go_wp2
  go_ret2
  exact ⟨_, _, rfl, FIN.out.1, FIN.out.2⟩
end Go.Proofs.YtoabhfipikkkeaaGreatDoor

namespace Go.Proofs.YtoabhfipikkkeaaGreatDoor
set_option linter.unusedVariables false
namespace Fe

/-- a change that can be none. -/
def Bad (c : ChV) : Prop := ¬ (0 ≤ c.at_ ∧ c.at_ ≤ 5999) ∨ ¬ (-1 ≤ c.old ∧ c.old ≤ 255) ∨ ¬ (-1 ≤ c.new ∧ c.new ≤ 255) ∨ c.old = c.new
instance : DecidablePred Bad := fun c => by unfold Bad; exact inferInstance
/-- what is wrong with changes, behind a place p. -/
def cfault (ok : ChV → Bool) : Int → List ChV → Int
  | _, [] => 0
  | p, c :: cs => if Bad c then 1 else if c.at_ ≤ p then 5 else if ok c = true then cfault ok c.at_ cs else 7
def Fine (ok : ChV → Bool) : Int → List ChV → Prop
  | _, [] => True
  | p, c :: cs => ¬ Bad c ∧ p < c.at_ ∧ ok c = true ∧ Fine ok c.at_ cs
theorem fine_zero {ok : ChV → Bool} : ∀ {l : List ChV} {p : Int}, cfault ok p l = 0 ↔ Fine ok p l
  | [], p => by simp [cfault, Fine]
  | c :: cs, p => by
    unfold cfault Fine
    by_cases h1 : Bad c
    · simp [h1]
    · by_cases h2 : c.at_ ≤ p
      · simp [h1, h2]; omega
      · by_cases h3 : ok c = true
        · simp only [h1, h2, h3, if_false, if_true, not_false_eq_true, true_and, fine_zero (l := cs)]
          exact ⟨fun h => ⟨by omega, h⟩, fun h => h.2⟩
        · simp [h1, h2, h3]
theorem fine_snoc {ok : ChV → Bool} {c : ChV} : ∀ {l : List ChV} {p : Int}, Fine ok p l → (∀ x ∈ l, x.at_ < c.at_) → p < c.at_ → ¬ Bad c → ok c = true → Fine ok p (l ++ [c])
  | [], p, _, _, h3, h4, h5 => ⟨h4, h3, h5, trivial⟩
  | x :: l, p, h1, h2, h3, h4, h5 => ⟨h1.1, h1.2.1, h1.2.2.1, fine_snoc h1.2.2.2 (fun y hy => h2 y (by simp [hy])) (h2 x (by simp)) h4 h5⟩
theorem fine_mem {ok : ChV → Bool} : ∀ {l : List ChV} {p : Int}, Fine ok p l → ∀ c ∈ l, ¬ Bad c
  | [], _, _, c, hc => by simp at hc
  | x :: l, p, h, c, hc => by
    rcases List.mem_cons.1 hc with rfl | hc
    · exact h.1
    · exact fine_mem h.2.2.2 c hc
theorem fine_any {ok : ChV → Bool} : ∀ {l : List ChV} {p : Int}, Fine ok p l → Fine (fun _ => true) p l
  | [], _, _ => trivial
  | x :: l, p, h => ⟨h.1, h.2.1, rfl, fine_any h.2.2.2⟩
/-- is it there? -/
def isThere (a : List UInt8) (c : ChV) : Bool := bat a c.at_.toNat == c.old
theorem dif_at {a b : List UInt8} : ∀ {n : Nat}, ∀ c ∈ dif a b n, 0 ≤ c.at_ ∧ c.at_ < (n : Int)
  | 0, c, h => by simp [dif] at h
  | n + 1, c, h => by
    unfold dif one at h
    rcases List.mem_append.1 h with h | h
    · have := dif_at c h
      omega
    · split at h
      · simp at h
      · simp at h
        subst h
        simp
        omega
theorem dif_fine {a b : List UInt8} : ∀ {n : Nat}, n ≤ 6000 → Fine (isThere a) (-1) (dif a b n)
  | 0, _ => trivial
  | n + 1, hn => by
    by_cases h : bat a n = bat b n
    · rw [dif_same h]; exact dif_fine (by omega)
    · rw [dif_more h]
      refine fine_snoc (dif_fine (by omega)) (fun x hx => (dif_at x hx).2) (by simp; omega) ?_ (by simp [isThere])
      have h1 := bat_bounds a n
      have h2 := bat_bounds b n
      unfold Bad
      simp only
      omega
/-- turned round. -/
def swap (c : ChV) : ChV := ⟨c.at_, c.new, c.old⟩
theorem dif_swap {a b : List UInt8} : ∀ {n : Nat}, (dif a b n).map swap = dif b a n
  | 0 => rfl
  | n + 1 => by
    by_cases h : bat a n = bat b n
    · rw [dif_same h, dif_same h.symm, dif_swap]
    · rw [dif_more h, dif_more (fun e => h e.symm), List.map_append, dif_swap]
      rfl
theorem diff_swap (a b : List UInt8) : (diff a b).map swap = diff b a := by
  unfold diff
  rw [dif_swap, Nat.max_comm]
theorem dif_none (a : List UInt8) : ∀ n, dif a a n = []
  | 0 => rfl
  | n + 1 => by rw [dif_same rfl, dif_none a n]
theorem diff_fine {a b : List UInt8} (ha : a.length ≤ 6000) (hb : b.length ≤ 6000) : Fine (isThere a) (-1) (diff a b) := dif_fine (by omega)

/-- all places of a text. -/
def pl (a : List UInt8) (N : Nat) : List Int := (List.range N).map (bat a)
theorem pl_len (a : List UInt8) (N : Nat) : (pl a N).length = N := by simp [pl]
theorem pl_get {a : List UInt8} {N i : Nat} (h : i < N) : (pl a N)[i]? = some (bat a i) := by simp [pl, h]
def puts (ps : List Int) (l : List ChV) : List Int := l.foldl (fun q c => q.set c.at_.toNat c.new) ps
theorem puts_len : ∀ (l : List ChV) (ps : List Int), (puts ps l).length = ps.length
  | [], ps => rfl
  | c :: l, ps => by
    show (puts (ps.set c.at_.toNat c.new) l).length = _
    rw [puts_len l, List.length_set]
theorem puts_snoc (ps : List Int) (l : List ChV) (c : ChV) : puts ps (l ++ [c]) = (puts ps l).set c.at_.toNat c.new := by simp [puts, List.foldl_append]
/-- the bytes of places, without a gap. -/
def col : List Int → Nat → List UInt8 → Option (List UInt8)
  | [], _, b => some b
  | n :: ps, i, b => if n = -1 then col ps (i + 1) b else if b.length < i then none else col ps (i + 1) (b ++ [UInt8.ofNat n.toNat])
/-- all places, the first n of the second text. -/
def mix (a b : List UInt8) (N n : Nat) : List Int := (List.range N).map (fun i => if i < n then bat b i else bat a i)
theorem mix_get {a b : List UInt8} {N n i : Nat} (h : i < N) : (mix a b N n)[i]? = some (if i < n then bat b i else bat a i) := by simp [mix, h]
theorem mix_none {a b : List UInt8} {N n i : Nat} (h : N ≤ i) : (mix a b N n)[i]? = none := by
  apply List.getElem?_eq_none
  simp [mix, h]
theorem puts_mix {a b : List UInt8} {N : Nat} : ∀ {n : Nat}, n ≤ N → puts (pl a N) (dif a b n) = mix a b N n
  | 0, _ => by simp [dif, puts, pl, mix]
  | n + 1, hn => by
    apply List.ext_getElem?
    intro i
    have ih := puts_mix (a := a) (b := b) (N := N) (n := n) (by omega)
    by_cases hi : i < N
    · rw [mix_get hi]
      by_cases h : bat a n = bat b n
      · rw [dif_same h, ih, mix_get hi]
        by_cases e : i = n
        · subst e; simp [h]
        · by_cases e2 : i < n
          · rw [if_pos e2, if_pos (by omega)]
          · rw [if_neg e2, if_neg (by omega)]
      · rw [dif_more h, puts_snoc, ih, List.getElem?_set]
        simp only [Int.toNat_natCast]
        by_cases e : n = i
        · subst e
          simp [mix, hi]
        · rw [if_neg e, mix_get hi]
          by_cases e2 : i < n
          · rw [if_pos e2, if_pos (by omega)]
          · rw [if_neg e2, if_neg (by omega)]
    · rw [mix_none (by omega)]
      apply List.getElem?_eq_none
      rw [puts_len, pl_len]
      omega
theorem puts_diff {a b : List UInt8} {N : Nat} (ha : a.length ≤ N) (hb : b.length ≤ N) : puts (pl a N) (diff a b) = pl b N := by
  unfold diff
  rw [puts_mix (by omega)]
  unfold mix pl
  apply List.map_congr_left
  intro i hi
  by_cases h : i < max a.length b.length
  · rw [if_pos h]
  · rw [if_neg h, bat_out (by omega), bat_out (by omega)]
theorem col_front {b : List UInt8} {N : Nat} (hb : b.length ≤ N) : ∀ {n : Nat}, n ≤ b.length → col (pl b N) 0 [] = col ((pl b N).drop n) n (b.take n)
  | 0, _ => by simp
  | n + 1, hn => by
    rw [col_front hb (n := n) (by omega)]
    have hd : b[n]? = some b[n] := List.getElem?_eq_getElem (by omega)
    have hp : n < (pl b N).length := by rw [pl_len]; omega
    rw [List.drop_eq_getElem_cons hp]
    have e : (pl b N)[n] = (b[n].toNat : Int) := by
      have := pl_get (a := b) (N := N) (i := n) (by omega)
      rw [List.getElem?_eq_getElem hp, bat_in hd] at this
      injection this
    rw [e, col, if_neg (by omega), if_neg (by rw [List.length_take]; omega), List.take_succ_eq_append_getElem (by omega)]
    simp
theorem col_back {b : List UInt8} {N : Nat} : ∀ (m n : Nat), N - n ≤ m → b.length ≤ n → col ((pl b N).drop n) n b = some b
  | 0, n, hm, hn => by rw [List.drop_eq_nil_of_le (by rw [pl_len]; omega)]; rfl
  | m + 1, n, hm, hn => by
    by_cases h : N ≤ n
    · rw [List.drop_eq_nil_of_le (by rw [pl_len]; omega)]; rfl
    · have hp : n < (pl b N).length := by rw [pl_len]; omega
      rw [List.drop_eq_getElem_cons hp]
      have e : (pl b N)[n] = -1 := by
        have := pl_get (a := b) (N := N) (i := n) (by omega)
        rw [List.getElem?_eq_getElem hp, bat_out hn] at this
        injection this
      rw [e, col, if_pos rfl]
      exact col_back m (n + 1) (by omega) (by omega)
theorem col_all {b : List UInt8} {N : Nat} (hb : b.length ≤ N) : col (pl b N) 0 [] = some b := by
  rw [col_front hb (n := b.length) (Nat.le_refl _), List.take_length]
  exact col_back _ _ (Nat.le_refl _) (Nat.le_refl _)
/-- what Apply tells: the fault, or the text. -/
def applied (a : List UInt8) (l : List ChV) (N : Nat) : Option (List UInt8) := col (puts (pl a N) l) 0 []
theorem applied_diff {a b : List UInt8} {N : Nat} (ha : a.length ≤ N) (hb : b.length ≤ N) : applied a (diff a b) N = some b := by
  unfold applied
  rw [puts_diff ha hb, col_all hb]

/-- the numbers of changes. -/
def chain : Int → List ChV → List Int
  | _, [] => []
  | p, c :: cs => (c.at_ - p) :: (c.old + 1) :: (c.new + 1) :: chain c.at_ cs
def nums (l : List ChV) : List Int := (l.length : Int) :: chain 0 l
def wrap (x : Int) : Int := IntKind.i64.wrap x
/-- n changes that are read, one behind the other. -/
def ptr (b : List UInt8) (a0 : Nat) : Nat → Option (List ChV × Int × Nat)
  | 0 => some ([], 0, a0)
  | n + 1 => match ptr b a0 n with
    | none => none
    | some (l, p, a) => match Wd.pnum b a with
      | none => none
      | some (x, a1) => match Wd.pnum b a1 with
        | none => none
        | some (y, a2) => match Wd.pnum b a2 with
          | none => none
          | some (z, a3) => some (l ++ [⟨wrap (p + x), wrap (y - 1), wrap (z - 1)⟩], wrap (p + x), a3)
theorem ptr_len {b : List UInt8} {a0 : Nat} : ∀ {n : Nat} {l : List ChV} {p : Int} {a : Nat}, ptr b a0 n = some (l, p, a) → l.length = n
  | 0, l, p, a, h => by
    simp only [ptr, Option.some.injEq, Prod.mk.injEq] at h
    obtain ⟨rfl, -⟩ := h
    rfl
  | n + 1, l, p, a, h => by
    unfold ptr at h
    split at h
    · cases h
    · rename_i l' p' a' hp
      split at h
      · cases h
      · split at h
        · cases h
        · split at h
          · cases h
          · injection h with h
            injection h with h1 h2
            subst h1
            rw [List.length_append, ptr_len hp]
            rfl
theorem ptr_none {b : List UInt8} {a0 n : Nat} (h : ptr b a0 n = none) : ∀ m, ptr b a0 (n + m) = none
  | 0 => h
  | m + 1 => by
    show ptr b a0 ((n + m) + 1) = none
    unfold ptr
    rw [ptr_none h m]
/-- the changes that bytes begin with, and how many bytes they are. -/
def unpack (b : List UInt8) : Option (List ChV × Nat) := match Wd.pnum b 0 with
  | none => none
  | some (m, a0) => if 0 ≤ m ∧ m ≤ 6000 then match ptr b a0 m.toNat with
    | none => none
    | some (l, _, a) => if cfault (fun _ => true) (-1) l = 0 then some (l, a) else none
    else none
end Fe
end Go.Proofs.YtoabhfipikkkeaaGreatDoor

namespace Go.Proofs.YtoabhfipikkkeaaGreatDoor
open Go.RowKit
set_option linter.unusedVariables false

set_option maxHeartbeats 400000 in
theorem fwin_any (x a b : Int) (w : World) :
    Calls Tryz.prog 56 #[.int .i64 x, .int .i64 a, .int .i64 b] w fun e w' => e = .returned (.bool (decide (a ≤ x ∧ x ≤ b))) ∧ w' = w := by
  by_cases h1 : a ≤ x
  · by_cases h2 : x ≤ b
    · go_enter Tryz.func56, Tryz.ntmps56
      go_wp2
      go_ret
      exact ⟨by simp [h1, h2], rfl⟩
    · go_enter Tryz.func56, Tryz.ntmps56
      go_wp2
      go_ret
      exact ⟨by simp; omega, rfl⟩
  · go_enter Tryz.func56, Tryz.ntmps56
    go_wp2
    go_ret
    exact ⟨by simp; omega, rfl⟩
theorem fwin_is (x a b : Int) (r : Bool) (h : decide (a ≤ x ∧ x ≤ b) = r) : Hid (∀ w, Calls Tryz.prog 56 #[.int .i64 x, .int .i64 a, .int .i64 b] w fun e w' => e = .returned (.bool r) ∧ w' = w) :=
  fun w => (fwin_any x a b w).mono fun e w' ⟨h', hw⟩ => ⟨by rw [h', h], hw⟩
set_option maxHeartbeats 400000 in
theorem anywhere_any (c : ChV) (w : World) : Calls Tryz.prog 53 #[c.val] w fun e w' => e = .returned (.bool true) ∧ Below w.heap.size w w' := by
  have B : Hid (Below w.heap.size w (w.alloc (Obj.cells #[.int .i64 c.at_, .int .i64 c.old, .int .i64 c.new] 107))) := (Below.refl _ _).alloc (Nat.le_refl _) _
  unfold ChV.val
  go_enter Tryz.func53, Tryz.ntmps53
  go_wp2
  go_ret
  exact ⟨rfl, B.out⟩
set_option maxRecDepth 20000 in
set_option maxHeartbeats 2000000 in
theorem isThere_any (v : Value) (a : List UInt8) (z : Nat) (c : ChV) (w : World) (h : By w v a) (hz : w.cell? ⟨z, 0, none⟩ = some v) (hc : ¬ Fe.Bad c) :
    Calls Tryz.prog 57 #[c.val, .pointer (some ⟨z, 0, none⟩)] w fun e w' => e = .returned (.bool (Fe.isThere a c)) ∧ Below w.heap.size w w' := by
  obtain ⟨p, o, n⟩ := c
  have hp : 0 ≤ p := by unfold Fe.Bad at hc; simp only at hc; omega
  obtain ⟨i, rfl⟩ : ∃ i : Nat, p = (i : Nat) := ⟨p.toNat, by omega⟩
  have B : Hid (Below w.heap.size w (w.alloc (Obj.cells #[.int .i64 (i : Nat), .int .i64 o, .int .i64 n] 107))) := (Below.refl _ _).alloc (Nat.le_refl _) _
  have BY : Hid (By w v a) := h
  have zl := cell_lt hz
  have cz : (w.alloc (Obj.cells #[.int .i64 (i : Nat), .int .i64 o, .int .i64 n] 107)).cell? ⟨z, 0, none⟩ = some v := by rw [B.out.cell zl]; exact hz
  obtain ⟨ad, cap, rfl, -, -, -⟩ := h
  clear hc hp hz zl
  unfold ChV.val
  simp only
  go_enter Tryz.func57, Tryz.ntmps57
  go_upto_region 1 with fail
  have y0 : (w.alloc (Obj.cells #[.int .i64 (i : Nat), .int .i64 o, .int .i64 n] 107)).cell? ⟨w.heap.size, 0, none⟩ = some (.int .i64 (i : Nat)) := by simp
  have y1 : (w.alloc (Obj.cells #[.int .i64 (i : Nat), .int .i64 o, .int .i64 n] 107)).cell? ⟨w.heap.size, 1, none⟩ = some (.int .i64 o) := by simp
  have BV : Hid (By (w.alloc (Obj.cells #[.int .i64 (i : Nat), .int .i64 o, .int .i64 n] 107)) (.slice ad a.length cap) a) := BY.out.below B.out
  generalize (w.alloc (Obj.cells #[.int .i64 (i : Nat), .int .i64 o, .int .i64 n] 107)) = w1 at *
  obtain ⟨x, hx⟩ : ∃ x, Fe.bat a i = x := ⟨_, rfl⟩
  have BT : Hid (∀ W, By W (.slice ad a.length cap) a → Calls Tryz.prog 58 #[.slice ad a.length cap, .int .i64 (i : Nat)] W fun e w' => e = .returned (.int .i64 x) ∧ w' = W) := fun W hW => by
    have := byteAt_any _ a i W hW
    rw [hx] at this
    exact this
  obtain ⟨r, hr⟩ : ∃ r, (x == o) = r := ⟨_, rfl⟩
  have HR : Hid (Fe.isThere a ⟨(i : Nat), o, n⟩ = r) := by
    unfold Hid Fe.isThere
    simp only [Int.toNat_natCast]
    rw [hx, hr]
  have BQ : Hid (∀ q, Below w.heap.size w (w1.drewN q)) := fun q => ⟨B.out.os, B.out.tape, B.out.output, B.out.size, B.out.block⟩
  clear hx
  go_quiet ((go_at_call 58; exact Calls.quiet_of_same (BT.out _ BV.out)))
  go_wp2
  go_ret
  exact ⟨by rw [HR.out]; rfl, BQ.out _⟩

/-- what check tells. -/
def chk (ok : ChV → Bool) (ks : List ChV) : Int := if 6000 < ks.length then 4 else Fe.cfault ok (-1) ks
set_option maxRecDepth 100000 in
set_option maxHeartbeats 8000000 in
theorem fcheck_any (K : Nat) (eK : ∀ args w, (callFunc K args).run Tryz.prog w = .ok (.enter K args) w) (u : Value) (cs : Array Value) (ks : List ChV) (ok : ChV → Bool) (w : World) (hu : Chl w u ks)
    (hp : ∀ W, Below w.heap.size w W → ∀ c, ¬ Fe.Bad c → Calls Tryz.prog K (#[c.val] ++ cs) W fun e w' => e = .returned (.bool (ok c)) ∧ Below W.heap.size W w') :
    Calls Tryz.prog 52 #[u, .func (Fn.func K) #[] cs] w fun e w' => ∃ v, e = .returned v ∧ Er v (chk ok ks) ∧ Below w.heap.size w w' := by
  have U : Hid (Chl w u ks) := hu
  have HP : Hid (∀ W, Below w.heap.size w W → ∀ c, ¬ Fe.Bad c → Calls Tryz.prog K (#[c.val] ++ cs) W fun e w' => e = .returned (.bool (ok c)) ∧ Below W.heap.size W w') := hp
  obtain ⟨ad, cap, rfl, c1, c2, -⟩ := hu
  clear hp
  by_cases hl : 6000 < ks.length
  · have hl' : (6000 : Int) < (ks.length : Int) := by omega
    have E : Hid (chk ok ks = 4) := by unfold Hid chk; rw [if_pos hl]
    clear hl
    go_enter Tryz.func52, Tryz.ntmps52
    go_wp2
    go_ret
    exact ⟨_, rfl, by rw [E.out]; exact Er.no (by decide), Below.refl _ _⟩
  have hl' : ¬ (6000 : Int) < (ks.length : Int) := by omega
  have hl6 : ks.length ≤ 6000 := by omega
  have E : Hid (chk ok ks = Fe.cfault ok (-1) ks) := by unfold Hid chk; rw [if_neg hl]
  clear hl
  go_enter Tryz.func52, Tryz.ntmps52
  go_wp2_with fail
  go_loopw [5, 14] (fun pv iv W => ∃ (n : Nat) (p : Int), n ≤ ks.length ∧ pv = .int .i64 p ∧ iv = .int .i64 (n : Nat) ∧ Fe.cfault ok (-1) ks = Fe.cfault ok p (ks.drop n) ∧ Below w.heap.size w W) (fun _ iv _ => ks.length - (intOf iv).toNat)
  case atStart => exact ⟨0, -1, Nat.zero_le _, rfl, rfl, by simp, Below.refl _ _⟩
  case round =>
  obtain ⟨n, p, hn, rfl, rfl, he, hb⟩ := hrel
  have HE : Hid (Fe.cfault ok (-1) ks = Fe.cfault ok p (ks.drop n)) := he
  have BW : Hid (Below w.heap.size w wr) := hb
  clear he hb
  by_cases hne : n = ks.length
  · have EZ : Hid (chk ok ks = 0) := by
      unfold Hid
      rw [E.out, HE.out, hne, List.drop_length]
      rfl
    subst hne
    go_wp2
    go_ret
    exact ⟨_, rfl, by rw [EZ.out]; exact Er.nil, BW.out⟩
  have hnl : n < ks.length := by omega
  have hnl' : (n : Int) < (ks.length : Int) := by omega
  obtain ⟨c, hc⟩ : ∃ c, ks[n]? = some c := ⟨_, List.getElem?_eq_getElem hnl⟩
  have HC : Hid (ks.drop n = c :: ks.drop (n + 1)) := by
    unfold Hid
    rw [List.drop_eq_getElem_cons hnl]
    congr 1
    rw [List.getElem?_eq_getElem hnl] at hc
    injection hc
  have EC : Hid (chk ok ks = if Fe.Bad c then 1 else if c.at_ ≤ p then 5 else if ok c = true then Fe.cfault ok c.at_ (ks.drop (n + 1)) else 7) := by
    unfold Hid
    rw [E.out, HE.out, HC.out]
    rfl
  obtain ⟨a', c', e', -, -, hq⟩ := U.out.below BW.out
  injection e' with e1 e2 e3
  subst e1 e3
  obtain ⟨x, rfl, -, hcc⟩ := hq (by rintro rfl; simp at hnl)
  obtain ⟨d0, d1, d2⟩ := hcc n c hc
  clear hq hcc hc
  have SZ : Hid (w.heap.size ≤ wr.heap.size) := BW.out.size
  have BA : Hid (Below w.heap.size w (wr.alloc (Obj.cells #[.int .i64 c.at_, .int .i64 c.old, .int .i64 c.new] 107))) := BW.out.alloc SZ.out _
  have CK : Hid (¬ Fe.Bad c → Calls Tryz.prog K (#[c.val] ++ cs) (wr.alloc (Obj.cells #[.int .i64 c.at_, .int .i64 c.old, .int .i64 c.new] 107)) fun e w' => e = .returned (.bool (ok c)) ∧ Below (wr.alloc (Obj.cells #[.int .i64 c.at_, .int .i64 c.old, .int .i64 c.new] 107)).heap.size (wr.alloc (Obj.cells #[.int .i64 c.at_, .int .i64 c.old, .int .i64 c.new] 107)) w') := fun h => HP.out _ BA.out c h
  obtain ⟨ca, co, cn⟩ := c
  simp only [ChV.val] at d0 d1 d2 CK BA EC ⊢
  by_cases h1 : 0 ≤ ca ∧ ca ≤ 5999
  case neg =>
    have W1 := fwin_is ca 0 5999 false (decide_eq_false h1)
    have EF : Hid (chk ok ks = 1) := by unfold Hid; rw [EC.out, if_pos (.inl h1)]
    go_wp2_with fail
    refine (W1.out _).mono ?_
    rintro e w' ⟨rfl, rfl⟩
    go_wp2
    go_ret
    exact ⟨_, rfl, by rw [EF.out]; exact Er.no (by decide), BA.out⟩
  have W1 := fwin_is ca 0 5999 true (decide_eq_true h1)
  go_wp2_with fail
  refine (W1.out _).mono ?_
  rintro e w' ⟨rfl, rfl⟩
  by_cases h2 : -1 ≤ co ∧ co ≤ 255
  case neg =>
    have W2 := fwin_is co (-1) 255 false (decide_eq_false h2)
    have EF : Hid (chk ok ks = 1) := by unfold Hid; rw [EC.out, if_pos (.inr (.inl h2))]
    go_wp2_with fail
    refine (W2.out _).mono ?_
    rintro e w' ⟨rfl, rfl⟩
    go_wp2
    go_ret
    exact ⟨_, rfl, by rw [EF.out]; exact Er.no (by decide), BA.out⟩
  have W2 := fwin_is co (-1) 255 true (decide_eq_true h2)
  go_wp2_with fail
  refine (W2.out _).mono ?_
  rintro e w' ⟨rfl, rfl⟩
  by_cases h3 : -1 ≤ cn ∧ cn ≤ 255
  case neg =>
    have W3 := fwin_is cn (-1) 255 false (decide_eq_false h3)
    have EF : Hid (chk ok ks = 1) := by unfold Hid; rw [EC.out, if_pos (.inr (.inr (.inl h3)))]
    go_wp2_with fail
    refine (W3.out _).mono ?_
    rintro e w' ⟨rfl, rfl⟩
    go_wp2
    go_ret
    exact ⟨_, rfl, by rw [EF.out]; exact Er.no (by decide), BA.out⟩
  have W3 := fwin_is cn (-1) 255 true (decide_eq_true h3)
  go_wp2_with fail
  refine (W3.out _).mono ?_
  rintro e w' ⟨rfl, rfl⟩
  by_cases h4 : co = cn
  case pos =>
    have EF : Hid (chk ok ks = 1) := by unfold Hid; rw [EC.out, if_pos (.inr (.inr (.inr h4)))]
    subst h4
    go_wp2
    go_ret
    exact ⟨_, rfl, by rw [EF.out]; exact Er.no (by decide), BA.out⟩
  have h4b : (co == cn) = false := beq_eq_false_iff_ne.2 h4
  have NB : Hid (¬ Fe.Bad ⟨ca, co, cn⟩) := by
    unfold Hid Fe.Bad
    simp only
    rintro (h | h | h | h)
    · exact h h1
    · exact h h2
    · exact h h3
    · exact h4 h
  by_cases h5 : ca ≤ p
  case pos =>
    have EF : Hid (chk ok ks = 5) := by unfold Hid; rw [EC.out, if_neg NB.out, if_pos h5]
    go_wp2
    go_ret
    exact ⟨_, rfl, by rw [EF.out]; exact Er.no (by decide), BA.out⟩
  cases hok : ok ⟨ca, co, cn⟩ with
  | false =>
    have EF : Hid (chk ok ks = 7) := by unfold Hid; rw [EC.out, if_neg NB.out, if_neg h5, hok]; rfl
    rw [hok] at CK
    clear hok
    go_wp2_with fail
    refine (CK.out NB.out).mono ?_
    rintro e w2 ⟨rfl, hb⟩
    have B2 : Hid (Below w.heap.size w w2) := BA.out.trans (hb.mono BA.out.size)
    clear hb
    go_wp2
    go_ret
    exact ⟨_, rfl, by rw [EF.out]; exact Er.no (by decide), B2.out⟩
  | true =>
    have EF : Hid (Fe.cfault ok (-1) ks = Fe.cfault ok ca (ks.drop (n + 1))) := by unfold Hid; rw [← E.out, EC.out, if_neg NB.out, if_neg h5, hok]; rfl
    rw [hok] at CK
    clear hok
    go_wp2_with fail
    refine (CK.out NB.out).mono ?_
    rintro e w2 ⟨rfl, hb⟩
    have B2 : Hid (Below w.heap.size w w2) := BA.out.trans (hb.mono BA.out.size)
    have y0 : w2.cell? ⟨wr.heap.size, 0, none⟩ = some (.int .i64 ca) := by
      rw [hb.cell (p := ⟨wr.heap.size, 0, none⟩) (by simp)]
      simp
    clear hb
    go_wp2
    go_roundw
    case rel => exact ⟨n + 1, ca, by omega, rfl, by go_num, EF.out, B2.out⟩
    case measure => simp [intOf]; omega
end Go.Proofs.YtoabhfipikkkeaaGreatDoor

namespace Go.Proofs.YtoabhfipikkkeaaGreatDoor
open Go.RowKit
set_option linter.unusedVariables false

namespace Fe
theorem pl_front {a : List UInt8} {N n : Nat} (h : n < N) : ((pl a N).take n ++ List.replicate (N - n) 0).set n (bat a n) = (pl a N).take (n + 1) ++ List.replicate (N - (n + 1)) 0 := by
  have l9 : ((pl a N).take n).length = n := by rw [List.length_take, pl_len]; omega
  rw [List.set_append_right _ _ (by omega), l9, Nat.sub_self, List.take_add_one, pl_get h]
  have : N - n = (N - (n + 1)) + 1 := by omega
  rw [this, List.replicate_succ]
  simp
theorem puts_bounds {a : List UInt8} {N : Nat} : ∀ {l : List ChV}, (∀ c ∈ l, ¬ Bad c) → ∀ x ∈ puts (pl a N) l, -1 ≤ x ∧ x ≤ 255 := by
  have H : ∀ (l : List ChV) (ps : List Int), (∀ c ∈ l, ¬ Bad c) → (∀ x ∈ ps, -1 ≤ x ∧ x ≤ 255) → ∀ x ∈ puts ps l, -1 ≤ x ∧ x ≤ 255 := by
    intro l
    induction l with
    | nil => intro ps _ h; exact h
    | cons c l ih =>
      intro ps hl hp
      refine ih (ps.set c.at_.toNat c.new) (fun d hd => hl d (by simp [hd])) (fun x hx => ?_)
      rcases List.mem_or_eq_of_mem_set hx with h | rfl
      · exact hp x h
      · have := hl c (by simp)
        unfold Bad at this
        omega
  intro l hl
  refine H l _ hl (fun x hx => ?_)
  unfold pl at hx
  obtain ⟨i, -, rfl⟩ := List.mem_map.1 hx
  exact bat_bounds a i
end Fe
/-- what changed tells. -/
def ChgSays (a : List UInt8) (l : List ChV) (w w' : World) (v r : Value) : Prop :=
  (Fe.applied a l 6000 = none ∧ v = .slice none 0 0 ∧ r = .iface 99 (.int .i64 3)) ∨ (∃ b, Fe.applied a l 6000 = some b ∧ r = .nilIface ∧ Ob w' w.heap.size v b)
set_option maxRecDepth 100000 in
set_option maxHeartbeats 16000000 in
theorem changed_any (va vl : Value) (a : List UInt8) (ks : List ChV) (w : World) (ha : By w va a) (hl : Chl w vl ks) (hk : ks.length ≤ 6000) (hb : ∀ c ∈ ks, ¬ Fe.Bad c) :
    Calls Tryz.prog 59 #[va, vl] w fun e w' => ∃ v r, e = .returned (.tuple #[v, r]) ∧ ChgSays a ks w w' v r ∧ Below w.heap.size w w' := by
  have A : Hid (By w va a) := ha
  have L : Hid (Chl w vl ks) := hl
  have NB : Hid (∀ c ∈ ks, ¬ Fe.Bad c) := hb
  obtain ⟨pa, ca, rfl, a1, a2, -⟩ := ha
  obtain ⟨pl, cl, rfl, l1, l2, -⟩ := hl
  have a2' : ca ≤ 9223372036854775807 := by unfold maxLen at a2; omega
  clear a2 hb
  obtain ⟨w1, hm, hbk, hbb, hs⟩ := makeI 6000 w (by omega)
  obtain ⟨N, hN⟩ : ∃ N : Nat, N = 6000 := ⟨_, rfl⟩
  have HN : Hid (N = 6000) := hN
  have hN' : (N : Int) = 6000 := by omega
  rw [← hN] at hbk
  have BK : Hid (Bk w1 w.heap.size (List.replicate N 0) #[]) := hbk
  have BB : Hid (Below w.heap.size w w1) := hbb
  obtain ⟨z, hz⟩ : ∃ z, w.heap.size = z := ⟨_, rfl⟩
  have HZ : Hid (w.heap.size = z) := hz
  rw [hz] at BK hm
  have hm' : (Instr.makeSlice 23 (.int .i64 6000) (.int .i64 6000)).run Tryz.prog w = .ok (.slice (some ⟨z, 0, none⟩) 6000 6000) w1 := hm
  clear hbk hbb hs hm hN
  go_enter Tryz.func59, Tryz.ntmps59
  go_wp2_with fail
  go_loopw [16] (fun j W => ∃ n : Nat, n ≤ N ∧ j = .int .i64 (n : Nat) ∧ Bk W z ((Fe.pl a N).take n ++ List.replicate (N - n) 0) #[] ∧ Below z w W) (fun j _ => N - (intOf j).toNat)
  case atStart => exact ⟨0, Nat.zero_le _, rfl, by simpa using BK.out, by rw [← HZ.out]; exact BB.out⟩
  case round =>
  obtain ⟨n, hn, rfl, hb, hB⟩ := hrel
  have B1 : Hid (Bk wr z ((Fe.pl a N).take n ++ List.replicate (N - n) 0) #[]) := hb
  have W1 : Hid (Below z w wr) := hB
  clear hb hB
  by_cases hne : n = N
  case neg =>
    have hnl : n < N := by omega
    have hnl' : (n : Int) < 6000 := by omega
    go_wp2_with fail
    refine (byteAt_any _ a n _ (A.out.below (by rw [HZ.out]; exact W1.out))).mono ?_
    rintro e w2 ⟨rfl, rfl⟩
    have tz := B1.out.thaw n
    have cz := B1.out.cell (i := n) (d := 0) (by
      have l9 : ((Fe.pl a N).take n).length = n := by rw [List.length_take, Fe.pl_len]; omega
      rw [List.getElem?_append_right (by omega), l9, Nat.sub_self, List.getElem?_replicate, if_pos (by omega)])
    have SZ : Hid (Bk (w2.setCell ⟨z, n, none⟩ (.int .i64 (Fe.bat a n))) z ((Fe.pl a N).take (n + 1) ++ List.replicate (N - (n + 1)) 0) #[]) := by
      have h9 := B1.out.set n (Fe.bat a n) (by simp [Fe.pl_len]; omega)
      rw [Fe.pl_front hnl] at h9
      exact h9
    have WZ : Hid (Below z w (w2.setCell ⟨z, n, none⟩ (.int .i64 (Fe.bat a n)))) := W1.out.setCell (Nat.le_refl _) _
    go_wp2
    go_roundw
    case rel => exact ⟨n + 1, by omega, by go_num, SZ.out, WZ.out⟩
    case measure => simp [intOf]; omega
  have BP : Hid (Bk wr z (Fe.pl a N) #[]) := by
    have := B1.out
    rw [hne, Nat.sub_self, List.replicate_zero, List.append_nil, List.take_of_length_le (by rw [Fe.pl_len]; exact Nat.le_refl _)] at this
    exact this
  have hnn : ¬ (n : Int) < 6000 := by omega
  clear B1 BK hm'
  go_wp2_with fail
  go_loopw [28] (fun j W => ∃ m : Nat, m ≤ ks.length ∧ j = .int .i64 (m : Nat) ∧ Bk W z (Fe.puts (Fe.pl a N) (ks.take m)) #[] ∧ Below z w W) (fun j _ => ks.length - (intOf j).toNat)
  case atStart => exact ⟨0, Nat.zero_le _, rfl, by simpa [Fe.puts] using BP.out, W1.out⟩
  case round =>
  obtain ⟨m, hm, rfl, hb, hB⟩ := hrel
  have B1 : Hid (Bk wr z (Fe.puts (Fe.pl a N) (ks.take m)) #[]) := hb
  have W2 : Hid (Below z w wr) := hB
  clear hb hB BP
  by_cases hme : m = ks.length
  case neg =>
    have hml : m < ks.length := by omega
    have hml' : (m : Int) < (ks.length : Int) := by omega
    obtain ⟨c, hc⟩ : ∃ c, ks[m]? = some c := ⟨_, List.getElem?_eq_getElem hml⟩
    have PN : Hid (Fe.puts (Fe.pl a N) (ks.take (m + 1)) = (Fe.puts (Fe.pl a N) (ks.take m)).set c.at_.toNat c.new) := by
      unfold Hid
      rw [List.take_add_one, hc]
      exact Fe.puts_snoc _ _ _
    have nb := NB.out c (List.mem_of_getElem? hc)
    obtain ⟨a', c', e', -, -, hq⟩ := L.out.below (by rw [HZ.out]; exact W2.out)
    injection e' with e1 e2 e3
    subst e1 e3
    obtain ⟨x, rfl, -, hcc⟩ := hq (by rintro rfl; simp at hml)
    obtain ⟨d0, d1, d2⟩ := hcc m c hc
    clear hq hcc hc
    obtain ⟨cc, co, cn⟩ := c
    unfold Fe.Bad at nb
    simp only at d0 d1 d2 PN nb
    obtain ⟨i, rfl⟩ : ∃ i : Nat, cc = (i : Nat) := ⟨cc.toNat, by omega⟩
    have hi6 : (i : Int) < 6000 := by omega
    have hiN : i < N := by omega
    rw [Int.toNat_natCast] at PN
    have SW : Hid (z ≤ wr.heap.size) := by unfold Hid; rw [← HZ.out]; exact W2.out.size
    obtain ⟨wa, hwa⟩ : ∃ W, wr.alloc (Obj.cells #[.int .i64 (i : Nat), .int .i64 co, .int .i64 cn] 107) = W := ⟨_, rfl⟩
    have BA : Hid (Bk wa z (Fe.puts (Fe.pl a N) (ks.take m)) #[]) := by rw [← hwa]; exact B1.out.below ((Below.refl _ _).alloc (Nat.le_refl _) _)
    have WA : Hid (Below z w wa) := by rw [← hwa]; exact W2.out.alloc SW.out _
    have y0 : wa.cell? ⟨wr.heap.size, 0, none⟩ = some (.int .i64 (i : Nat)) := by rw [← hwa]; simp
    have y2 : wa.cell? ⟨wr.heap.size, 2, none⟩ = some (.int .i64 cn) := by rw [← hwa]; simp
    have tz := BA.out.thaw i
    obtain ⟨d, hd⟩ : ∃ d, (Fe.puts (Fe.pl a N) (ks.take m))[i]? = some d := ⟨_, List.getElem?_eq_getElem (by rw [Fe.puts_len, Fe.pl_len]; exact hiN)⟩
    have cz := BA.out.cell hd
    have SZ : Hid (Bk (wa.setCell ⟨z, i, none⟩ (.int .i64 cn)) z (Fe.puts (Fe.pl a N) (ks.take (m + 1))) #[]) := by
      have h9 := BA.out.set i cn (by rw [Fe.puts_len, Fe.pl_len]; exact hiN)
      rw [← PN.out] at h9
      exact h9
    have WZ : Hid (Below z w (wa.setCell ⟨z, i, none⟩ (.int .i64 cn))) := WA.out.setCell (Nat.le_refl _) _
    clear hd nb
    go_upto_region 10 with fail
    try rw [hwa]
    clear hwa
    go_wp2
    go_roundw
    case rel => exact ⟨m + 1, by omega, by go_num, SZ.out, WZ.out⟩
    case measure => simp [intOf]; omega
  obtain ⟨ps, hps⟩ : ∃ ps, Fe.puts (Fe.pl a N) ks = ps := ⟨_, rfl⟩
  have PS : Hid (Fe.applied a ks 6000 = Fe.col ps 0 [] ∧ ps.length = N) := ⟨by unfold Fe.applied; rw [← HN.out, hps], by rw [← hps, Fe.puts_len, Fe.pl_len]⟩
  have PB : Hid (∀ x ∈ ps, -1 ≤ x ∧ x ≤ 255) := by rw [← hps]; exact Fe.puts_bounds NB.out
  have BP : Hid (Bk wr z ps #[]) := by
    have := B1.out
    rw [hme, List.take_length, hps] at this
    exact this
  subst hme
  clear B1 hps
  go_wp2_with fail
  go_loopw [10, 41] (fun bv j W => ∃ (k : Nat) (b : List UInt8), k ≤ N ∧ j = .int .i64 (k : Nat) ∧ b.length ≤ k ∧ Fe.col ps 0 [] = Fe.col (ps.drop k) k b ∧ Ob W (z + 1) bv b ∧ Bk W z ps #[] ∧ Below z w W) (fun _ j _ => N - (intOf j).toNat)
  case atStart => exact ⟨0, [], Nat.zero_le _, rfl, Nat.le_refl _, rfl, Ob.nil _ _, BP.out, W2.out⟩
  case round =>
  obtain ⟨k, b, hk, rfl, hbl, hcol, hob, hbk, hB⟩ := hrel
  have CL : Hid (Fe.col ps 0 [] = Fe.col (ps.drop k) k b) := hcol
  have OB : Hid (Ob wr (z + 1) u10 b) := hob
  have B3 : Hid (Bk wr z ps #[]) := hbk
  have W3 : Hid (Below z w wr) := hB
  obtain ⟨bp, bc, rfl⟩ := hob.len
  clear hcol hob hbk hB BP
  by_cases hke : k = N
  case pos =>
    have hkn : ¬ (k : Int) < 6000 := by omega
    have CE : Hid (Fe.applied a ks 6000 = some b) := by
      unfold Hid
      rw [PS.out.1, CL.out, List.drop_eq_nil_of_le (by rw [PS.out.2]; omega)]
      rfl
    go_wp2
    go_ret2
    refine ⟨_, _, rfl, .inr ⟨b, CE.out, rfl, ?_⟩, by first | exact W3.out | (rw [HZ.out]; exact W3.out)⟩
    have o9 := Go.Joins.ownsRow_le OB.out (Nat.le_succ z)
    first | exact o9 | (rw [HZ.out]; exact o9)
  have hkl : k < N := by omega
  have hkl' : (k : Int) < 6000 := by omega
  obtain ⟨x, hx⟩ : ∃ x, ps[k]? = some x := ⟨_, List.getElem?_eq_getElem (by rw [PS.out.2]; exact hkl)⟩
  have DR : Hid (ps.drop k = x :: ps.drop (k + 1)) := by
    unfold Hid
    have hp : k < ps.length := by rw [PS.out.2]; exact hkl
    rw [List.drop_eq_getElem_cons hp]
    rw [List.getElem?_eq_getElem hp] at hx
    injection hx with hx
    rw [hx]
  have CX : Hid (Fe.col ps 0 [] = if x = -1 then Fe.col (ps.drop (k + 1)) (k + 1) b else if b.length < k then none else Fe.col (ps.drop (k + 1)) (k + 1) (b ++ [UInt8.ofNat x.toNat])) := by
    unfold Hid
    rw [CL.out, DR.out]
    rfl
  have xb := PB.out x (List.mem_of_getElem? hx)
  have cx := B3.out.cell hx
  clear hx
  by_cases hx1 : x = -1
  case pos =>
    have CN : Hid (Fe.col ps 0 [] = Fe.col (ps.drop (k + 1)) (k + 1) b) := by unfold Hid; rw [CX.out, if_pos hx1]
    subst hx1
    go_wp2
    go_roundw
    case rel => exact ⟨k + 1, b, by omega, by go_num, by omega, CN.out, OB.out, B3.out, W3.out⟩
    case measure => simp [intOf]; omega
  have hxb : (x == -1) = false := beq_eq_false_iff_ne.2 hx1
  by_cases hg : b.length < k
  case pos =>
    have hg' : (b.length : Int) < (k : Int) := by omega
    have CN : Hid (Fe.applied a ks 6000 = none) := by unfold Hid; rw [PS.out.1, CX.out, if_neg hx1, if_pos hg]
    go_wp2
    go_ret2
    exact ⟨_, _, rfl, .inl ⟨CN.out, rfl, rfl⟩, by first | exact W3.out | (rw [HZ.out]; exact W3.out)⟩
  have hg' : ¬ (b.length : Int) < (k : Int) := by omega
  have CN : Hid (Fe.col ps 0 [] = Fe.col (ps.drop (k + 1)) (k + 1) (b ++ [UInt8.ofNat x.toNat])) := by unfold Hid; rw [CX.out, if_neg hx1, if_neg hg]
  have xw : IntKind.u8.wrap x = x := by rw [IntKind.wrap_u8]; omega
  have XN : Hid (x = (((UInt8.ofNat x.toNat).toNat : Nat) : Int)) := by
    unfold Hid
    rw [UInt8.toNat_ofNat']
    omega
  have SW : Hid (z + 1 ≤ wr.heap.size) := B3.out.lt
  go_wp2_with (at_builtin; refine app_byte _ rfl _ _ rfl (z + 1) _ b rfl (OB.out.alloc _) ⟨wr.heap.size, 0, none⟩ (UInt8.ofNat x.toNat) rfl (by rw [← XN.out]; simp) (by omega) (by have := SW.out; simp; omega) ?_)
  intro g cap w5 o5 g5 l5
  have O5 : Hid (Ob w5 (z + 1) (.slice (some ⟨g, 0, none⟩) (b.length + 1) cap) (b ++ [UInt8.ofNat x.toNat])) := o5
  have hob : ∀ j, (Value.slice bp b.length bc).ownBlock = some j → z + 1 ≤ j := fun j hj => (OB.out.block j hj).1
  have B5 : Hid (Below (z + 1) wr w5) := ((Below.refl _ _).alloc SW.out _).grown g5 (by have := SW.out; simp; omega) hob
  have K5 : Hid (Bk w5 z ps #[]) := B3.out.low B5.out (by omega)
  have W5 : Hid (Below z w w5) := W3.out.trans (B5.out.mono (by omega))
  clear o5 g5 l5 hob
  go_wp2
  go_roundw
  case rel => exact ⟨k + 1, b ++ [UInt8.ofNat x.toNat], by omega, by go_num, by rw [List.length_append]; simp; omega, CN.out, O5.out, K5.out, W5.out⟩
  case measure => simp [intOf]; omega
end Go.Proofs.YtoabhfipikkkeaaGreatDoor

namespace Go.Proofs.YtoabhfipikkkeaaGreatDoor
open Go.RowKit
set_option linter.unusedVariables false

/-- what is wrong ahead of all else. -/
def aFault (a : List UInt8) (l : List ChV) : Int := if 6000 < a.length then 4 else chk (Fe.isThere a) l
/-- what Apply tells. -/
def AppSays (a : List UInt8) (l : List ChV) (w w' : World) (v r : Value) : Prop :=
  (aFault a l ≠ 0 ∧ v = .slice none 0 0 ∧ Er r (aFault a l)) ∨ (aFault a l = 0 ∧ Fe.applied a l 6000 = none ∧ v = .slice none 0 0 ∧ Er r 3) ∨ (aFault a l = 0 ∧ ∃ b, Fe.applied a l 6000 = some b ∧ r = .nilIface ∧ Ob w' w.heap.size v b)
theorem chk_zero {ok : ChV → Bool} {l : List ChV} (h : chk ok l = 0) : l.length ≤ 6000 ∧ Fe.Fine ok (-1) l := by
  unfold chk at h
  split at h
  · cases h
  · exact ⟨by omega, Fe.fine_zero.1 h⟩
theorem chk_of {ok : ChV → Bool} {l : List ChV} (h1 : l.length ≤ 6000) (h2 : Fe.Fine ok (-1) l) : chk ok l = 0 := by
  unfold chk
  rw [if_neg (by omega)]
  exact Fe.fine_zero.2 h2
set_option maxRecDepth 100000 in
set_option maxHeartbeats 8000000 in
theorem Apply_any (va vl : Value) (a : List UInt8) (ks : List ChV) (w : World) (ha : By w va a) (hl : Chl w vl ks) :
    Calls Tryz.prog 14 #[va, vl] w fun e w' => ∃ v r, e = .returned (.tuple #[v, r]) ∧ AppSays a ks w w' v r ∧ Below w.heap.size w w' := by
  have A : Hid (By w va a) := ha
  have L : Hid (Chl w vl ks) := hl
  obtain ⟨pa, ca, rfl, a1, a2, -⟩ := ha
  obtain ⟨pl, cl, rfl, l1, l2, -⟩ := hl
  have a2' : ca ≤ 9223372036854775807 := by unfold maxLen at a2; omega
  clear a2
  have B0 : Hid (Below w.heap.size w (w.alloc (Obj.cells #[.slice pa a.length ca] 36))) := (Below.refl _ _).alloc (Nat.le_refl _) _
  have c0 : Hid ((w.alloc (Obj.cells #[.slice pa a.length ca] 36)).cell? ⟨w.heap.size, 0, none⟩ = some (.slice pa a.length ca) ∧ w.heap.size < (w.alloc (Obj.cells #[.slice pa a.length ca] 36)).heap.size) := ⟨by simp, by simp⟩
  by_cases h6 : 6000 < a.length
  · have h6' : (6000 : Int) < (a.length : Int) := by omega
    have E : Hid (aFault a ks = 4) := by unfold Hid aFault; rw [if_pos h6]
    clear h6
    go_enter Tryz.func14, Tryz.ntmps14
    go_wp2
    go_ret2
    exact ⟨_, _, rfl, .inl ⟨by rw [E.out]; decide, rfl, by rw [E.out]; exact Er.no (by decide)⟩, B0.out⟩
  have h6' : ¬ (6000 : Int) < (a.length : Int) := by omega
  have E : Hid (aFault a ks = chk (Fe.isThere a) ks) := by unfold Hid aFault; rw [if_neg h6]
  clear h6
  go_enter Tryz.func14, Tryz.ntmps14
  go_upto_region 4 with fail
  generalize w.alloc (Obj.cells #[.slice pa a.length ca] 36) = w0 at *
  obtain ⟨z, hz⟩ : ∃ z, w.heap.size = z := ⟨_, rfl⟩
  have HZ : Hid (w.heap.size = z) := hz
  rw [hz] at c0 ⊢
  have y0 := c0.out.1
  go_wp2_with fail
  refine (fcheck_any 57 (by intro args w; go_simp) _ #[.pointer (some ⟨z, 0, none⟩)] ks (Fe.isThere a) w0 (L.out.below B0.out) ?_).mono ?_
  · intro W hW c hc
    exact isThere_any _ a z c W ((A.out.below B0.out).below hW) (by rw [hW.cell c0.out.2]; exact c0.out.1) hc
  rintro e w1 ⟨r, rfl, hr, hb⟩
  have B1 : Hid (Below w.heap.size w w1) := B0.out.trans (hb.mono B0.out.size)
  have y1 : w1.cell? ⟨z, 0, none⟩ = some (.slice pa a.length ca) := by rw [hb.cell c0.out.2]; exact c0.out.1
  have HR : Hid (Er r (aFault a ks)) := by unfold Hid; rw [E.out]; exact hr
  obtain ⟨f, hf⟩ : ∃ f, aFault a ks = f := ⟨_, rfl⟩
  have HF : Hid (aFault a ks = f) := hf
  rw [hf] at HR
  clear hr hb hf y0
  rcases HR.out with ⟨rfl, rfl⟩ | ⟨hne, rfl⟩
  case inr =>
    have NE : Hid (f ≠ 0) := hne
    clear hne
    go_wp2
    go_ret2
    exact ⟨_, _, rfl, .inl ⟨by rw [HF.out]; exact NE.out, rfl, by rw [HF.out]; exact HR.out⟩, B1.out⟩
  obtain ⟨k1, k2⟩ := chk_zero (by rw [← E.out]; exact HF.out)
  have KF : Hid (ks.length ≤ 6000 ∧ ∀ c ∈ ks, ¬ Fe.Bad c) := ⟨k1, Fe.fine_mem k2⟩
  clear k1 k2
  go_wp2_with fail
  refine (changed_any _ _ a ks w1 (A.out.below B1.out) (L.out.below B1.out) KF.out.1 KF.out.2).mono ?_
  rintro e w2 ⟨v, r, rfl, hs, hb⟩
  have B2 : Hid (Below w.heap.size w w2) := B1.out.trans (hb.mono B1.out.size)
  have HS : Hid (ChgSays a ks w1 w2 v r) := hs
  clear hb hs
  go_wp2
  go_ret2
  refine ⟨_, _, rfl, .inr ?_, B2.out⟩
  rcases HS.out with ⟨h1, h2, h3⟩ | ⟨b, h1, h2, h3⟩
  · exact .inl ⟨HF.out, h1, h2, by rw [h3]; exact Er.no (by decide)⟩
  · exact .inr ⟨HF.out, b, h1, h2, Go.Joins.ownsRow_le h3 B1.out.size⟩
end Go.Proofs.YtoabhfipikkkeaaGreatDoor

namespace Go.Proofs.YtoabhfipikkkeaaGreatDoor
set_option linter.unusedVariables false
namespace Fe
theorem wrap_small {x : Int} (h : -100000 ≤ x ∧ x ≤ 100000) : wrap x = x := by
  unfold wrap
  rw [IntKind.wrap_i64]
  omega
theorem wr_cons (x : Int) (xs : List Int) : Wd.wr (x :: xs) = Wd.num x ++ Wd.wr xs := by simp [Wd.wr]
theorem ptr_chain {b t : List UInt8} {a0 : Nat} {l : List ChV} (hl : ∀ c ∈ l, ¬ Bad c) (hb : b.drop a0 = Wd.wr (chain 0 l) ++ t) : ∀ n, n ≤ l.length → ∃ p a, ptr b a0 n = some (l.take n, p, a) ∧ b.drop a = Wd.wr (chain p (l.drop n)) ++ t ∧ 0 ≤ p ∧ p ≤ 5999
  | 0, _ => ⟨0, a0, by simp [ptr], by simpa using hb, by omega, by omega⟩
  | n + 1, hn => by
    obtain ⟨p, a, h1, h2, h3, h4⟩ := ptr_chain hl hb n (by omega)
    have hnl : n < l.length := by omega
    have hc := hl l[n] (List.getElem_mem hnl)
    rw [List.drop_eq_getElem_cons hnl] at h2
    have ht : l.take (n + 1) = l.take n ++ [l[n]] := List.take_succ_eq_append_getElem hnl
    rw [ht]
    generalize l[n] = c at *
    obtain ⟨ca, co, cn⟩ := c
    unfold Bad at hc
    simp only at hc
    rw [chain, wr_cons, wr_cons, wr_cons] at h2
    simp only [List.append_assoc] at h2
    have i1 : Wd.In64 (ca - p) := by unfold Wd.In64; omega
    have i2 : Wd.In64 (co + 1) := by unfold Wd.In64; omega
    have i3 : Wd.In64 (cn + 1) := by unfold Wd.In64; omega
    have e1 := Wd.pnum_num i1 h2
    have g1 : b.drop (a + (Wd.num (ca - p)).length) = Wd.num (co + 1) ++ (Wd.num (cn + 1) ++ (Wd.wr (chain ca (l.drop (n + 1))) ++ t)) := by rw [← List.drop_drop, h2, List.drop_left]
    have e2 := Wd.pnum_num i2 g1
    have g2 : b.drop (a + (Wd.num (ca - p)).length + (Wd.num (co + 1)).length) = Wd.num (cn + 1) ++ (Wd.wr (chain ca (l.drop (n + 1))) ++ t) := by rw [← List.drop_drop, g1, List.drop_left]
    have e3 := Wd.pnum_num i3 g2
    have g3 : b.drop (a + (Wd.num (ca - p)).length + (Wd.num (co + 1)).length + (Wd.num (cn + 1)).length) = Wd.wr (chain ca (l.drop (n + 1))) ++ t := by rw [← List.drop_drop, g2, List.drop_left]
    refine ⟨ca, _, ?_, g3, by omega, by omega⟩
    unfold ptr
    rw [h1]
    simp only
    rw [e1]
    simp only
    rw [e2]
    simp only
    rw [e3]
    simp only
    rw [show p + (ca - p) = ca by omega, show co + 1 - 1 = co by omega, show cn + 1 - 1 = cn by omega, wrap_small (by omega), wrap_small (by omega), wrap_small (by omega)]
theorem unpack_pack {l : List ChV} (h1 : l.length ≤ 6000) (h2 : Fine (fun _ => true) (-1) l) (t : List UInt8) : ∃ a, unpack (Wd.wr (nums l) ++ t) = some (l, a) := by
  have hi : Wd.In64 (l.length : Int) := by unfold Wd.In64; omega
  have e0 : (Wd.wr (nums l) ++ t).drop 0 = Wd.num (l.length : Int) ++ (Wd.wr (chain 0 l) ++ t) := by
    unfold nums
    rw [wr_cons]
    simp
  have e1 := Wd.pnum_num hi e0
  have e2 : (Wd.wr (nums l) ++ t).drop (0 + (Wd.num (l.length : Int)).length) = Wd.wr (chain 0 l) ++ t := by rw [← List.drop_drop, e0, List.drop_left]
  obtain ⟨p, a, h3, -⟩ := ptr_chain (fine_mem h2) e2 l.length (Nat.le_refl _)
  refine ⟨a, ?_⟩
  unfold unpack
  rw [e1]
  simp only
  rw [if_pos (by omega), Int.toNat_natCast, h3]
  simp only
  rw [List.take_length, if_pos (fine_zero.2 h2)]
end Fe
end Go.Proofs.YtoabhfipikkkeaaGreatDoor

namespace Go.Proofs.YtoabhfipikkkeaaGreatDoor
open Go.Proofs.YtoabhfipikkkeaaGreatDoor.So
set_option linter.unusedVariables false

def Sm (n : Int) : Prop := -100000000 ≤ n ∧ n ≤ 100000000
theorem sm_of {n : Int} (h : -100000000 ≤ n ∧ n ≤ 100000000) : Sm n := h
theorem right_small {ks : List KV} {X : WV} (h : WRight ks X) : (∀ n ∈ Wd.nums X, Sm n) ∧ X.gs.length ≤ 144 ∧ X.os.length ≤ 144 ∧ X.gold.length ≤ 4 ∧ X.us.length ≤ 40 ∧ X.qs.length ≤ 12 := by
  obtain ⟨Wn, Hn, e1, e2, G⟩ := h.good
  have hn := h.nums
  unfold Wd.numsBad at hn
  simp only [Bool.or_eq_false_iff] at hn
  obtain ⟨n1, n2, n3, n4⟩ := hn
  have t1 := off_zero n1
  have t2 := off_zero n2
  have g4 : X.gold.length ≤ 4 := (nums_ok h.nums).2
  have w12 := G.w2
  have h12 := G.h2
  have cell : Wn * Hn ≤ 144 := by
    have : Wn * Hn ≤ 12 * 12 := Nat.mul_le_mul w12 h12
    omega
  have gl := G.gl
  have ol := G.ol
  have hgs : ∀ n ∈ X.gs, Sm n := fun n hn => by
    obtain ⟨i, hi⟩ := List.mem_iff_getElem?.1 hn
    have hil := (List.getElem?_eq_some_iff.1 hi).1
    have := G.cell i n _ hi (List.getElem?_eq_getElem (by omega))
    exact sm_of (by omega)
  have hos : ∀ n ∈ X.os, Sm n := fun n hn => by
    obtain ⟨i, hi⟩ := List.mem_iff_getElem?.1 hn
    have hil := (List.getElem?_eq_some_iff.1 hi).1
    have := G.cell i _ n (List.getElem?_eq_getElem (by omega)) hi
    exact sm_of (by omega)
  have hgo : ∀ n ∈ X.gold, Sm n := fun n hn => by
    rw [List.any_eq_false] at n4
    have := off_zero (by simpa using n4 n hn : Wd.off 0 n = false)
    exact sm_of (by omega)
  have kb : ∀ k ∈ ks, k.n0 ≤ 1000 ∧ k.n7 ≤ 1000 := fun k hk => by
    have h9 := h.kinds
    unfold Kd.kindsFault at h9
    split at h9
    · omega
    · have h2 := kgo_nums h9 k.k (List.mem_map.2 ⟨k, hk, rfl⟩)
      unfold Kd.numsFault at h2
      split at h2
      · omega
      · rename_i h3
        rw [Bool.not_eq_true, List.any_eq_false] at h3
        have a1 := h3 k.n0 (by simp [KV.k])
        have a2 := h3 k.n7 (by simp [KV.k])
        simp only [decide_eq_true_eq] at a1 a2
        omega
  have k8 : ks.length ≤ 8 := by
    have h9 := h.kinds
    unfold Kd.kindsFault at h9
    split at h9
    · omega
    · rename_i h3
      simp at h3
      omega
  have hus : ∀ u ∈ X.us, ∀ n ∈ Wd.unums u, Sm n := fun u hu n hn => by
    obtain ⟨i, hi⟩ := List.mem_iff_getElem?.1 hu
    obtain ⟨k, F⟩ := h.fine hi
    have b := kb k (List.mem_of_getElem? F.kk)
    have f1 := F.id1
    have f2 := F.id2
    have f3 := F.p
    have f4 := F.k0
    have f5 := F.life
    have f6 := F.load
    have f7 := F.task
    have f8 := F.at_
    have f9 := F.goal
    unfold Wd.unums at hn
    simp only [List.mem_cons, List.not_mem_nil, or_false] at hn
    rcases hn with rfl | rfl | rfl | rfl | rfl | rfl | rfl | rfl <;> exact sm_of (by omega)
  have hqs : ∀ j ∈ X.qs, ∀ n ∈ Wd.jnums j, Sm n := fun j hj n hn => by
    have hf := h.job hj
    unfold Wd.jobFault at hf
    split at hf
    · cases hf
    · rename_i u hu
      have hm := List.mem_of_find?_eq_some hu
      have hid : u.id = j.unit := by simpa using List.find?_some hu
      obtain ⟨i, hi⟩ := List.mem_iff_getElem?.1 hm
      obtain ⟨k', F⟩ := h.fine hi
      have f1 := F.id1
      have f2 := F.id2
      have f3 := F.p
      split at hf
      · cases hf
      · split at hf
        · cases hf
        · rename_i hp
          split at hf
          · cases hf
          · rename_i hk
            simp only [Bool.or_eq_true, bne_iff_ne, not_or, Decidable.not_not, Bool.not_eq_true] at hp
            unfold Wd.has at hk
            simp at hk
            unfold Wd.jnums at hn
            simp only [List.mem_cons, List.not_mem_nil, or_false] at hn
            rcases hn with rfl | rfl | rfl | rfl <;> exact sm_of (by omega)
  refine ⟨fun n hn => ?_, by omega, by omega, g4, h.ul, h.ql⟩
  have u40 := h.ul
  have q12 := h.ql
  unfold Wd.nums at hn
  simp only [List.mem_append, List.mem_cons, List.not_mem_nil, or_false, List.mem_flatMap] at hn
  rcases hn with (((((rfl | rfl | rfl | rfl) | rfl | hn) | rfl | hn) | rfl | hn) | rfl | ⟨u, hu, hn⟩) | rfl | ⟨j, hj, hn⟩
  · exact sm_of (by omega)
  · exact sm_of (by omega)
  · exact sm_of (by omega)
  · exact sm_of (by omega)
  · exact sm_of (by omega)
  · exact hgs n hn
  · exact sm_of (by omega)
  · exact hos n hn
  · exact sm_of (by omega)
  · exact hgo n hn
  · exact sm_of (by omega)
  · exact hus u hu n hn
  · exact sm_of (by omega)
  · exact hqs j hj n hn
theorem vl_len4 {x : Nat} (h : x < 268435456) : (Wd.vl x).length ≤ 4 := by
  by_cases h1 : x < 128
  · rw [Wd.vl_small h1]; simp
  rw [Wd.vl_great (by omega)]
  by_cases h2 : x / 128 < 128
  · rw [Wd.vl_small h2]; simp
  rw [Wd.vl_great (by omega)]
  by_cases h3 : x / 128 / 128 < 128
  · rw [Wd.vl_small h3]; simp
  rw [Wd.vl_great (by omega), Wd.vl_small (by omega)]
  simp
theorem num_len4 {n : Int} (h : Sm n) : (Wd.num n).length ≤ 4 := by
  have hz : Wd.zz n < 268435456 := by
    unfold Sm at h
    unfold Wd.zz
    split <;> omega
  unfold Wd.num
  exact vl_len4 hz
theorem wr_len4 : ∀ {xs : List Int}, (∀ n ∈ xs, Sm n) → (Wd.wr xs).length ≤ 4 * xs.length
  | [], _ => by simp [Wd.wr]
  | x :: xs, h => by
    have h1 := num_len4 (h x (by simp))
    have h2 := wr_len4 (xs := xs) (fun n hn => h n (by simp [hn]))
    unfold Wd.wr at *
    rw [List.flatMap_cons, List.length_append, List.length_cons]
    omega
theorem unums_len (us : List UnV) : (us.flatMap Wd.unums).length = 8 * us.length := by
  induction us with
  | nil => rfl
  | cons u us ih => rw [List.flatMap_cons, List.length_append, ih, List.length_cons]; simp [Wd.unums]; omega
theorem jnums_len (qs : List JbV) : (qs.flatMap Wd.jnums).length = 4 * qs.length := by
  induction qs with
  | nil => rfl
  | cons u us ih => rw [List.flatMap_cons, List.length_append, ih, List.length_cons]; simp [Wd.jnums]; omega
theorem enc_len {ks : List KV} {X : WV} (h : WRight ks X) : (Wd.enc X).length ≤ 6000 := by
  obtain ⟨h0, h1, h2, h3, h4, h5⟩ := right_small h
  have h6 := wr_len4 h0
  have h7 : (Wd.nums X).length = 4 + (1 + X.gs.length) + (1 + X.os.length) + (1 + X.gold.length) + (1 + 8 * X.us.length) + (1 + 4 * X.qs.length) := by
    unfold Wd.nums
    simp only [List.length_append, List.length_cons, List.length_nil, unums_len, jnums_len]
    omega
  unfold Wd.enc
  omega
theorem given_gold {ks : List KV} {Y Z : WV} {o : OrV} (h : given1 ks Y o = some Z) : Z.gold.length = Y.gold.length := by
  unfold given1 at h
  split at h
  · cases h
  · split at h
    · cases h
    · split at h
      · cases h
      · split at h
        · injection h with h
          subst h
          split
          · simp [hired]
          · rfl
        · cases h
theorem gv_gold (ks : List KV) (Y : WV) (out : List OrV) : ∀ n, (gv ks Y out n).1.gold.length = Y.gold.length
  | 0 => rfl
  | n + 1 => by
    have ih := gv_gold ks Y out n
    rw [gv]
    split
    · exact ih
    · split
      · rename_i Z hz
        exact (given_gold hz).trans ih
      · exact ih
theorem ph_gold {ks : List KV} {Wn Hn : Nat} {A : WV} (h : WRight ks A) (e1 : A.wide = (Wn : Nat)) (e2 : A.high = (Hn : Nat)) {n : Nat} {Y : WV} {es : List EvV} (p : Ph ks Wn Hn A n Y es) : Y.gold.length = A.gold.length := by
  induction p with
  | zero => rfl
  | @one T es qs t =>
    obtain ⟨-, -, -, -, -, -, -, -, -, k⟩ := t.keep h
    show T.gold.length = _
    rw [k]
  | @two B es evs us p0 m ih => exact ih
  | @three C es p0 ih =>
    obtain ⟨-, -, -, -, -, -, -, k, -⟩ := dug_keep (Wn := Wn) (Hn := Hn) (Ph.keep h e1 e2 p0).1
    exact k.trans ih
  | @four D es p0 ih => exact ih
theorem step_gold {ks : List KV} {X : WV} {l : List OrV} {Y : WV} {es : List EvV} (hf : stepFault ks X l = 0) (h : StepR ks X l Y es) : Y.gold.length = X.gold.length := by
  have hw : Wd.wfault ks X = 0 := by
    by_cases e : Wd.wfault ks X = 0
    · exact e
    · rw [step_w e] at hf; exact absurd hf e
  have ht : ¬ 1000000 ≤ X.turn := fun e => by rw [step_t hw e] at hf; cases hf
  have ho : Od.faults l = 0 := by rw [step_o hw ht] at hf; exact hf
  have R := wright_of hw
  obtain ⟨out, Wn, Hn, Z, a1, a2, a3, a4, rfl⟩ := h
  obtain ⟨g1, g2, g3⟩ := gv_same (ks := ks) (Y := X) (out := out) out.length
  have AR := gv_right R (out := out) (fun o h => (Od.faults_ok ho).2 o (a1.mem h)) out.length
  show Z.gold.length = _
  rw [ph_gold AR (by rw [g2, a2]) (by rw [g3, a3]) a4, gv_gold]
/-- behind a turn a player is still one. -/
theorem step_player {ks : List KV} {X : WV} {l : List OrV} {Y : WV} {es : List EvV} {p : Int} (hp : pfault ks X p = 0) (hf : stepFault ks X l = 0) (h : StepR ks X l Y es) : pfault ks Y p = 0 := by
  obtain ⟨-, h1, h2⟩ := pfault_zero hp
  unfold pfault
  rw [if_pos (step_right hf h).1, if_pos (by rw [step_gold hf h]; exact ⟨h1, h2⟩)]
/-- a view's bytes. -/
theorem view_len {ks : List KV} {X : WV} {p : Int} (Wn : Nat) (h : pfault ks X p = 0) : (Wd.enc (viewOf ks Wn X p)).length ≤ 6000 := enc_len (wright_of (view_right (p := p) (Wn := Wn) (wright_of (pfault_zero h).1)))
end Go.Proofs.YtoabhfipikkkeaaGreatDoor

namespace Go.Proofs.YtoabhfipikkkeaaGreatDoor
open Go.RowKit
set_option linter.unusedVariables false

namespace Fe
theorem chain_in : ∀ {l : List ChV} {p : Int}, (∀ c ∈ l, ¬ Bad c) → 0 ≤ p → p ≤ 5999 → ∀ n ∈ chain p l, Wd.In64 n
  | [], p, _, _, _, n, h => by simp [chain] at h
  | c :: l, p, hl, h1, h2, n, h => by
    have hc := hl c (by simp)
    unfold Bad at hc
    unfold chain at h
    simp only [List.mem_cons] at h
    rcases h with rfl | rfl | rfl | h
    · unfold Wd.In64; omega
    · unfold Wd.In64; omega
    · unfold Wd.In64; omega
    · exact chain_in (fun d hd => hl d (by simp [hd])) (by omega) (by omega) n h
theorem chain_len : ∀ {l : List ChV} {p : Int}, (chain p l).length = 3 * l.length
  | [], p => rfl
  | c :: l, p => by simp only [chain, List.length_cons, chain_len (l := l)]; omega
end Fe
/-- what Pack tells. -/
def PackSays (l : List ChV) (w w' : World) (v r : Value) : Prop :=
  (chk (fun _ => true) l ≠ 0 ∧ v = .slice none 0 0 ∧ Er r (chk (fun _ => true) l)) ∨ (chk (fun _ => true) l = 0 ∧ r = .nilIface ∧ Ob w' w.heap.size v (Wd.wr (Fe.nums l)))
set_option maxRecDepth 100000 in
set_option maxHeartbeats 8000000 in
theorem Pack_any (vl : Value) (ks : List ChV) (w : World) (hl : Chl w vl ks) :
    Calls Tryz.prog 12 #[vl] w fun e w' => ∃ v r, e = .returned (.tuple #[v, r]) ∧ PackSays ks w w' v r ∧ Below w.heap.size w w' := by
  have L : Hid (Chl w vl ks) := hl
  obtain ⟨pl, cl, rfl, l1, l2, -⟩ := hl
  go_enter Tryz.func12, Tryz.ntmps12
  go_wp2_with fail
  refine (fcheck_any 53 (by intro args w; go_simp) _ #[] ks (fun _ => true) w L.out (fun W hW c hc => anywhere_any c W)).mono ?_
  rintro e w1 ⟨r, rfl, hr, hb⟩
  have B1 : Hid (Below w.heap.size w w1) := hb
  obtain ⟨f, hf⟩ : ∃ f, chk (fun _ => true) ks = f := ⟨_, rfl⟩
  have HF : Hid (chk (fun _ => true) ks = f) := hf
  rw [hf] at hr
  have HR : Hid (Er r f) := hr
  clear hr hb hf
  rcases HR.out with ⟨rfl, rfl⟩ | ⟨hne, rfl⟩
  case inr =>
    have NE : Hid (f ≠ 0) := hne
    clear hne
    go_wp2
    go_ret2
    exact ⟨_, _, rfl, .inl ⟨by rw [HF.out]; exact NE.out, rfl, by rw [HF.out]; exact HR.out⟩, B1.out⟩
  obtain ⟨k1, k2⟩ := chk_zero HF.out
  have KF : Hid (ks.length ≤ 6000 ∧ ∀ c ∈ ks, ¬ Fe.Bad c) := ⟨k1, Fe.fine_mem k2⟩
  have l6 : (ks.length : Int) ≤ 6000 := by omega
  clear k1 k2
  have SW : Hid (w.heap.size ≤ w1.heap.size) := B1.out.size
  have O1 : Hid (Ow (w1.alloc (.cells #[.int .i64 (ks.length : Nat)] 3)) w.heap.size (.slice (some ⟨w1.heap.size, 0, none⟩) 1 1) [(ks.length : Int)]) := Ow.one _ SW.out rfl
  have B2 : Hid (Below w.heap.size w (w1.alloc (.cells #[.int .i64 (ks.length : Nat)] 3))) := B1.out.alloc SW.out _
  go_wp2_with fail
  go_loopw [5, 6, 19] (fun nv pv iv W => ∃ (n : Nat) (p : Int) (xs : List Int), n ≤ ks.length ∧ pv = .int .i64 p ∧ iv = .int .i64 (n : Nat) ∧ 0 ≤ p ∧ p ≤ 5999 ∧ xs.length = 3 * n + 1 ∧ xs ++ Fe.chain p (ks.drop n) = Fe.nums ks ∧ Ow W w.heap.size nv xs ∧ Below w.heap.size w W) (fun _ _ iv _ => ks.length - (intOf iv).toNat)
  case atStart => exact ⟨0, 0, [(ks.length : Int)], Nat.zero_le _, rfl, rfl, by omega, by omega, rfl, rfl, O1.out, B2.out⟩
  case round =>
  obtain ⟨n, p, xs, hn, rfl, rfl, hp0, hp1, hxl, hx, ho, hb⟩ := hrel
  have HX : Hid (xs ++ Fe.chain p (ks.drop n) = Fe.nums ks) := hx
  have XL : Hid (xs.length = 3 * n + 1) := hxl
  have O : Hid (Ow wr w.heap.size u5 xs) := ho
  have BW : Hid (Below w.heap.size w wr) := hb
  obtain ⟨op, oc, rfl⟩ := ho.len
  clear hx hxl ho hb O1 B2
  by_cases hne : n = ks.length
  · have HE : Hid (xs = Fe.nums ks) := by
      have := HX.out
      rw [hne, List.drop_length] at this
      unfold Hid
      simpa [Fe.chain] using this
    have IN : Hid (∀ n ∈ Fe.nums ks, Wd.In64 n) := by
      intro n hn
      unfold Fe.nums at hn
      rcases List.mem_cons.1 hn with rfl | hn
      · unfold Wd.In64; omega
      · exact Fe.chain_in KF.out.2 (by omega) (by omega) n hn
    subst hne
    go_wp2_with fail
    refine (write_any _ xs wr O.out.ro (by rw [HE.out]; exact IN.out) (by have := XL.out; omega)).mono ?_
    rintro e w5 ⟨u, rfl, hu, hb⟩
    have B5 : Hid (Below w.heap.size w w5) := BW.out.trans (hb.mono BW.out.size)
    have OU : Hid (Ob w5 w.heap.size u (Wd.wr (Fe.nums ks))) := by unfold Hid; rw [← HE.out]; exact Go.Joins.ownsRow_le hu BW.out.size
    clear hu hb
    go_wp2
    go_ret2
    exact ⟨_, _, rfl, .inr ⟨HF.out, rfl, OU.out⟩, B5.out⟩
  have hnl : n < ks.length := by omega
  have hnl' : (n : Int) < (ks.length : Int) := by omega
  obtain ⟨c, hc⟩ : ∃ c, ks[n]? = some c := ⟨_, List.getElem?_eq_getElem hnl⟩
  have HC : Hid (ks.drop n = c :: ks.drop (n + 1)) := by
    unfold Hid
    rw [List.drop_eq_getElem_cons hnl]
    congr 1
    rw [List.getElem?_eq_getElem hnl] at hc
    injection hc
  have nb := KF.out.2 c (List.mem_of_getElem? hc)
  have HY : Hid ((xs ++ [c.at_ - p, c.old + 1, c.new + 1]) ++ Fe.chain c.at_ (ks.drop (n + 1)) = Fe.nums ks) := by
    have := HX.out
    rw [HC.out] at this
    unfold Hid
    rw [← this, List.append_assoc]
    rfl
  obtain ⟨a', c', e', -, -, hq⟩ := L.out.below BW.out
  injection e' with e1 e2 e3
  subst e1 e3
  obtain ⟨x, rfl, -, hcc⟩ := hq (by rintro rfl; simp at hnl)
  obtain ⟨d0, d1, d2⟩ := hcc n c hc
  clear hq hcc hc
  obtain ⟨ca, co, cn⟩ := c
  unfold Fe.Bad at nb
  simp only at d0 d1 d2 HY nb
  have wa : IntKind.i64.wrap (ca - p) = ca - p := by rw [IntKind.wrap_i64]; omega
  have wo : IntKind.i64.wrap (co + 1) = co + 1 := by rw [IntKind.wrap_i64]; omega
  have wn : IntKind.i64.wrap (cn + 1) = cn + 1 := by rw [IntKind.wrap_i64]; omega
  have CA : Hid (0 ≤ ca ∧ ca ≤ 5999) := by unfold Hid; omega
  have SR : Hid (w.heap.size ≤ wr.heap.size) := BW.out.size
  obtain ⟨w2, hw2⟩ : ∃ W, wr.alloc (Obj.cells #[.int .i64 ca, .int .i64 co, .int .i64 cn] 107) = W := ⟨_, rfl⟩
  have B2 : Hid (Below w.heap.size w w2) := by rw [← hw2]; exact BW.out.alloc SR.out _
  have O2 : Hid (Ow w2 w.heap.size (.slice op xs.length oc) xs) := by rw [← hw2]; exact O.out.alloc _
  have y0 : w2.cell? ⟨wr.heap.size, 0, none⟩ = some (.int .i64 ca) := by rw [← hw2]; simp
  have y1 : w2.cell? ⟨wr.heap.size, 1, none⟩ = some (.int .i64 co) := by rw [← hw2]; simp
  have y2 : w2.cell? ⟨wr.heap.size, 2, none⟩ = some (.int .i64 cn) := by rw [← hw2]; simp
  have Z2 : Hid (wr.heap.size < w2.heap.size) := by unfold Hid; rw [← hw2]; simp
  clear nb
  go_upto_region 9 with fail
  try rw [hw2]
  clear hw2
  have SR2 : Hid (w.heap.size ≤ w2.heap.size) := B2.out.size
  go_wp2_with (at_builtin; refine app_row _ rfl _ _ rfl w.heap.size _ xs rfl (O2.out.alloc _) _ [ca - p, co + 1, cn + 1] rfl (Ro.lit [ca - p, co + 1, cn + 1] _ rfl (by simp) rfl) (by have := XL.out; simp; omega) (by have := SR2.out; simp; omega) ?_)
  intro v' w5 o5 g5 _
  have O5 : Hid (Ow w5 w.heap.size v' (xs ++ [ca - p, co + 1, cn + 1])) := o5
  have hob : ∀ j, (Value.slice op xs.length oc).ownBlock = some j → w.heap.size ≤ j := fun j hj => (O2.out.block j hj).1
  have B5 : Hid (Below w.heap.size w w5) := (B2.out.alloc SR2.out _).grown g5 (by have := SR2.out; simp; omega) hob
  have z0 : w5.cell? ⟨wr.heap.size, 0, none⟩ = some (.int .i64 ca) := by
    have hk := g5.block wr.heap.size (by have := Z2.out; simp; omega) (fun e => by have := (O.out.block _ e.symm).2; omega)
    have y0' : (w2.alloc (Obj.cells #[.int .i64 (ca - p), .int .i64 (co + 1), .int .i64 (cn + 1)] 3)).cell? ⟨wr.heap.size, 0, none⟩ = some (.int .i64 ca) := by
      rw [((Below.refl _ _).alloc (Nat.le_refl _) _).cell (p := ⟨wr.heap.size, 0, none⟩) Z2.out]; exact y0
    simp only [World.cell?, hk] at y0' ⊢
    exact y0'
  clear o5 g5 hob
  go_wp2
  go_roundw
  case rel => exact ⟨n + 1, ca, xs ++ [ca - p, co + 1, cn + 1], by omega, rfl, by go_num, CA.out.1, CA.out.2, by rw [List.length_append, XL.out]; simp; omega, HY.out, O5.out, B5.out⟩
  case measure => simp [intOf]; omega
end Go.Proofs.YtoabhfipikkkeaaGreatDoor

