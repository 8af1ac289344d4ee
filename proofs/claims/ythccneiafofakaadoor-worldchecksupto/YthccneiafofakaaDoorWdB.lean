/- Worlds: the numbers that are written. -/
import Derived.Test.YthccneiafofakaaDoorWdA
import Derived.Test.YthccneiafofakaaDoorAppR
import Derived.Test.YthccneiafofakaaDoorLitN
namespace Go.Proofs.YthccneiafofakaaDoor
open Go.RowKit
set_option linter.unusedVariables false

/-- up to which list they are there. -/
def nums1 (W : WV) : Nat → List Int
  | 0 => [W.turn, W.next, W.wide, W.high]
  | 1 => [W.turn, W.next, W.wide, W.high] ++ ((W.gs.length : Int) :: W.gs)
  | 2 => [W.turn, W.next, W.wide, W.high] ++ ((W.gs.length : Int) :: W.gs) ++ ((W.os.length : Int) :: W.os)
  | _ => [W.turn, W.next, W.wide, W.high] ++ ((W.gs.length : Int) :: W.gs) ++ ((W.os.length : Int) :: W.os) ++ ((W.gold.length : Int) :: W.gold)
def nums2 (W : WV) (k : Nat) : List Int := nums1 W 3 ++ ((W.us.length : Int) :: (W.us.take k).flatMap Wd.unums)
def nums3 (W : WV) (k : Nat) : List Int := nums2 W W.us.length ++ ((W.qs.length : Int) :: (W.qs.take k).flatMap Wd.jnums)
theorem nums3_all (W : WV) : nums3 W W.qs.length = Wd.nums W := by
  simp [nums3, nums2, nums1, Wd.nums]
structure WSmall (W : WV) : Prop where
  g : W.gs.length ≤ 1048576
  o : W.os.length ≤ 1048576
  p : W.gold.length ≤ 1048576
  u : W.us.length ≤ 1048576
  q : W.qs.length ≤ 1048576
theorem nums1_len {W : WV} (h : WSmall W) (k : Nat) : (nums1 W k).length ≤ 4000000 := by
  obtain ⟨h1, h2, h3, h4, h5⟩ := h
  match k with
  | 0 => simp [nums1]
  | 1 => simp [nums1]; omega
  | 2 => simp [nums1]; omega
  | _ + 3 => simp [nums1]; omega
theorem flat_len {α : Type} {f : α → List Int} {n : Nat} (hf : ∀ x, (f x).length = n) : ∀ l : List α, (l.flatMap f).length = n * l.length
  | [] => by simp
  | x :: l => by rw [List.flatMap_cons, List.length_append, flat_len hf l, hf, List.length_cons, Nat.mul_add]; omega
theorem nums2_len {W : WV} (h : WSmall W) (k : Nat) : (nums2 W k).length ≤ 13000000 := by
  have h1 := nums1_len h 3
  have h2 := h.u
  unfold nums2
  rw [List.length_append, List.length_cons, flat_len (n := 8) (fun x => rfl), List.length_take]
  omega
theorem nums3_len {W : WV} (h : WSmall W) (k : Nat) : (nums3 W k).length ≤ 18000000 := by
  have h1 := nums2_len h W.us.length
  have h2 := h.q
  unfold nums3
  rw [List.length_append, List.length_cons, flat_len (n := 4) (fun x => rfl), List.length_take]
  omega
theorem nums2_next {W : WV} {k : Nat} {u : UnV} (h : W.us[k]? = some u) : nums2 W (k + 1) = nums2 W k ++ Wd.unums u := by
  obtain ⟨hi, e⟩ := List.getElem?_eq_some_iff.1 h
  unfold nums2
  rw [List.take_succ_eq_append_getElem hi, List.flatMap_append, e]
  simp
theorem nums3_next {W : WV} {k : Nat} {u : JbV} (h : W.qs[k]? = some u) : nums3 W (k + 1) = nums3 W k ++ Wd.jnums u := by
  obtain ⟨hi, e⟩ := List.getElem?_eq_some_iff.1 h
  unfold nums3
  rw [List.take_succ_eq_append_getElem hi, List.flatMap_append, e]
  simp
theorem Bw.grown {w w' : World} {z : Nat} {W : WV} {u1 u2 u3 u4 u5 : Value} {row : Option Nat} (h : Bw w z W u1 u2 u3 u4 u5) (hg : w.grownBy w' row) (hr : ∀ k, row = some k → z < k) : Bw w' z W u1 u2 u3 u4 u5 :=
  h.below (n := z + 1) ((Below.refl _ _).grown hg h.lt (fun k hk => hr k hk)) (Nat.lt_succ_self _)
theorem cell_of_new {w : World} {z i : Nat} {cs : Array Value} {T : TypeId} {v : Value} (hz : w.heap.size = z) (hv : cs[i]? = some v) : (w.alloc (.cells cs T)).cell? ⟨z, i, none⟩ = some v := by
  subst hz
  simp only [World.cell?, heap_alloc_new]
  simpa using hv
/-- what is there as long as lists are written. -/
structure Nm1 (w : World) (W : WV) (u1 u2 u3 u4 u5 : Value) (zl : Nat) (lv : Value) (l : List Int) (W' : World) : Prop where
  o : Ow W' (w.heap.size + 2) lv l
  ne : lv.ownBlock ≠ some zl
  b : Bw W' w.heap.size W u1 u2 u3 u4 u5
  c0 : W'.cell? ⟨zl, 0, none⟩ = some u1
  c1 : W'.cell? ⟨zl, 1, none⟩ = some u2
  c2 : W'.cell? ⟨zl, 2, none⟩ = some u3
  bl : Below w.heap.size w W'
theorem Nm1.step {w : World} {W : WV} {u1 u2 u3 u4 u5 : Value} {zl : Nat} {lv lv' : Value} {l l' : List Int} {W' W'' X : World} (h : Nm1 w W u1 u2 u3 u4 u5 zl lv l W') (hX1 : Below W'.heap.size W' X) (hg : X.grownBy W'' lv.ownBlock) (ho : Ow W'' (w.heap.size + 2) lv' l') (hb : lv'.ownBlock = lv.ownBlock ∨ lv'.ownBlock = some X.heap.size) : Nm1 w W u1 u2 u3 u4 u5 zl lv' l' W'' := by
  have hzl : zl < W'.heap.size := cell_lt h.c0
  have hXs := hX1.size
  have hob : ∀ k, lv.ownBlock = some k → w.heap.size + 2 ≤ k := fun k hk => (h.o.block k hk).1
  have far : ∀ p : Addr, p.block < W'.heap.size → some p.block ≠ lv.ownBlock → W''.cell? p = W'.cell? p := fun p hp hne => by
    rw [hg.cell_far p (by omega) hne, hX1.cell hp]
  have lz := h.b.lt
  have bw : Below w.heap.size w W'' := (h.bl.trans (hX1.mono (by omega))).grown hg (by omega) (fun k hk => by have := hob k hk; omega)
  refine ⟨ho, ?_, (h.b.below hX1 h.b.lt).grown hg (fun k hk => by have := hob k hk; omega), ?_, ?_, ?_, bw⟩
  · rcases hb with hb | hb
    · rw [hb]; exact h.ne
    · rw [hb]; intro e; injection e with e; omega
  · rw [far ⟨zl, 0, none⟩ hzl (fun e => h.ne e.symm)]; exact h.c0
  · rw [far ⟨zl, 1, none⟩ hzl (fun e => h.ne e.symm)]; exact h.c1
  · rw [far ⟨zl, 2, none⟩ hzl (fun e => h.ne e.symm)]; exact h.c2
theorem own_is {v : Value} {g n cap z : Nat} (h : v.ownBlock = some g ∨ g = z) : (Value.slice (some ⟨g, 0, none⟩) n cap).ownBlock = v.ownBlock ∨ (Value.slice (some ⟨g, 0, none⟩) n cap).ownBlock = some z := by
  rcases h with h | h
  · exact .inl (by rw [h]; rfl)
  · exact .inr (by rw [h]; rfl)
theorem Wl.slices {w : World} {W : WV} {u1 u2 u3 u4 u5 : Value} (h : Wl w (.agg #[.int .i64 W.turn, .int .i64 W.next, .int .i64 W.wide, .int .i64 W.high, u1, u2, u3, u4, u5]) W) : Ro w u1 W.gs ∧ Ro w u2 W.os ∧ Ro w u3 W.gold ∧ Unl w u4 W.us ∧ Jbl w u5 W.qs := by
  obtain ⟨v1, v2, v3, v4, v5, ev, r⟩ := h
  simp only [Value.agg.injEq, Array.mk.injEq, List.cons.injEq, and_true, true_and] at ev
  obtain ⟨rfl, rfl, rfl, rfl, rfl⟩ := ev
  exact r
set_option maxRecDepth 100000 in
set_option maxHeartbeats 8000000 in
theorem numbers_any (v : Value) (W : WV) (w : World) (h : Wl w v W) (hs : WSmall W) :
    Calls Tryd.prog 61 #[v] w fun e w' => ∃ u, e = .returned u ∧ Ow w' (w.heap.size + 2) u (Wd.nums W) ∧ Below w.heap.size w w' := by
  have H : Hid (Wl w v W) := h
  have S : Hid (WSmall W) := hs
  obtain ⟨u1, u2, u3, u4, u5, rfl, h1, h2, h3, h4, h5⟩ := h
  obtain ⟨a1, k1, rfl, -⟩ := h1
  obtain ⟨a2, k2, rfl, -⟩ := h2
  obtain ⟨a3, k3, rfl, -⟩ := h3
  obtain ⟨a4, k4, rfl, -⟩ := h4
  obtain ⟨a5, k5, rfl, -⟩ := h5
  clear hs
  go_enter Tryd.func61, Tryd.ntmps61
  go_wp2
  have N0 : Hid (Nm1 w W (.slice a1 W.gs.length k1) (.slice a2 W.os.length k2) (.slice a3 W.gold.length k3) (.slice a4 W.us.length k4) (.slice a5 W.qs.length k5) (w.heap.size + 1 + 1 + 1) (.slice (some ⟨w.heap.size + 1 + 1, 0, none⟩) 4 4) (nums1 W 0) ((((w.alloc (Obj.cells #[.int .i64 W.turn, .int .i64 W.next, .int .i64 W.wide, .int .i64 W.high, .slice a1 W.gs.length k1, .slice a2 W.os.length k2, .slice a3 W.gold.length k3, .slice a4 W.us.length k4, .slice a5 W.qs.length k5] 49)).alloc (Obj.cells #[.int .i64 W.wide, .int .i64 W.high, .slice a1 W.gs.length k1, .slice a2 W.os.length k2] 45)).alloc (Obj.cells #[.int .i64 W.turn, .int .i64 W.next, .int .i64 W.wide, .int .i64 W.high] 3)).alloc (Obj.cells #[.slice a1 W.gs.length k1, .slice a2 W.os.length k2, .slice a3 W.gold.length k3] 43))) := by
    refine ⟨?_, by simp [Value.ownBlock], (Bw.mk' W _ _ _ _ _ rfl).below (n := w.heap.size + 1) ((((Below.refl _ _).alloc (by simp) _).alloc (by simp) _).alloc (by simp) _) (Nat.lt_succ_self _), cell_of_new (by simp) rfl, cell_of_new (by simp) rfl, cell_of_new (by simp) rfl, ?_⟩
    · refine World.ownsRow.alloc ?_ _
      have e : w.heap.size + 1 + 1 = ((w.alloc (Obj.cells #[.int .i64 W.turn, .int .i64 W.next, .int .i64 W.wide, .int .i64 W.high, .slice a1 W.gs.length k1, .slice a2 W.os.length k2, .slice a3 W.gold.length k3, .slice a4 W.us.length k4, .slice a5 W.qs.length k5] 49)).alloc (Obj.cells #[.int .i64 W.wide, .int .i64 W.high, .slice a1 W.gs.length k1, .slice a2 W.os.length k2] 45)).heap.size := by simp
      rw [e]
      exact World.ownsRow_lit _ _ 4 (by simp) (by unfold maxLen; omega) rfl
    · exact ((((Below.refl _ _).alloc (Nat.le_refl _) _).alloc (by simp) _).alloc (by simp; omega) _).alloc (by simp; omega) _
  generalize ((((w.alloc (Obj.cells #[.int .i64 W.turn, .int .i64 W.next, .int .i64 W.wide, .int .i64 W.high, .slice a1 W.gs.length k1, .slice a2 W.os.length k2, .slice a3 W.gold.length k3, .slice a4 W.us.length k4, .slice a5 W.qs.length k5] 49)).alloc (Obj.cells #[.int .i64 W.wide, .int .i64 W.high, .slice a1 W.gs.length k1, .slice a2 W.os.length k2] 45)).alloc (Obj.cells #[.int .i64 W.turn, .int .i64 W.next, .int .i64 W.wide, .int .i64 W.high] 3)).alloc (Obj.cells #[.slice a1 W.gs.length k1, .slice a2 W.os.length k2, .slice a3 W.gold.length k3] 43)) = w3 at *
  generalize hzl : w.heap.size + 1 + 1 + 1 = zl at *
  have HZ : Hid (w.heap.size + 3 = zl) := hzl
  clear hzl
  go_loopw [4, 30] (fun lv iv W' => ∃ k : Nat, k ≤ 3 ∧ iv = .int .i64 (k : Nat) ∧ Nm1 w W (.slice a1 W.gs.length k1) (.slice a2 W.os.length k2) (.slice a3 W.gold.length k3) (.slice a4 W.us.length k4) (.slice a5 W.qs.length k5) zl lv (nums1 W k) W') (fun _ iv _ => 3 - (intOf iv).toNat)
  case atStart => exact ⟨0, by omega, rfl, N0.out⟩
  case round =>
    obtain ⟨k, hk, rfl, hn⟩ := hrel
    have N : Hid (Nm1 w W (.slice a1 W.gs.length k1) (.slice a2 W.os.length k2) (.slice a3 W.gold.length k3) (.slice a4 W.us.length k4) (.slice a5 W.qs.length k5) zl u4 (nums1 W k) wr) := hn
    clear hn N0
    have SZ : Hid (w.heap.size + 2 ≤ wr.heap.size) := by
      unfold Hid
      have h1 := HZ.out
      have h2 := cell_lt N.out.c0
      simp only at h2
      omega
    by_cases hk3 : k = 3
    · subst hk3
      have c7 := N.out.b.c7
      clear hk
      go_wp2_with (at_builtin; refine app_int _ rfl _ _ rfl (w.heap.size + 2) _ (nums1 W 3) rfl (N.out.o.alloc _) ⟨wr.heap.size, 0, none⟩ (W.us.length : Nat) rfl (by simp) (by have := nums1_len S.out 3; omega) (by have := SZ.out; simp; omega) ?_)
      intro g cap w5 o5 g5 q5 l5
      have N5 : Hid (Nm1 w W (.slice a1 W.gs.length k1) (.slice a2 W.os.length k2) (.slice a3 W.gold.length k3) (.slice a4 W.us.length k4) (.slice a5 W.qs.length k5) zl (.slice (some ⟨g, 0, none⟩) ((nums1 W 3).length + 1) cap) (nums2 W 0) w5) := N.out.step ((Below.refl _ _).alloc (Nat.le_refl _) _) g5 o5 (own_is (by simpa using q5))
      clear o5 g5 q5 l5 c7 N SZ
      have c7 := N5.out.b.c7
      go_wp2
      clear c7
      go_loopw [4, 52] (fun lv iv W' => ∃ k : Nat, k ≤ W.us.length ∧ iv = .int .i64 (k : Nat) ∧ Nm1 w W (.slice a1 W.gs.length k1) (.slice a2 W.os.length k2) (.slice a3 W.gold.length k3) (.slice a4 W.us.length k4) (.slice a5 W.qs.length k5) zl lv (nums2 W k) W') (fun _ iv _ => W.us.length - (intOf iv).toNat)
      case atStart => exact ⟨0, Nat.zero_le _, rfl, N5.out⟩
      case round =>
        obtain ⟨k, hk, rfl, hn⟩ := hrel
        have N : Hid (Nm1 w W (.slice a1 W.gs.length k1) (.slice a2 W.os.length k2) (.slice a3 W.gold.length k3) (.slice a4 W.us.length k4) (.slice a5 W.qs.length k5) zl u4 (nums2 W k) wr) := hn
        have SZ : Hid (w.heap.size + 2 ≤ wr.heap.size) := by
          unfold Hid
          have h1 := HZ.out
          have h2 := cell_lt N.out.c0
          simp only at h2
          omega
        clear hn N5
        by_cases hkl : k = W.us.length
        · have hki : (k : Int) = (W.us.length : Int) := by omega
          have ho := N.out.o
          rw [hkl] at ho
          have N' : Hid (Nm1 w W (.slice a1 W.gs.length k1) (.slice a2 W.os.length k2) (.slice a3 W.gold.length k3) (.slice a4 W.us.length k4) (.slice a5 W.qs.length k5) zl u4 (nums2 W W.us.length) wr) := by have := N.out; rwa [hkl] at this
          subst hkl
          have c8 := N'.out.b.c8
          clear hk ho hki
          go_wp2_with (at_builtin; refine app_int _ rfl _ _ rfl (w.heap.size + 2) _ (nums2 W W.us.length) rfl (N'.out.o.alloc _) ⟨wr.heap.size, 0, none⟩ (W.qs.length : Nat) rfl (by simp) (by have := nums2_len S.out W.us.length; omega) (by have := SZ.out; simp; omega) ?_)
          intro g cap w5 o5 g5 q5 l5
          have N5 : Hid (Nm1 w W (.slice a1 W.gs.length k1) (.slice a2 W.os.length k2) (.slice a3 W.gold.length k3) (.slice a4 W.us.length k4) (.slice a5 W.qs.length k5) zl (.slice (some ⟨g, 0, none⟩) ((nums2 W W.us.length).length + 1) cap) (nums3 W 0) w5) := N'.out.step ((Below.refl _ _).alloc (Nat.le_refl _) _) g5 o5 (own_is (by simpa using q5))
          clear o5 g5 q5 l5 c8 N N' SZ
          have c8 := N5.out.b.c8
          go_wp2
          clear c8
          go_loopw [4, 85] (fun lv iv W' => ∃ k : Nat, k ≤ W.qs.length ∧ iv = .int .i64 (k : Nat) ∧ Nm1 w W (.slice a1 W.gs.length k1) (.slice a2 W.os.length k2) (.slice a3 W.gold.length k3) (.slice a4 W.us.length k4) (.slice a5 W.qs.length k5) zl lv (nums3 W k) W') (fun _ iv _ => W.qs.length - (intOf iv).toNat)
          case atStart => exact ⟨0, Nat.zero_le _, rfl, N5.out⟩
          case round =>
            obtain ⟨k, hk, rfl, hn⟩ := hrel
            have N : Hid (Nm1 w W (.slice a1 W.gs.length k1) (.slice a2 W.os.length k2) (.slice a3 W.gold.length k3) (.slice a4 W.us.length k4) (.slice a5 W.qs.length k5) zl u4 (nums3 W k) wr) := hn
            have SZ : Hid (w.heap.size + 2 ≤ wr.heap.size) := by
              unfold Hid
              have h1 := HZ.out
              have h2 := cell_lt N.out.c0
              simp only at h2
              omega
            clear hn N5
            by_cases hkl : k = W.qs.length
            · subst hkl
              clear hk
              go_wp2
              go_ret
              exact ⟨_, rfl, by have := N.out.o; rwa [nums3_all] at this, N.out.bl⟩
            · have hlt : k < W.qs.length := by omega
              have hli : (k : Int) < (W.qs.length : Int) := by omega
              have hq : W.qs.length ≤ 1048576 := S.out.q
              obtain ⟨j, hj⟩ : ∃ j, W.qs[k]? = some j := ⟨_, List.getElem?_eq_getElem hlt⟩
              obtain ⟨-, -, -, -, b, c, e, -, -, hc⟩ := (H.out.below N.out.bl).slices
              injection e with e1 e2 e3
              subst e1 e3
              obtain ⟨x, rfl, hx, hcell⟩ := hc (by intro e; rw [e] at hlt; simp at hlt)
              obtain ⟨d0, d1, d2, d3⟩ := hcell k j hj
              have NX : Hid (nums3 W (k + 1) = nums3 W k ++ Wd.jnums j) := nums3_next hj
              clear hc hcell hx hj hkl
              go_wp2_with (at_builtin; refine app_row _ rfl _ _ rfl (w.heap.size + 2) _ (nums3 W k) rfl ((N.out.o.alloc _).alloc _) _ (Wd.jnums j) rfl (Ro.lit (Wd.jnums j) _ rfl (by simp [Wd.jnums]) (by simp)) (by have := nums3_len S.out k; simp [Wd.jnums]; omega) (by have := SZ.out; simp; omega) ?_)
              intro v6 w6 o6 g6 q6
              have N6 : Hid (Nm1 w W _ _ _ _ _ zl v6 (nums3 W (k + 1)) w6) := N.out.step (((Below.refl _ _).alloc (Nat.le_refl _) _).alloc (by simp) _) g6 (by rw [NX.out]; exact o6) (by simpa using q6)
              clear o6 g6 q6
              go_wp2
              go_roundw
              case rel => exact ⟨k + 1, by omega, rfl, N6.out⟩
              case measure => simp [intOf]; omega
        · have hlt : k < W.us.length := by omega
          have hli : (k : Int) < (W.us.length : Int) := by omega
          have hq : W.us.length ≤ 1048576 := S.out.u
          obtain ⟨j, hj⟩ : ∃ j, W.us[k]? = some j := ⟨_, List.getElem?_eq_getElem hlt⟩
          obtain ⟨-, -, -, ⟨b, c, e, -, -, hc⟩, -⟩ := (H.out.below N.out.bl).slices
          injection e with e1 e2 e3
          subst e1 e3
          obtain ⟨x, rfl, hx, hcell⟩ := hc (by intro e; rw [e] at hlt; simp at hlt)
          obtain ⟨d0, d1, d2, d3, d4, d5, d6, d7⟩ := hcell k j hj
          have NX : Hid (nums2 W (k + 1) = nums2 W k ++ Wd.unums j) := nums2_next hj
          clear hc hcell hx hj hkl
          go_wp2_with (at_builtin; refine app_row _ rfl _ _ rfl (w.heap.size + 2) _ (nums2 W k) rfl ((N.out.o.alloc _).alloc _) _ (Wd.unums j) rfl (Ro.lit (Wd.unums j) _ rfl (by simp [Wd.unums]) (by simp)) (by have := nums2_len S.out k; simp [Wd.unums]; omega) (by have := SZ.out; simp; omega) ?_)
          intro v6 w6 o6 g6 q6
          have N6 : Hid (Nm1 w W _ _ _ _ _ zl v6 (nums2 W (k + 1)) w6) := N.out.step (((Below.refl _ _).alloc (Nat.le_refl _) _).alloc (by simp) _) g6 (by rw [NX.out]; exact o6) (by simpa using q6)
          clear o6 g6 q6
          go_wp2
          go_roundw
          case rel => exact ⟨k + 1, by omega, rfl, N6.out⟩
          case measure => simp [intOf]; omega
    · have hk' : k = 0 ∨ k = 1 ∨ k = 2 := by omega
      clear hk hk3
      rcases hk' with rfl | rfl | rfl
      · have ck := N.out.c0
        go_wp2_with (at_builtin; refine app_int _ rfl _ _ rfl (w.heap.size + 2) _ (nums1 W 0) rfl (N.out.o.alloc _) ⟨wr.heap.size, 0, none⟩ (W.gs.length : Nat) rfl (by simp) (by have := nums1_len S.out 0; omega) (by have := SZ.out; simp; omega) ?_)
        intro g cap w5 o5 g5 q5 l5
        obtain ⟨L, hL⟩ : ∃ L, nums1 W 0 ++ [(W.gs.length : Int)] = L := ⟨_, rfl⟩
        rw [hL] at o5
        have N5 : Hid (Nm1 w W (.slice a1 W.gs.length k1) (.slice a2 W.os.length k2) (.slice a3 W.gold.length k3) (.slice a4 W.us.length k4) (.slice a5 W.qs.length k5) zl (.slice (some ⟨g, 0, none⟩) ((nums1 W 0).length + 1) cap) L w5) := N.out.step ((Below.refl _ _).alloc (Nat.le_refl _) _) g5 o5 (own_is (by simpa using q5))
        have S5 : Hid (w.heap.size + 2 ≤ w5.heap.size) := by have := SZ.out; have := g5.size; simp at this; unfold Hid; omega
        have R5 : Hid (Ro w5 (.slice a1 W.gs.length k1) W.gs) := (H.out.below N5.out.bl).slices.1
        have HL : Hid (L ++ W.gs = nums1 W 1 ∧ L.length ≤ 5000000) := ⟨by rw [← hL]; simp [nums1], by have := nums1_len S.out 0; rw [← hL, List.length_append]; simp; omega⟩
        clear o5 g5 q5 l5 hL ck
        go_wp2_with (at_builtin; refine app_row _ rfl _ _ rfl (w.heap.size + 2) _ L rfl N5.out.o _ W.gs rfl R5.out (by have := HL.out.2; have := S.out.g; omega) (by have := S5.out; omega) ?_)
        intro v6 w6 o6 g6 q6
        have N6 : Hid (Nm1 w W _ _ _ _ _ zl v6 (nums1 W 1) w6) := N5.out.step (Below.refl _ _) g6 (by rw [← HL.out.1]; exact o6) q6
        clear o6 g6 q6
        go_wp2
        go_roundw
        case rel => exact ⟨1, by omega, rfl, N6.out⟩
        case measure => simp [intOf]
      · have ck := N.out.c1
        go_wp2_with (at_builtin; refine app_int _ rfl _ _ rfl (w.heap.size + 2) _ (nums1 W 1) rfl (N.out.o.alloc _) ⟨wr.heap.size, 0, none⟩ (W.os.length : Nat) rfl (by simp) (by have := nums1_len S.out 1; omega) (by have := SZ.out; simp; omega) ?_)
        intro g cap w5 o5 g5 q5 l5
        obtain ⟨L, hL⟩ : ∃ L, nums1 W 1 ++ [(W.os.length : Int)] = L := ⟨_, rfl⟩
        rw [hL] at o5
        have N5 : Hid (Nm1 w W (.slice a1 W.gs.length k1) (.slice a2 W.os.length k2) (.slice a3 W.gold.length k3) (.slice a4 W.us.length k4) (.slice a5 W.qs.length k5) zl (.slice (some ⟨g, 0, none⟩) ((nums1 W 1).length + 1) cap) L w5) := N.out.step ((Below.refl _ _).alloc (Nat.le_refl _) _) g5 o5 (own_is (by simpa using q5))
        have S5 : Hid (w.heap.size + 2 ≤ w5.heap.size) := by have := SZ.out; have := g5.size; simp at this; unfold Hid; omega
        have R5 : Hid (Ro w5 (.slice a2 W.os.length k2) W.os) := (H.out.below N5.out.bl).slices.2.1
        have HL : Hid (L ++ W.os = nums1 W 2 ∧ L.length ≤ 5000000) := ⟨by rw [← hL]; simp [nums1], by have := nums1_len S.out 1; rw [← hL, List.length_append]; simp; omega⟩
        clear o5 g5 q5 l5 hL ck
        go_wp2_with (at_builtin; refine app_row _ rfl _ _ rfl (w.heap.size + 2) _ L rfl N5.out.o _ W.os rfl R5.out (by have := HL.out.2; have := S.out.o; omega) (by have := S5.out; omega) ?_)
        intro v6 w6 o6 g6 q6
        have N6 : Hid (Nm1 w W _ _ _ _ _ zl v6 (nums1 W 2) w6) := N5.out.step (Below.refl _ _) g6 (by rw [← HL.out.1]; exact o6) q6
        clear o6 g6 q6
        go_wp2
        go_roundw
        case rel => exact ⟨2, by omega, rfl, N6.out⟩
        case measure => simp [intOf]
      · have ck := N.out.c2
        go_wp2_with (at_builtin; refine app_int _ rfl _ _ rfl (w.heap.size + 2) _ (nums1 W 2) rfl (N.out.o.alloc _) ⟨wr.heap.size, 0, none⟩ (W.gold.length : Nat) rfl (by simp) (by have := nums1_len S.out 2; omega) (by have := SZ.out; simp; omega) ?_)
        intro g cap w5 o5 g5 q5 l5
        obtain ⟨L, hL⟩ : ∃ L, nums1 W 2 ++ [(W.gold.length : Int)] = L := ⟨_, rfl⟩
        rw [hL] at o5
        have N5 : Hid (Nm1 w W (.slice a1 W.gs.length k1) (.slice a2 W.os.length k2) (.slice a3 W.gold.length k3) (.slice a4 W.us.length k4) (.slice a5 W.qs.length k5) zl (.slice (some ⟨g, 0, none⟩) ((nums1 W 2).length + 1) cap) L w5) := N.out.step ((Below.refl _ _).alloc (Nat.le_refl _) _) g5 o5 (own_is (by simpa using q5))
        have S5 : Hid (w.heap.size + 2 ≤ w5.heap.size) := by have := SZ.out; have := g5.size; simp at this; unfold Hid; omega
        have R5 : Hid (Ro w5 (.slice a3 W.gold.length k3) W.gold) := (H.out.below N5.out.bl).slices.2.2.1
        have HL : Hid (L ++ W.gold = nums1 W 3 ∧ L.length ≤ 5000000) := ⟨by rw [← hL]; simp [nums1], by have := nums1_len S.out 2; rw [← hL, List.length_append]; simp; omega⟩
        clear o5 g5 q5 l5 hL ck
        go_wp2_with (at_builtin; refine app_row _ rfl _ _ rfl (w.heap.size + 2) _ L rfl N5.out.o _ W.gold rfl R5.out (by have := HL.out.2; have := S.out.p; omega) (by have := S5.out; omega) ?_)
        intro v6 w6 o6 g6 q6
        have N6 : Hid (Nm1 w W _ _ _ _ _ zl v6 (nums1 W 3) w6) := N5.out.step (Below.refl _ _) g6 (by rw [← HL.out.1]; exact o6) q6
        clear o6 g6 q6
        go_wp2
        go_roundw
        case rel => exact ⟨3, by omega, rfl, N6.out⟩
        case measure => simp [intOf]
end Go.Proofs.YthccneiafofakaaDoor
