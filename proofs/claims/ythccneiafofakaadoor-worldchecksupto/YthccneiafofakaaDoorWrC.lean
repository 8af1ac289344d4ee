/- The reference: Encode. -/
import Derived.Test.YthccneiafofakaaDoorWrB
import Derived.Test.YthccneiafofakaaDoorWdB
import Derived.Test.YthccneiafofakaaDoorWdE
import Derived.Deep.DeepCutAuto
namespace Go.Proofs.YthccneiafofakaaDoor
open Go.RowKit
set_option linter.unusedVariables false

/-- what is there while a world is written: the bytes L so far. -/
structure Ei (w w1 : World) (W : WV) (u1 u2 u3 u4 u5 : Value) (bv : Value) (L : List UInt8) (V : World) : Prop where
  o : Ob V (w.heap.size + 1) bv L
  bl : Below (w.heap.size + 1) w1 V
  s : w.heap.size + 1 ≤ V.heap.size
  b : Bw V w.heap.size W u1 u2 u3 u4 u5
theorem Ei.step {w w1 : World} {W : WV} {u1 u2 u3 u4 u5 bv bv' : Value} {L L' : List UInt8} {V V' : World} (h : Ei w w1 W u1 u2 u3 u4 u5 bv L V) (g : Gb V bv V' bv') (o : Ob V' (w.heap.size + 1) bv' L') : Ei w w1 W u1 u2 u3 u4 u5 bv' L' V' := by
  have k : Below (w.heap.size + 1) V V' := g.below h.s (fun b hb => (h.o.block b hb).1)
  exact ⟨o, h.bl.trans k, Nat.le_trans h.s k.size, h.b.below k (Nat.lt_succ_self _)⟩
theorem Ei.stays {w w1 : World} {W : WV} {u1 u2 u3 u4 u5 bv : Value} {L : List UInt8} {V V' : World} (h : Ei w w1 W u1 u2 u3 u4 u5 bv L V) (k : Below V.heap.size V V') : Ei w w1 W u1 u2 u3 u4 u5 bv L V' :=
  ⟨World.ownsRow.kept h.o (row := none) ⟨k.os, k.tape, k.output, k.size, fun i hi _ => k.block i hi⟩ (by cases bv.ownBlock <;> simp), h.bl.trans (k.mono h.s), Nat.le_trans h.s k.size, h.b.below k h.b.lt⟩
theorem mem_nums {W : WV} {n : Int} : n ∈ Wd.nums W ↔ n = W.turn ∨ n = W.next ∨ n = W.wide ∨ n = W.high ∨ n = W.gs.length ∨ n ∈ W.gs ∨ n = W.os.length ∨ n ∈ W.os ∨ n = W.gold.length ∨ n ∈ W.gold ∨ n = W.us.length ∨ n ∈ W.us.flatMap Wd.unums ∨ n = W.qs.length ∨ n ∈ W.qs.flatMap Wd.jnums := by simp [Wd.nums]
theorem pre_len {xs : List Int} (h : ∀ n ∈ xs, Wd.In64 n) {m : Nat} (hm : xs.length ≤ m) : (Wd.wr xs).length ≤ 10 * m := by
  have := wr_len h
  omega
theorem in_nums1 {W : WV} (h : ∀ n ∈ Wd.nums W, Wd.In64 n) (k : Nat) : ∀ n ∈ nums1 W k, Wd.In64 n := by
  intro n hn
  refine h n (mem_nums.2 ?_)
  match k with
  | 0 => simp [nums1] at hn; omega
  | 1 => simp [nums1] at hn; rcases hn with h | h | h | h | h | h <;> simp [h]
  | 2 => simp [nums1] at hn; rcases hn with h | h | h | h | h | h | h | h <;> simp [h]
  | _ + 3 => simp [nums1] at hn; rcases hn with h | h | h | h | h | h | h | h | h | h <;> simp [h]
theorem in_nums2 {W : WV} (h : ∀ n ∈ Wd.nums W, Wd.In64 n) (k : Nat) : ∀ n ∈ nums2 W k, Wd.In64 n := by
  intro n hn
  unfold nums2 at hn
  rcases List.mem_append.1 hn with hn | hn
  · exact in_nums1 h 3 n hn
  · refine h n (mem_nums.2 ?_)
    rcases List.mem_cons.1 hn with hn | hn
    · simp [hn]
    · obtain ⟨u, hu, hn⟩ := List.mem_flatMap.1 hn
      have : n ∈ W.us.flatMap Wd.unums := List.mem_flatMap.2 ⟨u, List.mem_of_mem_take hu, hn⟩
      simp only [this, true_or, or_true]
theorem in_nums3 {W : WV} (h : ∀ n ∈ Wd.nums W, Wd.In64 n) (k : Nat) : ∀ n ∈ nums3 W k, Wd.In64 n := by
  intro n hn
  unfold nums3 at hn
  rcases List.mem_append.1 hn with hn | hn
  · exact in_nums2 h W.us.length n hn
  · refine h n (mem_nums.2 ?_)
    rcases List.mem_cons.1 hn with hn | hn
    · simp [hn]
    · obtain ⟨u, hu, hn⟩ := List.mem_flatMap.1 hn
      have : n ∈ W.qs.flatMap Wd.jnums := List.mem_flatMap.2 ⟨u, List.mem_of_mem_take hu, hn⟩
      simp only [this, or_true]
set_option maxRecDepth 100000 in
set_option maxHeartbeats 16000000 in
theorem rencode_any (v : Value) (W : WV) (w : World) (h : Wl w v W) (hs : WSmall W) (hi : ∀ n ∈ Wd.nums W, Wd.In64 n) :
    Calls Tryd.prog 28 #[v] w fun e w' => ∃ u, e = .returned u ∧ Ob w' w.heap.size u (Wd.enc W) ∧ Below w.heap.size w w' := by
  have H : Hid (Wl w v W) := h
  have S : Hid (WSmall W) := hs
  have HI : Hid (∀ n ∈ Wd.nums W, Wd.In64 n) := hi
  obtain ⟨u1, u2, u3, u4, u5, rfl, h1, h2, h3, h4, h5⟩ := h
  obtain ⟨a1, k1, rfl, -⟩ := h1
  obtain ⟨a2, k2, rfl, -⟩ := h2
  obtain ⟨a3, k3, rfl, -⟩ := h3
  obtain ⟨a4, k4, rfl, -⟩ := h4
  obtain ⟨a5, k5, rfl, -⟩ := h5
  clear hs hi
  go_enter Tryd.func28, Tryd.ntmps28
  go_upto_region 1 with fail
  have B0 : Hid (Below w.heap.size w (w.alloc (Obj.cells #[.int .i64 W.turn, .int .i64 W.next, .int .i64 W.wide, .int .i64 W.high, .slice a1 W.gs.length k1, .slice a2 W.os.length k2, .slice a3 W.gold.length k3, .slice a4 W.us.length k4, .slice a5 W.qs.length k5] 49))) := (Below.refl _ _).alloc (Nat.le_refl _) _
  have E0 : Hid (Ei w (w.alloc (Obj.cells #[.int .i64 W.turn, .int .i64 W.next, .int .i64 W.wide, .int .i64 W.high, .slice a1 W.gs.length k1, .slice a2 W.os.length k2, .slice a3 W.gold.length k3, .slice a4 W.us.length k4, .slice a5 W.qs.length k5] 49)) W (.slice a1 W.gs.length k1) (.slice a2 W.os.length k2) (.slice a3 W.gold.length k3) (.slice a4 W.us.length k4) (.slice a5 W.qs.length k5) (.slice none 0 0) [] (w.alloc (Obj.cells #[.int .i64 W.turn, .int .i64 W.next, .int .i64 W.wide, .int .i64 W.high, .slice a1 W.gs.length k1, .slice a2 W.os.length k2, .slice a3 W.gold.length k3, .slice a4 W.us.length k4, .slice a5 W.qs.length k5] 49))) := ⟨Ob.nil _ _, Below.refl _ _, by simp, Bw.mk' W _ _ _ _ _ rfl⟩
  generalize w.alloc (Obj.cells #[.int .i64 W.turn, .int .i64 W.next, .int .i64 W.wide, .int .i64 W.high, .slice a1 W.gs.length k1, .slice a2 W.os.length k2, .slice a3 W.gold.length k3, .slice a4 W.us.length k4, .slice a5 W.qs.length k5] 49) = w1 at *
  have WL : Hid (∀ V, Below (w.heap.size + 1) w1 V → Below w.heap.size w V) := fun V hV => B0.out.trans (hV.mono (by omega))
  have ck := E0.out.b.c0
  go_wp2_with fail
  refine (rnumb_any (w.heap.size + 1) _ [] W.turn _ E0.out.o E0.out.s (by simp) (HI.out _ (mem_nums.2 (by simp)))).mono ?_
  rintro e x0 ⟨b0, rfl, ho, hg⟩
  have E1 : Hid (Ei w w1 W (.slice a1 W.gs.length k1) (.slice a2 W.os.length k2) (.slice a3 W.gold.length k3) (.slice a4 W.us.length k4) (.slice a5 W.qs.length k5) b0 (Wd.wr [W.turn]) x0) := E0.out.step hg (by have := ho; rw [List.nil_append, ← Wd.wr_one] at this; exact this)
  clear ho hg ck E0
  have ck := E1.out.b.c1
  go_wp2_with fail
  refine (rnumb_any (w.heap.size + 1) _ (Wd.wr [W.turn]) W.next _ E1.out.o E1.out.s (by have := pre_len (xs := [W.turn]) (m := 4) (fun n hn => HI.out n (mem_nums.2 (by simp at hn; simp [hn]))) (by simp); omega) (HI.out _ (mem_nums.2 (by simp)))).mono ?_
  rintro e x1 ⟨b1, rfl, ho, hg⟩
  have E2 : Hid (Ei w w1 W (.slice a1 W.gs.length k1) (.slice a2 W.os.length k2) (.slice a3 W.gold.length k3) (.slice a4 W.us.length k4) (.slice a5 W.qs.length k5) b1 (Wd.wr [W.turn, W.next]) x1) := E1.out.step hg (by have := ho; rw [← Wd.wr_one, ← Wd.wr_append] at this; exact this)
  clear ho hg ck E1
  have ck := E2.out.b.c2
  go_wp2_with fail
  refine (rnumb_any (w.heap.size + 1) _ (Wd.wr [W.turn, W.next]) W.wide _ E2.out.o E2.out.s (by have := pre_len (xs := [W.turn, W.next]) (m := 4) (fun n hn => HI.out n (mem_nums.2 (by simp at hn; simp <;> omega))) (by simp); omega) (HI.out _ (mem_nums.2 (by simp)))).mono ?_
  rintro e x2 ⟨b2, rfl, ho, hg⟩
  have E3 : Hid (Ei w w1 W (.slice a1 W.gs.length k1) (.slice a2 W.os.length k2) (.slice a3 W.gold.length k3) (.slice a4 W.us.length k4) (.slice a5 W.qs.length k5) b2 (Wd.wr [W.turn, W.next, W.wide]) x2) := E2.out.step hg (by have := ho; rw [← Wd.wr_one, ← Wd.wr_append] at this; exact this)
  clear ho hg ck E2
  have ck := E3.out.b.c3
  go_wp2_with fail
  refine (rnumb_any (w.heap.size + 1) _ (Wd.wr [W.turn, W.next, W.wide]) W.high _ E3.out.o E3.out.s (by have := pre_len (xs := [W.turn, W.next, W.wide]) (m := 4) (fun n hn => HI.out n (mem_nums.2 (by simp at hn; simp <;> omega))) (by simp); omega) (HI.out _ (mem_nums.2 (by simp)))).mono ?_
  rintro e x3 ⟨b3, rfl, ho, hg⟩
  have E4 : Hid (Ei w w1 W (.slice a1 W.gs.length k1) (.slice a2 W.os.length k2) (.slice a3 W.gold.length k3) (.slice a4 W.us.length k4) (.slice a5 W.qs.length k5) b3 (Wd.wr [W.turn, W.next, W.wide, W.high]) x3) := E3.out.step hg (by have := ho; rw [← Wd.wr_one, ← Wd.wr_append] at this; exact this)
  clear ho hg ck E3
  have ck := E4.out.b.c4
  go_wp2_with fail
  refine (rnums_any (w.heap.size + 1) _ (.slice a1 W.gs.length k1) (Wd.wr (nums1 W 0)) W.gs _ w E4.out.o E4.out.s (by have h1 := pre_len (in_nums1 HI.out 0) (nums1_len S.out 0); have h2 := S.out.g; omega) (fun n hn => HI.out n (mem_nums.2 (by simp [hn]))) H.out.slices.1 (by omega) (WL.out _ E4.out.bl)).mono ?_
  rintro e x4 ⟨b4, rfl, ho, hg⟩
  have E5 : Hid (Ei w w1 W (.slice a1 W.gs.length k1) (.slice a2 W.os.length k2) (.slice a3 W.gold.length k3) (.slice a4 W.us.length k4) (.slice a5 W.qs.length k5) b4 (Wd.wr (nums1 W 1)) x4) := E4.out.step hg (by have := ho; rw [← Wd.wr_append] at this; exact this)
  clear ho hg ck E4
  have ck := E5.out.b.c5
  go_wp2_with fail
  refine (rnums_any (w.heap.size + 1) _ (.slice a2 W.os.length k2) (Wd.wr (nums1 W 1)) W.os _ w E5.out.o E5.out.s (by have h1 := pre_len (in_nums1 HI.out 1) (nums1_len S.out 1); have h2 := S.out.o; omega) (fun n hn => HI.out n (mem_nums.2 (by simp [hn]))) H.out.slices.2.1 (by omega) (WL.out _ E5.out.bl)).mono ?_
  rintro e x5 ⟨b5, rfl, ho, hg⟩
  have E6 : Hid (Ei w w1 W (.slice a1 W.gs.length k1) (.slice a2 W.os.length k2) (.slice a3 W.gold.length k3) (.slice a4 W.us.length k4) (.slice a5 W.qs.length k5) b5 (Wd.wr (nums1 W 2)) x5) := E5.out.step hg (by have := ho; rw [← Wd.wr_append] at this; exact this)
  clear ho hg ck E5
  have ck := E6.out.b.c6
  go_wp2_with fail
  refine (rnums_any (w.heap.size + 1) _ (.slice a3 W.gold.length k3) (Wd.wr (nums1 W 2)) W.gold _ w E6.out.o E6.out.s (by have h1 := pre_len (in_nums1 HI.out 2) (nums1_len S.out 2); have h2 := S.out.p; omega) (fun n hn => HI.out n (mem_nums.2 (by simp [hn]))) H.out.slices.2.2.1 (by omega) (WL.out _ E6.out.bl)).mono ?_
  rintro e x6 ⟨b6, rfl, ho, hg⟩
  have E7 : Hid (Ei w w1 W (.slice a1 W.gs.length k1) (.slice a2 W.os.length k2) (.slice a3 W.gold.length k3) (.slice a4 W.us.length k4) (.slice a5 W.qs.length k5) b6 (Wd.wr (nums1 W 3)) x6) := E6.out.step hg (by have := ho; rw [← Wd.wr_append] at this; exact this)
  clear ho hg ck E6
  have ck := E7.out.b.c7
  go_wp2_with fail
  refine (rnumb_any (w.heap.size + 1) _ (Wd.wr (nums1 W 3)) (W.us.length : Int) _ E7.out.o E7.out.s (by have h1 := pre_len (in_nums1 HI.out 3) (nums1_len S.out 3); omega) (HI.out _ (mem_nums.2 (by simp)))).mono ?_
  rintro e x7 ⟨b7, rfl, ho, hg⟩
  have E8 : Hid (Ei w w1 W (.slice a1 W.gs.length k1) (.slice a2 W.os.length k2) (.slice a3 W.gold.length k3) (.slice a4 W.us.length k4) (.slice a5 W.qs.length k5) b7 (Wd.wr (nums2 W 0)) x7) := E7.out.step hg (by have := ho; rw [← Wd.wr_one, ← Wd.wr_append] at this; exact this)
  clear ho hg ck E7
  go_wp2
  go_loopw [3, 4] (fun bv iv V => ∃ k : Nat, k ≤ W.us.length ∧ iv = .int .i64 (k : Nat) ∧ Ei w w1 W (.slice a1 W.gs.length k1) (.slice a2 W.os.length k2) (.slice a3 W.gold.length k3) (.slice a4 W.us.length k4) (.slice a5 W.qs.length k5) bv (Wd.wr (nums2 W k)) V) (fun _ iv _ => W.us.length - (intOf iv).toNat)
  case atStart => exact ⟨0, Nat.zero_le _, rfl, E8.out⟩
  case round =>
    obtain ⟨k, hk, rfl, hE⟩ := hrel
    have E : Hid (Ei w w1 W (.slice a1 W.gs.length k1) (.slice a2 W.os.length k2) (.slice a3 W.gold.length k3) (.slice a4 W.us.length k4) (.slice a5 W.qs.length k5) u3 (Wd.wr (nums2 W k)) wr) := hE
    clear hE E8
    have c7 := E.out.b.c7
    by_cases hkl : k = W.us.length
    · have E' : Hid (Ei w w1 W (.slice a1 W.gs.length k1) (.slice a2 W.os.length k2) (.slice a3 W.gold.length k3) (.slice a4 W.us.length k4) (.slice a5 W.qs.length k5) u3 (Wd.wr (nums2 W W.us.length)) wr) := by have := E.out; rwa [hkl] at this
      subst hkl
      clear hk E
      have c8 := E'.out.b.c8
      go_wp2_with fail
      refine (rnumb_any (w.heap.size + 1) _ (Wd.wr (nums2 W W.us.length)) (W.qs.length : Int) _ E'.out.o E'.out.s (by have h1 := pre_len (in_nums2 HI.out W.us.length) (nums2_len S.out W.us.length); omega) (HI.out _ (mem_nums.2 (by simp)))).mono ?_
      rintro e x8 ⟨b8, rfl, ho, hg⟩
      have E9 : Hid (Ei w w1 W (.slice a1 W.gs.length k1) (.slice a2 W.os.length k2) (.slice a3 W.gold.length k3) (.slice a4 W.us.length k4) (.slice a5 W.qs.length k5) b8 (Wd.wr (nums3 W 0)) x8) := E'.out.step hg (by have := ho; rw [← Wd.wr_one, ← Wd.wr_append] at this; exact this)
      clear ho hg c7 c8 E'
      go_wp2
      go_loopw [3, 8] (fun bv iv V => ∃ k : Nat, k ≤ W.qs.length ∧ iv = .int .i64 (k : Nat) ∧ Ei w w1 W (.slice a1 W.gs.length k1) (.slice a2 W.os.length k2) (.slice a3 W.gold.length k3) (.slice a4 W.us.length k4) (.slice a5 W.qs.length k5) bv (Wd.wr (nums3 W k)) V) (fun _ iv _ => W.qs.length - (intOf iv).toNat)
      case atStart => exact ⟨0, Nat.zero_le _, rfl, E9.out⟩
      case round =>
        obtain ⟨k, hk, rfl, hE⟩ := hrel
        have E : Hid (Ei w w1 W (.slice a1 W.gs.length k1) (.slice a2 W.os.length k2) (.slice a3 W.gold.length k3) (.slice a4 W.us.length k4) (.slice a5 W.qs.length k5) u3 (Wd.wr (nums3 W k)) wr) := hE
        clear hE E9
        have c8 := E.out.b.c8
        by_cases hkl : k = W.qs.length
        · subst hkl
          clear hk
          go_wp2
          go_ret
          refine ⟨_, rfl, ?_, WL.out _ E.out.bl⟩
          have h1 := E.out.o
          rw [nums3_all] at h1
          refine ⟨h1.1, ?_⟩
          rcases h1.2 with h2 | ⟨g, cap, cur, h2, h3, h4⟩
          · exact .inl h2
          · exact .inr ⟨g, cap, cur, h2, by omega, h4⟩
        · have hlt : k < W.qs.length := by omega
          have hli : (k : Int) < (W.qs.length : Int) := by omega
          have hq : W.qs.length ≤ 1048576 := S.out.q
          obtain ⟨j, hj⟩ : ∃ j, W.qs[k]? = some j := ⟨_, List.getElem?_eq_getElem hlt⟩
          obtain ⟨-, -, -, -, b, c, e, -, -, hc⟩ := (H.out.below (WL.out _ E.out.bl)).slices
          injection e with e1 e2 e3
          subst e1 e3
          obtain ⟨x, rfl, hx, hcell⟩ := hc (by intro e; rw [e] at hlt; simp at hlt)
          obtain ⟨d0, d1, d2, d3⟩ := hcell k j hj
          have IJ : Hid (∀ n ∈ Wd.jnums j, Wd.In64 n) := fun n hn => HI.out n (mem_nums.2 (by have : n ∈ W.qs.flatMap Wd.jnums := List.mem_flatMap.2 ⟨j, List.mem_of_getElem? hj, hn⟩; simp only [this, or_true]))
          have NX : Hid (nums3 W (k + 1) = nums3 W k ++ Wd.jnums j) := nums3_next hj
          have PL : Hid ((Wd.wr (nums3 W k)).length ≤ 180000000) := by have := pre_len (in_nums3 HI.out k) (nums3_len S.out k); unfold Hid; omega
          clear hc hcell hx hj hkl
          go_upto_region 23 with fail
          have NE : Hid (u3.ownBlock ≠ some wr.heap.size) := fun h => by have := (E.out.o.block _ h).2; omega
          have J0 : Hid (Jbc (wr.alloc (Obj.cells #[.int .i64 j.player, .int .i64 j.unit, .int .i64 j.kind, .int .i64 j.left] 105)) ⟨wr.heap.size, 0, none⟩ j) := Jbc.mk' j rfl
          have F0 : Hid (Ei w w1 W (.slice a1 W.gs.length k1) (.slice a2 W.os.length k2) (.slice a3 W.gold.length k3) (.slice a4 W.us.length k4) (.slice (some x) W.qs.length k5) u3 (Wd.wr (nums3 W k)) (wr.alloc (Obj.cells #[.int .i64 j.player, .int .i64 j.unit, .int .i64 j.kind, .int .i64 j.left] 105))) := E.out.stays ((Below.refl _ _).alloc (Nat.le_refl _) _)
          generalize (wr.alloc (Obj.cells #[.int .i64 j.player, .int .i64 j.unit, .int .i64 j.kind, .int .i64 j.left] 105)) = y0 at *
          generalize wr.heap.size = zj at *
          have G0 : Hid (Gb y0 u3 y0 u3) := Gb.refl _ _
          clear d0 d1 d2 d3 c8 E
          have cj := J0.out.c0
          go_wp2_with fail
          refine (rnumb_any (w.heap.size + 1) _ (Wd.wr (nums3 W k)) j.player _ F0.out.o F0.out.s (by have := PL.out; omega) (IJ.out _ (by simp [Wd.jnums]))).mono ?_
          rintro e y1 ⟨t0, rfl, ho, hg⟩
          have F1 : Hid (Ei w w1 W (.slice a1 W.gs.length k1) (.slice a2 W.os.length k2) (.slice a3 W.gold.length k3) (.slice a4 W.us.length k4) (.slice (some x) W.qs.length k5) t0 (Wd.wr (nums3 W k ++ [j.player])) y1) := F0.out.step hg (by have := ho; rw [← Wd.wr_one, ← Wd.wr_append] at this; exact this)
          have G1 : Hid (Gb y0 u3 y1 t0) := G0.out.trans hg
          have J1 : Hid (Jbc y1 ⟨zj, 0, none⟩ j) := by
            have z0 := J0.out.lt
            obtain ⟨r0, r1, r2, r3⟩ := J0.out
            have far : ∀ i, y1.cell? ⟨zj, i, none⟩ = y0.cell? ⟨zj, i, none⟩ := fun i => G1.out.g.cell_far ⟨zj, i, none⟩ z0 (fun e => NE.out e.symm)
            exact ⟨by rw [far]; exact r0, by rw [far]; exact r1, by rw [far]; exact r2, by rw [far]; exact r3⟩
          clear ho hg cj F0
          have cj := J1.out.c1
          go_wp2_with fail
          refine (rnumb_any (w.heap.size + 1) _ (Wd.wr (nums3 W k ++ [j.player])) j.unit _ F1.out.o F1.out.s (by have h1 := PL.out; have h2 := pre_len (xs := [j.player]) (m := 4) (fun n hn => IJ.out n (by simp at hn; simp [Wd.jnums]; omega)) (by simp); rw [Wd.wr_append, List.length_append]; omega) (IJ.out _ (by simp [Wd.jnums]))).mono ?_
          rintro e y2 ⟨t1, rfl, ho, hg⟩
          have F2 : Hid (Ei w w1 W (.slice a1 W.gs.length k1) (.slice a2 W.os.length k2) (.slice a3 W.gold.length k3) (.slice a4 W.us.length k4) (.slice (some x) W.qs.length k5) t1 (Wd.wr (nums3 W k ++ [j.player, j.unit])) y2) := F1.out.step hg (by have := ho; rw [← Wd.wr_one, ← Wd.wr_append] at this; rw [List.append_assoc] at this; exact this)
          have G2 : Hid (Gb y0 u3 y2 t1) := G1.out.trans hg
          have J2 : Hid (Jbc y2 ⟨zj, 0, none⟩ j) := by
            have z0 := J0.out.lt
            obtain ⟨r0, r1, r2, r3⟩ := J0.out
            have far : ∀ i, y2.cell? ⟨zj, i, none⟩ = y0.cell? ⟨zj, i, none⟩ := fun i => G2.out.g.cell_far ⟨zj, i, none⟩ z0 (fun e => NE.out e.symm)
            exact ⟨by rw [far]; exact r0, by rw [far]; exact r1, by rw [far]; exact r2, by rw [far]; exact r3⟩
          clear ho hg cj F1
          have cj := J2.out.c2
          go_wp2_with fail
          refine (rnumb_any (w.heap.size + 1) _ (Wd.wr (nums3 W k ++ [j.player, j.unit])) j.kind _ F2.out.o F2.out.s (by have h1 := PL.out; have h2 := pre_len (xs := [j.player, j.unit]) (m := 4) (fun n hn => IJ.out n (by simp at hn; simp [Wd.jnums]; omega)) (by simp); rw [Wd.wr_append, List.length_append]; omega) (IJ.out _ (by simp [Wd.jnums]))).mono ?_
          rintro e y3 ⟨t2, rfl, ho, hg⟩
          have F3 : Hid (Ei w w1 W (.slice a1 W.gs.length k1) (.slice a2 W.os.length k2) (.slice a3 W.gold.length k3) (.slice a4 W.us.length k4) (.slice (some x) W.qs.length k5) t2 (Wd.wr (nums3 W k ++ [j.player, j.unit, j.kind])) y3) := F2.out.step hg (by have := ho; rw [← Wd.wr_one, ← Wd.wr_append] at this; rw [List.append_assoc] at this; exact this)
          have G3 : Hid (Gb y0 u3 y3 t2) := G2.out.trans hg
          have J3 : Hid (Jbc y3 ⟨zj, 0, none⟩ j) := by
            have z0 := J0.out.lt
            obtain ⟨r0, r1, r2, r3⟩ := J0.out
            have far : ∀ i, y3.cell? ⟨zj, i, none⟩ = y0.cell? ⟨zj, i, none⟩ := fun i => G3.out.g.cell_far ⟨zj, i, none⟩ z0 (fun e => NE.out e.symm)
            exact ⟨by rw [far]; exact r0, by rw [far]; exact r1, by rw [far]; exact r2, by rw [far]; exact r3⟩
          clear ho hg cj F2
          have cj := J3.out.c3
          go_wp2_with fail
          refine (rnumb_any (w.heap.size + 1) _ (Wd.wr (nums3 W k ++ [j.player, j.unit, j.kind])) j.left _ F3.out.o F3.out.s (by have h1 := PL.out; have h2 := pre_len (xs := [j.player, j.unit, j.kind]) (m := 4) (fun n hn => IJ.out n (by simp at hn; simp [Wd.jnums]; omega)) (by simp); rw [Wd.wr_append, List.length_append]; omega) (IJ.out _ (by simp [Wd.jnums]))).mono ?_
          rintro e y4 ⟨t3, rfl, ho, hg⟩
          have F4 : Hid (Ei w w1 W (.slice a1 W.gs.length k1) (.slice a2 W.os.length k2) (.slice a3 W.gold.length k3) (.slice a4 W.us.length k4) (.slice (some x) W.qs.length k5) t3 (Wd.wr (nums3 W k ++ [j.player, j.unit, j.kind, j.left])) y4) := F3.out.step hg (by have := ho; rw [← Wd.wr_one, ← Wd.wr_append] at this; rw [List.append_assoc] at this; exact this)
          have G4 : Hid (Gb y0 u3 y4 t3) := G3.out.trans hg
          have J4 : Hid (Jbc y4 ⟨zj, 0, none⟩ j) := by
            have z0 := J0.out.lt
            obtain ⟨r0, r1, r2, r3⟩ := J0.out
            have far : ∀ i, y4.cell? ⟨zj, i, none⟩ = y0.cell? ⟨zj, i, none⟩ := fun i => G4.out.g.cell_far ⟨zj, i, none⟩ z0 (fun e => NE.out e.symm)
            exact ⟨by rw [far]; exact r0, by rw [far]; exact r1, by rw [far]; exact r2, by rw [far]; exact r3⟩
          clear ho hg cj F3
          have E5 : Hid (Ei w w1 W (.slice a1 W.gs.length k1) (.slice a2 W.os.length k2) (.slice a3 W.gold.length k3) (.slice a4 W.us.length k4) (.slice (some x) W.qs.length k5) t3 (Wd.wr (nums3 W (k + 1))) y4) := by have := F4.out; rw [NX.out]; exact this
          clear F4 J0 J1 J2 J3 J4 G0 G1 G2 G3 G4
          go_wp2
          go_roundw
          case rel => exact ⟨k + 1, by omega, rfl, E5.out⟩
          case measure => simp [intOf]; omega
    · have hlt : k < W.us.length := by omega
      have hli : (k : Int) < (W.us.length : Int) := by omega
      have hq : W.us.length ≤ 1048576 := S.out.u
      obtain ⟨j, hj⟩ : ∃ j, W.us[k]? = some j := ⟨_, List.getElem?_eq_getElem hlt⟩
      obtain ⟨-, -, -, ⟨b, c, e, -, -, hc⟩, -⟩ := (H.out.below (WL.out _ E.out.bl)).slices
      injection e with e1 e2 e3
      subst e1 e3
      obtain ⟨x, rfl, hx, hcell⟩ := hc (by intro e; rw [e] at hlt; simp at hlt)
      obtain ⟨d0, d1, d2, d3, d4, d5, d6, d7⟩ := hcell k j hj
      have IJ : Hid (∀ n ∈ Wd.unums j, Wd.In64 n) := fun n hn => HI.out n (mem_nums.2 (by have : n ∈ W.us.flatMap Wd.unums := List.mem_flatMap.2 ⟨j, List.mem_of_getElem? hj, hn⟩; simp only [this, true_or, or_true]))
      have NX : Hid (nums2 W (k + 1) = nums2 W k ++ Wd.unums j) := nums2_next hj
      have PL : Hid ((Wd.wr (nums2 W k)).length ≤ 130000000) := by have := pre_len (in_nums2 HI.out k) (nums2_len S.out k); unfold Hid; omega
      clear hc hcell hx hj hkl
      go_upto_region 15 with fail
      have F0 : Hid (Ei w w1 W (.slice a1 W.gs.length k1) (.slice a2 W.os.length k2) (.slice a3 W.gold.length k3) (.slice (some x) W.us.length k4) (.slice a5 W.qs.length k5) u3 (Wd.wr (nums2 W k)) ((wr.alloc (Obj.cells #[.int .i64 j.id, .int .i64 j.player, .int .i64 j.kind, .int .i64 j.at_, .int .i64 j.life, .int .i64 j.load, .int .i64 j.task, .int .i64 j.goal] 62)).alloc (Obj.cells #[.int .i64 j.id, .int .i64 j.player, .int .i64 j.kind, .int .i64 j.at_, .int .i64 j.life, .int .i64 j.load, .int .i64 j.task, .int .i64 j.goal] 3))) := E.out.stays (((Below.refl _ _).alloc (Nat.le_refl _) _).alloc (by simp) _)
      have LIT : Hid (Ro ((wr.alloc (Obj.cells #[.int .i64 j.id, .int .i64 j.player, .int .i64 j.kind, .int .i64 j.at_, .int .i64 j.life, .int .i64 j.load, .int .i64 j.task, .int .i64 j.goal] 62)).alloc (Obj.cells #[.int .i64 j.id, .int .i64 j.player, .int .i64 j.kind, .int .i64 j.at_, .int .i64 j.life, .int .i64 j.load, .int .i64 j.task, .int .i64 j.goal] 3)) (.slice (some ⟨wr.heap.size + 1, 0, none⟩) 8 8) (Wd.unums j)) := Ro.lit (Wd.unums j) _ rfl (by simp [Wd.unums]) (by simp)
      have NE : Hid (u3.ownBlock ≠ some (wr.heap.size + 1)) := fun h => by have := (E.out.o.block _ h).2; omega
      generalize ((wr.alloc (Obj.cells #[.int .i64 j.id, .int .i64 j.player, .int .i64 j.kind, .int .i64 j.at_, .int .i64 j.life, .int .i64 j.load, .int .i64 j.task, .int .i64 j.goal] 62)).alloc (Obj.cells #[.int .i64 j.id, .int .i64 j.player, .int .i64 j.kind, .int .i64 j.at_, .int .i64 j.life, .int .i64 j.load, .int .i64 j.task, .int .i64 j.goal] 3)) = y0 at *
      generalize wr.heap.size + 1 = zl at *
      clear d0 d1 d2 d3 d4 d5 d6 d7 c7 E
      have UL : Hid ((Wd.unums j).length = 8) := rfl
      obtain ⟨b3, hb3⟩ : ∃ b, b = u3 := ⟨_, rfl⟩
      subst hb3
      go_loopw [3, 7] (fun bv iv V => ∃ q : Nat, q ≤ 8 ∧ iv = .int .i64 (q : Nat) ∧ Ei w w1 W (.slice a1 W.gs.length k1) (.slice a2 W.os.length k2) (.slice a3 W.gold.length k3) (.slice (some x) W.us.length k4) (.slice a5 W.qs.length k5) bv (Wd.wr (nums2 W k ++ (Wd.unums j).take q)) V ∧ Gb y0 b3 V bv) (fun _ iv _ => 8 - (intOf iv).toNat)
      case atStart => exact ⟨0, by omega, rfl, by have := F0.out; rw [List.take_zero, List.append_nil]; exact this, Gb.refl _ _⟩
      case round =>
        obtain ⟨q, hq8, rfl, hE, hG⟩ := hrel
        have E2 : Hid (Ei w w1 W (.slice a1 W.gs.length k1) (.slice a2 W.os.length k2) (.slice a3 W.gold.length k3) (.slice (some x) W.us.length k4) (.slice a5 W.qs.length k5) u3 (Wd.wr (nums2 W k ++ (Wd.unums j).take q)) wr) := hE
        have G2 : Hid (Gb y0 b3 wr u3) := hG
        clear hE hG
        by_cases hq : q = 8
        · subst hq
          have E5 : Hid (Ei w w1 W (.slice a1 W.gs.length k1) (.slice a2 W.os.length k2) (.slice a3 W.gold.length k3) (.slice (some x) W.us.length k4) (.slice a5 W.qs.length k5) u3 (Wd.wr (nums2 W (k + 1))) wr) := by have := E2.out; rw [NX.out]; exact this
          clear hq8
          go_wp2
          go_roundw
          case rel => exact ⟨k + 1, by omega, rfl, E5.out⟩
          case measure => simp [intOf]; omega
        · have hql : q < (Wd.unums j).length := by rw [UL.out]; omega
          have hqi : (q : Int) < 8 := by omega
          obtain ⟨n, hn⟩ : ∃ n, (Wd.unums j)[q]? = some n := ⟨_, List.getElem?_eq_getElem hql⟩
          obtain ⟨ad9, cap9, e9, -, -, hc9⟩ := Ro.gb (B := 0) LIT.out G2.out (fun y n c h _ => by injection h with h; injection h with h; rw [← h]; exact NE.out)
          injection e9 with e1 e2 e3
          obtain ⟨x9, ex9, -, hcell9⟩ := hc9 (by intro e; rw [e] at hql; simp at hql)
          have cq : wr.cell? ⟨zl, q, none⟩ = some (.int .i64 n) := by
            have h1 := hcell9 q n hn
            rw [ex9] at e1
            injection e1 with e1
            rw [← e1, Addr.add_lit, Nat.zero_add] at h1
            exact h1
          have IN : Hid (Wd.In64 n) := IJ.out n (List.mem_of_getElem? hn)
          have LN : Hid ((Wd.wr (nums2 W k ++ (Wd.unums j).take q)).length ≤ 1000000000) := by
            unfold Hid
            have h1 := pre_len (xs := (Wd.unums j).take q) (m := 8) (fun n hn => IJ.out n (List.mem_of_mem_take hn)) (by rw [List.length_take, UL.out]; omega)
            have h2 := PL.out
            rw [Wd.wr_append, List.length_append]
            omega
          have NQ : Hid (Wd.wr (nums2 W k ++ (Wd.unums j).take q) ++ Wd.num n = Wd.wr (nums2 W k ++ (Wd.unums j).take (q + 1))) := by
            unfold Hid
            obtain ⟨hi9, e9⟩ := List.getElem?_eq_some_iff.1 hn
            rw [List.take_succ_eq_append_getElem hi9, e9, ← Wd.wr_one, ← Wd.wr_append, List.append_assoc]
          obtain ⟨L, hL⟩ : ∃ L, Wd.wr (nums2 W k ++ (Wd.unums j).take q) = L := ⟨_, rfl⟩
          rw [hL] at E2 LN NQ
          clear hc9 hcell9 hn hL e1 e2 e3 ex9 hql
          go_wp2_with fail
          refine (rnumb_any (w.heap.size + 1) u3 L n wr E2.out.o E2.out.s LN.out IN.out).mono ?_
          rintro e w5 ⟨t5, rfl, ho, hg⟩
          have E5 : Hid (Ei w w1 W (.slice a1 W.gs.length k1) (.slice a2 W.os.length k2) (.slice a3 W.gold.length k3) (.slice (some x) W.us.length k4) (.slice a5 W.qs.length k5) t5 (Wd.wr (nums2 W k ++ (Wd.unums j).take (q + 1))) w5) := E2.out.step hg (by rw [← NQ.out]; exact ho)
          have G5 : Hid (Gb y0 b3 w5 t5) := G2.out.trans hg
          clear ho hg cq
          go_wp2
          go_roundw
          case rel => exact ⟨q + 1, by omega, rfl, E5.out, G5.out⟩
          case measure => simp [intOf]; omega
end Go.Proofs.YthccneiafofakaaDoor
