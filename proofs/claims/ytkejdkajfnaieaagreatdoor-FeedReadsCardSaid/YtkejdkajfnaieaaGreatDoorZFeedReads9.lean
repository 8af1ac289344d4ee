/- The reference: Encode. · Worlds: the reference's Find. · Worlds: the reference's On and number. · The reference: what is wrong with a kind, and with some. · The reference: what is wrong with some kinds. · What the reference says of a field (cut out of RfA). · What the reference says of a step (cut out of RfN). -/
import Derived.Test.YtkejdkajfnaieaaGreatDoorZFeedReads8
import Derived.Deep.DeepCutAuto
import Derived.Test.YtkejdkajfnaieaaGreatDoorZFeedReads5
import Derived.Test.YtkejdkajfnaieaaGreatDoorZFeedReads3
import Derived.Laws.Closers25
import Derived.IntWalk
import Derived.Test.YtkejdkajfnaieaaGreatDoorZFeedReads4
import Derived.Test.YtkejdkajfnaieaaGreatDoorZFeedReads1
namespace Go.Proofs.YtkejdkajfnaieaaGreatDoor
open Go.RowKit
set_option linter.unusedVariables false

/-- what is there while a world is written: the bytes L so far. -/
structure Ei (w w1 : World) (W : WV) (u1 u2 u3 u4 u5 : Value) (bv : Value) (L : List UInt8) (V : World) : Prop where
  o : Ob V (w.heap.size + 1) bv L
  bl : Below (w.heap.size + 1) w1 V
  s : w.heap.size + 1 ≤ V.heap.size
  b : Bw V w.heap.size W u1 u2 u3 u4 u5
theorem Ei.step {w w1 : World} {W : WV} {u1 u2 u3 u4 u5 bv bv' : Value} {L L' : List UInt8} {V V' : World} (h : Ei w w1 W u1 u2 u3 u4 u5 bv L V) (g : Gb V bv V' bv') (o : Ob V' (w.heap.size + 1) bv' L') : Ei w w1 W u1 u2 u3 u4 u5 bv' L' V' := by
  have k : Below (w.heap.size + 1) V V' := g.below h.s (fun b hb => (h.o.block b hb).1)
  exact ⟨o, h.bl.trans k, Nat.le_trans h.s k.size, h.b.below k (Nat.lt_succ_self _)⟩
theorem Ei.stays {w w1 : World} {W : WV} {u1 u2 u3 u4 u5 bv : Value} {L : List UInt8} {V V' : World} (h : Ei w w1 W u1 u2 u3 u4 u5 bv L V) (k : Below V.heap.size V V') : Ei w w1 W u1 u2 u3 u4 u5 bv L V' :=
  ⟨World.ownsRow.kept h.o (row := none) ⟨k.os, k.tape, k.output, k.size, fun i hi _ => k.block i hi⟩ (by cases bv.ownBlock <;> simp), h.bl.trans (k.mono h.s), Nat.le_trans h.s k.size, h.b.below k h.b.lt⟩
theorem mem_nums {W : WV} {n : Int} : n ∈ Wd.nums W ↔ n = W.turn ∨ n = W.next ∨ n = W.wide ∨ n = W.high ∨ n = W.gs.length ∨ n ∈ W.gs ∨ n = W.os.length ∨ n ∈ W.os ∨ n = W.gold.length ∨ n ∈ W.gold ∨ n = W.us.length ∨ n ∈ W.us.flatMap Wd.unums ∨ n = W.qs.length ∨ n ∈ W.qs.flatMap Wd.jnums := by simp [Wd.nums]
theorem pre_len {xs : List Int} (h : ∀ n ∈ xs, Wd.In64 n) {m : Nat} (hm : xs.length ≤ m) : (Wd.wr xs).length ≤ 10 * m := by
  have := wr_len h
  omega
theorem in_nums1 {W : WV} (h : ∀ n ∈ Wd.nums W, Wd.In64 n) (k : Nat) : ∀ n ∈ nums1 W k, Wd.In64 n := by
  intro n hn
  refine h n (mem_nums.2 ?_)
  match k with
  | 0 => simp [nums1] at hn; omega
  | 1 => simp [nums1] at hn; rcases hn with h | h | h | h | h | h <;> simp [h]
  | 2 => simp [nums1] at hn; rcases hn with h | h | h | h | h | h | h | h <;> simp [h]
  | _ + 3 => simp [nums1] at hn; rcases hn with h | h | h | h | h | h | h | h | h | h <;> simp [h]
theorem in_nums2 {W : WV} (h : ∀ n ∈ Wd.nums W, Wd.In64 n) (k : Nat) : ∀ n ∈ nums2 W k, Wd.In64 n := by
  intro n hn
  unfold nums2 at hn
  rcases List.mem_append.1 hn with hn | hn
  · exact in_nums1 h 3 n hn
  · refine h n (mem_nums.2 ?_)
    rcases List.mem_cons.1 hn with hn | hn
    · simp [hn]
    · obtain ⟨u, hu, hn⟩ := List.mem_flatMap.1 hn
      have : n ∈ W.us.flatMap Wd.unums := List.mem_flatMap.2 ⟨u, List.mem_of_mem_take hu, hn⟩
      simp only [this, true_or, or_true]
theorem in_nums3 {W : WV} (h : ∀ n ∈ Wd.nums W, Wd.In64 n) (k : Nat) : ∀ n ∈ nums3 W k, Wd.In64 n := by
  intro n hn
  unfold nums3 at hn
  rcases List.mem_append.1 hn with hn | hn
  · exact in_nums2 h W.us.length n hn
  · refine h n (mem_nums.2 ?_)
    rcases List.mem_cons.1 hn with hn | hn
    · simp [hn]
    · obtain ⟨u, hu, hn⟩ := List.mem_flatMap.1 hn
      have : n ∈ W.qs.flatMap Wd.jnums := List.mem_flatMap.2 ⟨u, List.mem_of_mem_take hu, hn⟩
      simp only [this, or_true]
set_option maxRecDepth 100000 in
set_option maxHeartbeats 16000000 in
theorem rencode_any (v : Value) (W : WV) (w : World) (h : Wl w v W) (hs : WSmall W) (hi : ∀ n ∈ Wd.nums W, Wd.In64 n) :
    Calls Tryz.prog 19 #[v] w fun e w' => ∃ u, e = .returned u ∧ Ob w' w.heap.size u (Wd.enc W) ∧ Below w.heap.size w w' := by
  have H : Hid (Wl w v W) := h
  have S : Hid (WSmall W) := hs
  have HI : Hid (∀ n ∈ Wd.nums W, Wd.In64 n) := hi
  obtain ⟨u1, u2, u3, u4, u5, rfl, h1, h2, h3, h4, h5⟩ := h
  obtain ⟨a1, k1, rfl, -⟩ := h1
  obtain ⟨a2, k2, rfl, -⟩ := h2
  obtain ⟨a3, k3, rfl, -⟩ := h3
  obtain ⟨a4, k4, rfl, -⟩ := h4
  obtain ⟨a5, k5, rfl, -⟩ := h5
  clear hs hi
  go_enter Tryz.func19, Tryz.ntmps19
  go_upto_region 1 with fail
  have B0 : Hid (Below w.heap.size w (w.alloc (Obj.cells #[.int .i64 W.turn, .int .i64 W.next, .int .i64 W.wide, .int .i64 W.high, .slice a1 W.gs.length k1, .slice a2 W.os.length k2, .slice a3 W.gold.length k3, .slice a4 W.us.length k4, .slice a5 W.qs.length k5] 29))) := (Below.refl _ _).alloc (Nat.le_refl _) _
  have E0 : Hid (Ei w (w.alloc (Obj.cells #[.int .i64 W.turn, .int .i64 W.next, .int .i64 W.wide, .int .i64 W.high, .slice a1 W.gs.length k1, .slice a2 W.os.length k2, .slice a3 W.gold.length k3, .slice a4 W.us.length k4, .slice a5 W.qs.length k5] 29)) W (.slice a1 W.gs.length k1) (.slice a2 W.os.length k2) (.slice a3 W.gold.length k3) (.slice a4 W.us.length k4) (.slice a5 W.qs.length k5) (.slice none 0 0) [] (w.alloc (Obj.cells #[.int .i64 W.turn, .int .i64 W.next, .int .i64 W.wide, .int .i64 W.high, .slice a1 W.gs.length k1, .slice a2 W.os.length k2, .slice a3 W.gold.length k3, .slice a4 W.us.length k4, .slice a5 W.qs.length k5] 29))) := ⟨Ob.nil _ _, Below.refl _ _, by simp, Bw.mk' W _ _ _ _ _ rfl⟩
  generalize w.alloc (Obj.cells #[.int .i64 W.turn, .int .i64 W.next, .int .i64 W.wide, .int .i64 W.high, .slice a1 W.gs.length k1, .slice a2 W.os.length k2, .slice a3 W.gold.length k3, .slice a4 W.us.length k4, .slice a5 W.qs.length k5] 29) = w1 at *
  have WL : Hid (∀ V, Below (w.heap.size + 1) w1 V → Below w.heap.size w V) := fun V hV => B0.out.trans (hV.mono (by omega))
  have ck := E0.out.b.c0
  go_wp2_with fail
  refine (rnumb_any (w.heap.size + 1) _ [] W.turn _ E0.out.o E0.out.s (by simp) (HI.out _ (mem_nums.2 (by simp)))).mono ?_
  rintro e x0 ⟨b0, rfl, ho, hg⟩
  have E1 : Hid (Ei w w1 W (.slice a1 W.gs.length k1) (.slice a2 W.os.length k2) (.slice a3 W.gold.length k3) (.slice a4 W.us.length k4) (.slice a5 W.qs.length k5) b0 (Wd.wr [W.turn]) x0) := E0.out.step hg (by have := ho; rw [List.nil_append, ← Wd.wr_one] at this; exact this)
  clear ho hg ck E0
  have ck := E1.out.b.c1
  go_wp2_with fail
  refine (rnumb_any (w.heap.size + 1) _ (Wd.wr [W.turn]) W.next _ E1.out.o E1.out.s (by have := pre_len (xs := [W.turn]) (m := 4) (fun n hn => HI.out n (mem_nums.2 (by simp at hn; simp [hn]))) (by simp); omega) (HI.out _ (mem_nums.2 (by simp)))).mono ?_
  rintro e x1 ⟨b1, rfl, ho, hg⟩
  have E2 : Hid (Ei w w1 W (.slice a1 W.gs.length k1) (.slice a2 W.os.length k2) (.slice a3 W.gold.length k3) (.slice a4 W.us.length k4) (.slice a5 W.qs.length k5) b1 (Wd.wr [W.turn, W.next]) x1) := E1.out.step hg (by have := ho; rw [← Wd.wr_one, ← Wd.wr_append] at this; exact this)
  clear ho hg ck E1
  have ck := E2.out.b.c2
  go_wp2_with fail
  refine (rnumb_any (w.heap.size + 1) _ (Wd.wr [W.turn, W.next]) W.wide _ E2.out.o E2.out.s (by have := pre_len (xs := [W.turn, W.next]) (m := 4) (fun n hn => HI.out n (mem_nums.2 (by simp at hn; simp <;> omega))) (by simp); omega) (HI.out _ (mem_nums.2 (by simp)))).mono ?_
  rintro e x2 ⟨b2, rfl, ho, hg⟩
  have E3 : Hid (Ei w w1 W (.slice a1 W.gs.length k1) (.slice a2 W.os.length k2) (.slice a3 W.gold.length k3) (.slice a4 W.us.length k4) (.slice a5 W.qs.length k5) b2 (Wd.wr [W.turn, W.next, W.wide]) x2) := E2.out.step hg (by have := ho; rw [← Wd.wr_one, ← Wd.wr_append] at this; exact this)
  clear ho hg ck E2
  have ck := E3.out.b.c3
  go_wp2_with fail
  refine (rnumb_any (w.heap.size + 1) _ (Wd.wr [W.turn, W.next, W.wide]) W.high _ E3.out.o E3.out.s (by have := pre_len (xs := [W.turn, W.next, W.wide]) (m := 4) (fun n hn => HI.out n (mem_nums.2 (by simp at hn; simp <;> omega))) (by simp); omega) (HI.out _ (mem_nums.2 (by simp)))).mono ?_
  rintro e x3 ⟨b3, rfl, ho, hg⟩
  have E4 : Hid (Ei w w1 W (.slice a1 W.gs.length k1) (.slice a2 W.os.length k2) (.slice a3 W.gold.length k3) (.slice a4 W.us.length k4) (.slice a5 W.qs.length k5) b3 (Wd.wr [W.turn, W.next, W.wide, W.high]) x3) := E3.out.step hg (by have := ho; rw [← Wd.wr_one, ← Wd.wr_append] at this; exact this)
  clear ho hg ck E3
  have ck := E4.out.b.c4
  go_wp2_with fail
  refine (rnums_any (w.heap.size + 1) _ (.slice a1 W.gs.length k1) (Wd.wr (nums1 W 0)) W.gs _ w E4.out.o E4.out.s (by have h1 := pre_len (in_nums1 HI.out 0) (nums1_len S.out 0); have h2 := S.out.g; omega) (fun n hn => HI.out n (mem_nums.2 (by simp [hn]))) H.out.slices.1 (by omega) (WL.out _ E4.out.bl)).mono ?_
  rintro e x4 ⟨b4, rfl, ho, hg⟩
  have E5 : Hid (Ei w w1 W (.slice a1 W.gs.length k1) (.slice a2 W.os.length k2) (.slice a3 W.gold.length k3) (.slice a4 W.us.length k4) (.slice a5 W.qs.length k5) b4 (Wd.wr (nums1 W 1)) x4) := E4.out.step hg (by have := ho; rw [← Wd.wr_append] at this; exact this)
  clear ho hg ck E4
  have ck := E5.out.b.c5
  go_wp2_with fail
  refine (rnums_any (w.heap.size + 1) _ (.slice a2 W.os.length k2) (Wd.wr (nums1 W 1)) W.os _ w E5.out.o E5.out.s (by have h1 := pre_len (in_nums1 HI.out 1) (nums1_len S.out 1); have h2 := S.out.o; omega) (fun n hn => HI.out n (mem_nums.2 (by simp [hn]))) H.out.slices.2.1 (by omega) (WL.out _ E5.out.bl)).mono ?_
  rintro e x5 ⟨b5, rfl, ho, hg⟩
  have E6 : Hid (Ei w w1 W (.slice a1 W.gs.length k1) (.slice a2 W.os.length k2) (.slice a3 W.gold.length k3) (.slice a4 W.us.length k4) (.slice a5 W.qs.length k5) b5 (Wd.wr (nums1 W 2)) x5) := E5.out.step hg (by have := ho; rw [← Wd.wr_append] at this; exact this)
  clear ho hg ck E5
  have ck := E6.out.b.c6
  go_wp2_with fail
  refine (rnums_any (w.heap.size + 1) _ (.slice a3 W.gold.length k3) (Wd.wr (nums1 W 2)) W.gold _ w E6.out.o E6.out.s (by have h1 := pre_len (in_nums1 HI.out 2) (nums1_len S.out 2); have h2 := S.out.p; omega) (fun n hn => HI.out n (mem_nums.2 (by simp [hn]))) H.out.slices.2.2.1 (by omega) (WL.out _ E6.out.bl)).mono ?_
  rintro e x6 ⟨b6, rfl, ho, hg⟩
  have E7 : Hid (Ei w w1 W (.slice a1 W.gs.length k1) (.slice a2 W.os.length k2) (.slice a3 W.gold.length k3) (.slice a4 W.us.length k4) (.slice a5 W.qs.length k5) b6 (Wd.wr (nums1 W 3)) x6) := E6.out.step hg (by have := ho; rw [← Wd.wr_append] at this; exact this)
  clear ho hg ck E6
  have ck := E7.out.b.c7
  go_wp2_with fail
  refine (rnumb_any (w.heap.size + 1) _ (Wd.wr (nums1 W 3)) (W.us.length : Int) _ E7.out.o E7.out.s (by have h1 := pre_len (in_nums1 HI.out 3) (nums1_len S.out 3); omega) (HI.out _ (mem_nums.2 (by simp)))).mono ?_
  rintro e x7 ⟨b7, rfl, ho, hg⟩
  have E8 : Hid (Ei w w1 W (.slice a1 W.gs.length k1) (.slice a2 W.os.length k2) (.slice a3 W.gold.length k3) (.slice a4 W.us.length k4) (.slice a5 W.qs.length k5) b7 (Wd.wr (nums2 W 0)) x7) := E7.out.step hg (by have := ho; rw [← Wd.wr_one, ← Wd.wr_append] at this; exact this)
  clear ho hg ck E7
  go_wp2
  go_loopw [3, 4] (fun bv iv V => ∃ k : Nat, k ≤ W.us.length ∧ iv = .int .i64 (k : Nat) ∧ Ei w w1 W (.slice a1 W.gs.length k1) (.slice a2 W.os.length k2) (.slice a3 W.gold.length k3) (.slice a4 W.us.length k4) (.slice a5 W.qs.length k5) bv (Wd.wr (nums2 W k)) V) (fun _ iv _ => W.us.length - (intOf iv).toNat)
  case atStart => exact ⟨0, Nat.zero_le _, rfl, E8.out⟩
  case round =>
    obtain ⟨k, hk, rfl, hE⟩ := hrel
    have E : Hid (Ei w w1 W (.slice a1 W.gs.length k1) (.slice a2 W.os.length k2) (.slice a3 W.gold.length k3) (.slice a4 W.us.length k4) (.slice a5 W.qs.length k5) u3 (Wd.wr (nums2 W k)) wr) := hE
    clear hE E8
    have c7 := E.out.b.c7
    by_cases hkl : k = W.us.length
    · have E' : Hid (Ei w w1 W (.slice a1 W.gs.length k1) (.slice a2 W.os.length k2) (.slice a3 W.gold.length k3) (.slice a4 W.us.length k4) (.slice a5 W.qs.length k5) u3 (Wd.wr (nums2 W W.us.length)) wr) := by have := E.out; rwa [hkl] at this
      subst hkl
      clear hk E
      have c8 := E'.out.b.c8
      go_wp2_with fail
      refine (rnumb_any (w.heap.size + 1) _ (Wd.wr (nums2 W W.us.length)) (W.qs.length : Int) _ E'.out.o E'.out.s (by have h1 := pre_len (in_nums2 HI.out W.us.length) (nums2_len S.out W.us.length); omega) (HI.out _ (mem_nums.2 (by simp)))).mono ?_
      rintro e x8 ⟨b8, rfl, ho, hg⟩
      have E9 : Hid (Ei w w1 W (.slice a1 W.gs.length k1) (.slice a2 W.os.length k2) (.slice a3 W.gold.length k3) (.slice a4 W.us.length k4) (.slice a5 W.qs.length k5) b8 (Wd.wr (nums3 W 0)) x8) := E'.out.step hg (by have := ho; rw [← Wd.wr_one, ← Wd.wr_append] at this; exact this)
      clear ho hg c7 c8 E'
      go_wp2
      go_loopw [3, 8] (fun bv iv V => ∃ k : Nat, k ≤ W.qs.length ∧ iv = .int .i64 (k : Nat) ∧ Ei w w1 W (.slice a1 W.gs.length k1) (.slice a2 W.os.length k2) (.slice a3 W.gold.length k3) (.slice a4 W.us.length k4) (.slice a5 W.qs.length k5) bv (Wd.wr (nums3 W k)) V) (fun _ iv _ => W.qs.length - (intOf iv).toNat)
      case atStart => exact ⟨0, Nat.zero_le _, rfl, E9.out⟩
      case round =>
        obtain ⟨k, hk, rfl, hE⟩ := hrel
        have E : Hid (Ei w w1 W (.slice a1 W.gs.length k1) (.slice a2 W.os.length k2) (.slice a3 W.gold.length k3) (.slice a4 W.us.length k4) (.slice a5 W.qs.length k5) u3 (Wd.wr (nums3 W k)) wr) := hE
        clear hE E9
        have c8 := E.out.b.c8
        by_cases hkl : k = W.qs.length
        · subst hkl
          clear hk
          go_wp2
          go_ret
          refine ⟨_, rfl, ?_, WL.out _ E.out.bl⟩
          have h1 := E.out.o
          rw [nums3_all] at h1
          refine ⟨h1.1, ?_⟩
          rcases h1.2 with h2 | ⟨g, cap, cur, h2, h3, h4⟩
          · exact .inl h2
          · exact .inr ⟨g, cap, cur, h2, by omega, h4⟩
        · have hlt : k < W.qs.length := by omega
          have hli : (k : Int) < (W.qs.length : Int) := by omega
          have hq : W.qs.length ≤ 1048576 := S.out.q
          obtain ⟨j, hj⟩ : ∃ j, W.qs[k]? = some j := ⟨_, List.getElem?_eq_getElem hlt⟩
          obtain ⟨-, -, -, -, b, c, e, -, -, hc⟩ := (H.out.below (WL.out _ E.out.bl)).slices
          injection e with e1 e2 e3
          subst e1 e3
          obtain ⟨x, rfl, hx, hcell⟩ := hc (by intro e; rw [e] at hlt; simp at hlt)
          obtain ⟨d0, d1, d2, d3⟩ := hcell k j hj
          have IJ : Hid (∀ n ∈ Wd.jnums j, Wd.In64 n) := fun n hn => HI.out n (mem_nums.2 (by have : n ∈ W.qs.flatMap Wd.jnums := List.mem_flatMap.2 ⟨j, List.mem_of_getElem? hj, hn⟩; simp only [this, or_true]))
          have NX : Hid (nums3 W (k + 1) = nums3 W k ++ Wd.jnums j) := nums3_next hj
          have PL : Hid ((Wd.wr (nums3 W k)).length ≤ 180000000) := by have := pre_len (in_nums3 HI.out k) (nums3_len S.out k); unfold Hid; omega
          clear hc hcell hx hj hkl
          go_upto_region 23 with fail
          have NE : Hid (u3.ownBlock ≠ some wr.heap.size) := fun h => by have := (E.out.o.block _ h).2; omega
          have J0 : Hid (Jbc (wr.alloc (Obj.cells #[.int .i64 j.player, .int .i64 j.unit, .int .i64 j.kind, .int .i64 j.left] 104)) ⟨wr.heap.size, 0, none⟩ j) := Jbc.mk' j rfl
          have F0 : Hid (Ei w w1 W (.slice a1 W.gs.length k1) (.slice a2 W.os.length k2) (.slice a3 W.gold.length k3) (.slice a4 W.us.length k4) (.slice (some x) W.qs.length k5) u3 (Wd.wr (nums3 W k)) (wr.alloc (Obj.cells #[.int .i64 j.player, .int .i64 j.unit, .int .i64 j.kind, .int .i64 j.left] 104))) := E.out.stays ((Below.refl _ _).alloc (Nat.le_refl _) _)
          generalize (wr.alloc (Obj.cells #[.int .i64 j.player, .int .i64 j.unit, .int .i64 j.kind, .int .i64 j.left] 104)) = y0 at *
          generalize wr.heap.size = zj at *
          have G0 : Hid (Gb y0 u3 y0 u3) := Gb.refl _ _
          clear d0 d1 d2 d3 c8 E
          have cj := J0.out.c0
          go_wp2_with fail
          refine (rnumb_any (w.heap.size + 1) _ (Wd.wr (nums3 W k)) j.player _ F0.out.o F0.out.s (by have := PL.out; omega) (IJ.out _ (by simp [Wd.jnums]))).mono ?_
          rintro e y1 ⟨t0, rfl, ho, hg⟩
          have F1 : Hid (Ei w w1 W (.slice a1 W.gs.length k1) (.slice a2 W.os.length k2) (.slice a3 W.gold.length k3) (.slice a4 W.us.length k4) (.slice (some x) W.qs.length k5) t0 (Wd.wr (nums3 W k ++ [j.player])) y1) := F0.out.step hg (by have := ho; rw [← Wd.wr_one, ← Wd.wr_append] at this; exact this)
          have G1 : Hid (Gb y0 u3 y1 t0) := G0.out.trans hg
          have J1 : Hid (Jbc y1 ⟨zj, 0, none⟩ j) := by
            have z0 := J0.out.lt
            obtain ⟨r0, r1, r2, r3⟩ := J0.out
            have far : ∀ i, y1.cell? ⟨zj, i, none⟩ = y0.cell? ⟨zj, i, none⟩ := fun i => G1.out.g.cell_far ⟨zj, i, none⟩ z0 (fun e => NE.out e.symm)
            exact ⟨by rw [far]; exact r0, by rw [far]; exact r1, by rw [far]; exact r2, by rw [far]; exact r3⟩
          clear ho hg cj F0
          have cj := J1.out.c1
          go_wp2_with fail
          refine (rnumb_any (w.heap.size + 1) _ (Wd.wr (nums3 W k ++ [j.player])) j.unit _ F1.out.o F1.out.s (by have h1 := PL.out; have h2 := pre_len (xs := [j.player]) (m := 4) (fun n hn => IJ.out n (by simp at hn; simp [Wd.jnums]; omega)) (by simp); rw [Wd.wr_append, List.length_append]; omega) (IJ.out _ (by simp [Wd.jnums]))).mono ?_
          rintro e y2 ⟨t1, rfl, ho, hg⟩
          have F2 : Hid (Ei w w1 W (.slice a1 W.gs.length k1) (.slice a2 W.os.length k2) (.slice a3 W.gold.length k3) (.slice a4 W.us.length k4) (.slice (some x) W.qs.length k5) t1 (Wd.wr (nums3 W k ++ [j.player, j.unit])) y2) := F1.out.step hg (by have := ho; rw [← Wd.wr_one, ← Wd.wr_append] at this; rw [List.append_assoc] at this; exact this)
          have G2 : Hid (Gb y0 u3 y2 t1) := G1.out.trans hg
          have J2 : Hid (Jbc y2 ⟨zj, 0, none⟩ j) := by
            have z0 := J0.out.lt
            obtain ⟨r0, r1, r2, r3⟩ := J0.out
            have far : ∀ i, y2.cell? ⟨zj, i, none⟩ = y0.cell? ⟨zj, i, none⟩ := fun i => G2.out.g.cell_far ⟨zj, i, none⟩ z0 (fun e => NE.out e.symm)
            exact ⟨by rw [far]; exact r0, by rw [far]; exact r1, by rw [far]; exact r2, by rw [far]; exact r3⟩
          clear ho hg cj F1
          have cj := J2.out.c2
          go_wp2_with fail
          refine (rnumb_any (w.heap.size + 1) _ (Wd.wr (nums3 W k ++ [j.player, j.unit])) j.kind _ F2.out.o F2.out.s (by have h1 := PL.out; have h2 := pre_len (xs := [j.player, j.unit]) (m := 4) (fun n hn => IJ.out n (by simp at hn; simp [Wd.jnums]; omega)) (by simp); rw [Wd.wr_append, List.length_append]; omega) (IJ.out _ (by simp [Wd.jnums]))).mono ?_
          rintro e y3 ⟨t2, rfl, ho, hg⟩
          have F3 : Hid (Ei w w1 W (.slice a1 W.gs.length k1) (.slice a2 W.os.length k2) (.slice a3 W.gold.length k3) (.slice a4 W.us.length k4) (.slice (some x) W.qs.length k5) t2 (Wd.wr (nums3 W k ++ [j.player, j.unit, j.kind])) y3) := F2.out.step hg (by have := ho; rw [← Wd.wr_one, ← Wd.wr_append] at this; rw [List.append_assoc] at this; exact this)
          have G3 : Hid (Gb y0 u3 y3 t2) := G2.out.trans hg
          have J3 : Hid (Jbc y3 ⟨zj, 0, none⟩ j) := by
            have z0 := J0.out.lt
            obtain ⟨r0, r1, r2, r3⟩ := J0.out
            have far : ∀ i, y3.cell? ⟨zj, i, none⟩ = y0.cell? ⟨zj, i, none⟩ := fun i => G3.out.g.cell_far ⟨zj, i, none⟩ z0 (fun e => NE.out e.symm)
            exact ⟨by rw [far]; exact r0, by rw [far]; exact r1, by rw [far]; exact r2, by rw [far]; exact r3⟩
          clear ho hg cj F2
          have cj := J3.out.c3
          go_wp2_with fail
          refine (rnumb_any (w.heap.size + 1) _ (Wd.wr (nums3 W k ++ [j.player, j.unit, j.kind])) j.left _ F3.out.o F3.out.s (by have h1 := PL.out; have h2 := pre_len (xs := [j.player, j.unit, j.kind]) (m := 4) (fun n hn => IJ.out n (by simp at hn; simp [Wd.jnums]; omega)) (by simp); rw [Wd.wr_append, List.length_append]; omega) (IJ.out _ (by simp [Wd.jnums]))).mono ?_
          rintro e y4 ⟨t3, rfl, ho, hg⟩
          have F4 : Hid (Ei w w1 W (.slice a1 W.gs.length k1) (.slice a2 W.os.length k2) (.slice a3 W.gold.length k3) (.slice a4 W.us.length k4) (.slice (some x) W.qs.length k5) t3 (Wd.wr (nums3 W k ++ [j.player, j.unit, j.kind, j.left])) y4) := F3.out.step hg (by have := ho; rw [← Wd.wr_one, ← Wd.wr_append] at this; rw [List.append_assoc] at this; exact this)
          have G4 : Hid (Gb y0 u3 y4 t3) := G3.out.trans hg
          have J4 : Hid (Jbc y4 ⟨zj, 0, none⟩ j) := by
            have z0 := J0.out.lt
            obtain ⟨r0, r1, r2, r3⟩ := J0.out
            have far : ∀ i, y4.cell? ⟨zj, i, none⟩ = y0.cell? ⟨zj, i, none⟩ := fun i => G4.out.g.cell_far ⟨zj, i, none⟩ z0 (fun e => NE.out e.symm)
            exact ⟨by rw [far]; exact r0, by rw [far]; exact r1, by rw [far]; exact r2, by rw [far]; exact r3⟩
          clear ho hg cj F3
          have E5 : Hid (Ei w w1 W (.slice a1 W.gs.length k1) (.slice a2 W.os.length k2) (.slice a3 W.gold.length k3) (.slice a4 W.us.length k4) (.slice (some x) W.qs.length k5) t3 (Wd.wr (nums3 W (k + 1))) y4) := by have := F4.out; rw [NX.out]; exact this
          clear F4 J0 J1 J2 J3 J4 G0 G1 G2 G3 G4
          go_wp2
          go_roundw
          case rel => exact ⟨k + 1, by omega, rfl, E5.out⟩
          case measure => simp [intOf]; omega
    · have hlt : k < W.us.length := by omega
      have hli : (k : Int) < (W.us.length : Int) := by omega
      have hq : W.us.length ≤ 1048576 := S.out.u
      obtain ⟨j, hj⟩ : ∃ j, W.us[k]? = some j := ⟨_, List.getElem?_eq_getElem hlt⟩
      obtain ⟨-, -, -, ⟨b, c, e, -, -, hc⟩, -⟩ := (H.out.below (WL.out _ E.out.bl)).slices
      injection e with e1 e2 e3
      subst e1 e3
      obtain ⟨x, rfl, hx, hcell⟩ := hc (by intro e; rw [e] at hlt; simp at hlt)
      obtain ⟨d0, d1, d2, d3, d4, d5, d6, d7⟩ := hcell k j hj
      have IJ : Hid (∀ n ∈ Wd.unums j, Wd.In64 n) := fun n hn => HI.out n (mem_nums.2 (by have : n ∈ W.us.flatMap Wd.unums := List.mem_flatMap.2 ⟨j, List.mem_of_getElem? hj, hn⟩; simp only [this, true_or, or_true]))
      have NX : Hid (nums2 W (k + 1) = nums2 W k ++ Wd.unums j) := nums2_next hj
      have PL : Hid ((Wd.wr (nums2 W k)).length ≤ 130000000) := by have := pre_len (in_nums2 HI.out k) (nums2_len S.out k); unfold Hid; omega
      clear hc hcell hx hj hkl
      go_upto_region 15 with fail
      have F0 : Hid (Ei w w1 W (.slice a1 W.gs.length k1) (.slice a2 W.os.length k2) (.slice a3 W.gold.length k3) (.slice (some x) W.us.length k4) (.slice a5 W.qs.length k5) u3 (Wd.wr (nums2 W k)) ((wr.alloc (Obj.cells #[.int .i64 j.id, .int .i64 j.player, .int .i64 j.kind, .int .i64 j.at_, .int .i64 j.life, .int .i64 j.load, .int .i64 j.task, .int .i64 j.goal] 42)).alloc (Obj.cells #[.int .i64 j.id, .int .i64 j.player, .int .i64 j.kind, .int .i64 j.at_, .int .i64 j.life, .int .i64 j.load, .int .i64 j.task, .int .i64 j.goal] 3))) := E.out.stays (((Below.refl _ _).alloc (Nat.le_refl _) _).alloc (by simp) _)
      have LIT : Hid (Ro ((wr.alloc (Obj.cells #[.int .i64 j.id, .int .i64 j.player, .int .i64 j.kind, .int .i64 j.at_, .int .i64 j.life, .int .i64 j.load, .int .i64 j.task, .int .i64 j.goal] 42)).alloc (Obj.cells #[.int .i64 j.id, .int .i64 j.player, .int .i64 j.kind, .int .i64 j.at_, .int .i64 j.life, .int .i64 j.load, .int .i64 j.task, .int .i64 j.goal] 3)) (.slice (some ⟨wr.heap.size + 1, 0, none⟩) 8 8) (Wd.unums j)) := Ro.lit (Wd.unums j) _ rfl (by simp [Wd.unums]) (by simp)
      have NE : Hid (u3.ownBlock ≠ some (wr.heap.size + 1)) := fun h => by have := (E.out.o.block _ h).2; omega
      generalize ((wr.alloc (Obj.cells #[.int .i64 j.id, .int .i64 j.player, .int .i64 j.kind, .int .i64 j.at_, .int .i64 j.life, .int .i64 j.load, .int .i64 j.task, .int .i64 j.goal] 42)).alloc (Obj.cells #[.int .i64 j.id, .int .i64 j.player, .int .i64 j.kind, .int .i64 j.at_, .int .i64 j.life, .int .i64 j.load, .int .i64 j.task, .int .i64 j.goal] 3)) = y0 at *
      generalize wr.heap.size + 1 = zl at *
      clear d0 d1 d2 d3 d4 d5 d6 d7 c7 E
      have UL : Hid ((Wd.unums j).length = 8) := rfl
      obtain ⟨b3, hb3⟩ : ∃ b, b = u3 := ⟨_, rfl⟩
      subst hb3
      go_loopw [3, 7] (fun bv iv V => ∃ q : Nat, q ≤ 8 ∧ iv = .int .i64 (q : Nat) ∧ Ei w w1 W (.slice a1 W.gs.length k1) (.slice a2 W.os.length k2) (.slice a3 W.gold.length k3) (.slice (some x) W.us.length k4) (.slice a5 W.qs.length k5) bv (Wd.wr (nums2 W k ++ (Wd.unums j).take q)) V ∧ Gb y0 b3 V bv) (fun _ iv _ => 8 - (intOf iv).toNat)
      case atStart => exact ⟨0, by omega, rfl, by have := F0.out; rw [List.take_zero, List.append_nil]; exact this, Gb.refl _ _⟩
      case round =>
        obtain ⟨q, hq8, rfl, hE, hG⟩ := hrel
        have E2 : Hid (Ei w w1 W (.slice a1 W.gs.length k1) (.slice a2 W.os.length k2) (.slice a3 W.gold.length k3) (.slice (some x) W.us.length k4) (.slice a5 W.qs.length k5) u3 (Wd.wr (nums2 W k ++ (Wd.unums j).take q)) wr) := hE
        have G2 : Hid (Gb y0 b3 wr u3) := hG
        clear hE hG
        by_cases hq : q = 8
        · subst hq
          have E5 : Hid (Ei w w1 W (.slice a1 W.gs.length k1) (.slice a2 W.os.length k2) (.slice a3 W.gold.length k3) (.slice (some x) W.us.length k4) (.slice a5 W.qs.length k5) u3 (Wd.wr (nums2 W (k + 1))) wr) := by have := E2.out; rw [NX.out]; exact this
          clear hq8
          go_wp2
          go_roundw
          case rel => exact ⟨k + 1, by omega, rfl, E5.out⟩
          case measure => simp [intOf]; omega
        · have hql : q < (Wd.unums j).length := by rw [UL.out]; omega
          have hqi : (q : Int) < 8 := by omega
          obtain ⟨n, hn⟩ : ∃ n, (Wd.unums j)[q]? = some n := ⟨_, List.getElem?_eq_getElem hql⟩
          obtain ⟨ad9, cap9, e9, -, -, hc9⟩ := Ro.gb (B := 0) LIT.out G2.out (fun y n c h _ => by injection h with h; injection h with h; rw [← h]; exact NE.out)
          injection e9 with e1 e2 e3
          obtain ⟨x9, ex9, -, hcell9⟩ := hc9 (by intro e; rw [e] at hql; simp at hql)
          have cq : wr.cell? ⟨zl, q, none⟩ = some (.int .i64 n) := by
            have h1 := hcell9 q n hn
            rw [ex9] at e1
            injection e1 with e1
            rw [← e1, Addr.add_lit, Nat.zero_add] at h1
            exact h1
          have IN : Hid (Wd.In64 n) := IJ.out n (List.mem_of_getElem? hn)
          have LN : Hid ((Wd.wr (nums2 W k ++ (Wd.unums j).take q)).length ≤ 1000000000) := by
            unfold Hid
            have h1 := pre_len (xs := (Wd.unums j).take q) (m := 8) (fun n hn => IJ.out n (List.mem_of_mem_take hn)) (by rw [List.length_take, UL.out]; omega)
            have h2 := PL.out
            rw [Wd.wr_append, List.length_append]
            omega
          have NQ : Hid (Wd.wr (nums2 W k ++ (Wd.unums j).take q) ++ Wd.num n = Wd.wr (nums2 W k ++ (Wd.unums j).take (q + 1))) := by
            unfold Hid
            obtain ⟨hi9, e9⟩ := List.getElem?_eq_some_iff.1 hn
            rw [List.take_succ_eq_append_getElem hi9, e9, ← Wd.wr_one, ← Wd.wr_append, List.append_assoc]
          obtain ⟨L, hL⟩ : ∃ L, Wd.wr (nums2 W k ++ (Wd.unums j).take q) = L := ⟨_, rfl⟩
          rw [hL] at E2 LN NQ
          clear hc9 hcell9 hn hL e1 e2 e3 ex9 hql
          go_wp2_with fail
          refine (rnumb_any (w.heap.size + 1) u3 L n wr E2.out.o E2.out.s LN.out IN.out).mono ?_
          rintro e w5 ⟨t5, rfl, ho, hg⟩
          have E5 : Hid (Ei w w1 W (.slice a1 W.gs.length k1) (.slice a2 W.os.length k2) (.slice a3 W.gold.length k3) (.slice (some x) W.us.length k4) (.slice a5 W.qs.length k5) t5 (Wd.wr (nums2 W k ++ (Wd.unums j).take (q + 1))) w5) := E2.out.step hg (by rw [← NQ.out]; exact ho)
          have G5 : Hid (Gb y0 b3 w5 t5) := G2.out.trans hg
          clear ho hg cq
          go_wp2
          go_roundw
          case rel => exact ⟨q + 1, by omega, rfl, E5.out, G5.out⟩
          case measure => simp [intOf]; omega
end Go.Proofs.YtkejdkajfnaieaaGreatDoor

namespace Go.Proofs.YtkejdkajfnaieaaGreatDoor
open Go.RowKit
set_option linter.unusedVariables false

set_option maxRecDepth 100000 in
set_option maxHeartbeats 2000000 in
theorem rfind_any (v : Value) (W : WV) (id : Int) (w : World) (h : Wl w v W) :
    Calls Tryz.prog 34 #[v, .int .i64 id] w fun e w' => ∃ r : Int, e = .returned (.int .i64 r) ∧ FstU (fun u => u.id == id) W.us r ∧ Below w.heap.size w w' := by
  obtain ⟨u1, u2, u3, u4, u5, rfl, -, -, -, ⟨a, c, rfl, c1, c2, ca⟩, -⟩ := h
  have Ca : Hid (W.us ≠ [] → ∃ x, a = some x ∧ x.block < w.heap.size ∧ ∀ (i : Nat) k, W.us[i]? = some k → Unc w (x.add (i * 8)) k) := ca
  clear ca
  go_enter Tryz.func34, Tryz.ntmps34
  go_wp2
  have B0 : Hid (Below w.heap.size w (w.alloc (Obj.cells #[.int .i64 W.turn, .int .i64 W.next, .int .i64 W.wide, .int .i64 W.high, u1, u2, u3, .slice a W.us.length c, u5] 29))) := (Below.refl _ _).alloc (Nat.le_refl _) _
  have X0 : Hid (Bw (w.alloc (Obj.cells #[.int .i64 W.turn, .int .i64 W.next, .int .i64 W.wide, .int .i64 W.high, u1, u2, u3, .slice a W.us.length c, u5] 29)) w.heap.size W u1 u2 u3 (.slice a W.us.length c) u5) := Bw.mk' W _ _ _ _ _ rfl
  generalize w.alloc (Obj.cells #[.int .i64 W.turn, .int .i64 W.next, .int .i64 W.wide, .int .i64 W.high, u1, u2, u3, .slice a W.us.length c, u5] 29) = w0 at *
  go_loopw [5] (fun iv V => ∃ k : Nat, k ≤ W.us.length ∧ iv = .int .i64 (k : Nat) ∧ (W.us.take k).any (fun u => u.id == id) = false ∧ V = w0) (fun iv _ => W.us.length - (intOf iv).toNat)
  case atStart => exact ⟨0, Nat.zero_le _, rfl, rfl, rfl⟩
  case round =>
    obtain ⟨k, hk, rfl, hn, rfl⟩ := hrel
    have HN : Hid ((W.us.take k).any (fun u => u.id == id) = false) := hn
    have c7 := X0.out.c7
    clear hn
    by_cases hkl : k = W.us.length
    · have F : Hid (FstU (fun u => u.id == id) W.us (-1)) := .inl ⟨rfl, by have := HN.out; rwa [hkl, List.take_length] at this⟩
      subst hkl
      clear hk
      go_wp2
      go_ret
      exact ⟨-1, rfl, F.out, B0.out⟩
    · have hlt : k < W.us.length := by omega
      have hli : (k : Int) < (W.us.length : Int) := by omega
      obtain ⟨u, hu⟩ : ∃ u, W.us[k]? = some u := ⟨_, List.getElem?_eq_getElem hlt⟩
      obtain ⟨x, rfl, hx, hcell⟩ := Ca.out (by intro e; rw [e] at hlt; simp at hlt)
      obtain ⟨d0, -, -, -, -, -, -, -⟩ := (hcell k u hu).below B0.out (by rw [add_block]; exact hx)
      have HU : Hid (W.us[k]? = some u) := hu
      clear hcell hx hu hkl
      by_cases hid : u.id = id
      · have F : Hid (FstU (fun u => u.id == id) W.us (k : Nat)) := .inr ⟨k, u, rfl, HU.out, by simp [hid], HN.out⟩
        go_wp2
        go_ret
        exact ⟨_, rfl, F.out, B0.out⟩
      · have hidb : (u.id == id) = false := by simpa using hid
        have N2 : Hid ((W.us.take (k + 1)).any (fun u => u.id == id) = false) := by unfold Hid; rw [anyu_next HU.out, HN.out, hidb]; rfl
        clear hid
        go_wp2
        go_roundw
        case rel => exact ⟨k + 1, by omega, rfl, N2.out, trivial⟩
        case measure => simp [intOf]; omega
end Go.Proofs.YtkejdkajfnaieaaGreatDoor

namespace Go.Proofs.YtkejdkajfnaieaaGreatDoor
open Go.RowKit
set_option linter.unusedVariables false

set_option maxHeartbeats 1000000 in
theorem rnumber_q (n : Int) (q : Bool) (w : World) (hq : Hid (decide (0 ≤ n ∧ n ≤ 1000000) = q)) :
    Calls Tryz.prog 63 #[.int .i64 n] w fun e w' => e = .returned (.bool q) ∧ w' = w := by
  go_enter Tryz.func63, Tryz.ntmps63
  by_cases h0 : 0 ≤ n
  · by_cases h1 : n ≤ 1000000
    · have E : Hid (q = true) := by unfold Hid; rw [← hq.out]; simp [h0, h1]
      go_wp2
      go_ret
      exact ⟨by rw [E.out]; rfl, rfl⟩
    · have E : Hid (q = false) := by unfold Hid; rw [← hq.out]; simp [h1]
      go_wp2
      go_ret
      exact ⟨by rw [E.out]; rfl, rfl⟩
  · have E : Hid (q = false) := by unfold Hid; rw [← hq.out]; simp [h0]
    go_wp2
    go_ret
    exact ⟨by rw [E.out]; rfl, rfl⟩
set_option maxRecDepth 100000 in
set_option maxHeartbeats 2000000 in
theorem ron_any (v : Value) (W : WV) (at_ : Int) (w : World) (h : Wl w v W) :
    Calls Tryz.prog 65 #[v, .int .i64 at_] w fun e w' => ∃ r : Int, e = .returned (.int .i64 r) ∧ FstU (fun u => u.at_ == at_) W.us r ∧ Below w.heap.size w w' := by
  obtain ⟨u1, u2, u3, u4, u5, rfl, -, -, -, ⟨a, c, rfl, c1, c2, ca⟩, -⟩ := h
  have Ca : Hid (W.us ≠ [] → ∃ x, a = some x ∧ x.block < w.heap.size ∧ ∀ (i : Nat) k, W.us[i]? = some k → Unc w (x.add (i * 8)) k) := ca
  clear ca
  go_enter Tryz.func65, Tryz.ntmps65
  go_wp2
  have B0 : Hid (Below w.heap.size w (w.alloc (Obj.cells #[.int .i64 W.turn, .int .i64 W.next, .int .i64 W.wide, .int .i64 W.high, u1, u2, u3, .slice a W.us.length c, u5] 29))) := (Below.refl _ _).alloc (Nat.le_refl _) _
  have X0 : Hid (Bw (w.alloc (Obj.cells #[.int .i64 W.turn, .int .i64 W.next, .int .i64 W.wide, .int .i64 W.high, u1, u2, u3, .slice a W.us.length c, u5] 29)) w.heap.size W u1 u2 u3 (.slice a W.us.length c) u5) := Bw.mk' W _ _ _ _ _ rfl
  generalize w.alloc (Obj.cells #[.int .i64 W.turn, .int .i64 W.next, .int .i64 W.wide, .int .i64 W.high, u1, u2, u3, .slice a W.us.length c, u5] 29) = w0 at *
  go_loopw [5] (fun iv V => ∃ k : Nat, k ≤ W.us.length ∧ iv = .int .i64 (k : Nat) ∧ (W.us.take k).any (fun u => u.at_ == at_) = false ∧ V = w0) (fun iv _ => W.us.length - (intOf iv).toNat)
  case atStart => exact ⟨0, Nat.zero_le _, rfl, rfl, rfl⟩
  case round =>
    obtain ⟨k, hk, rfl, hn, rfl⟩ := hrel
    have HN : Hid ((W.us.take k).any (fun u => u.at_ == at_) = false) := hn
    have c7 := X0.out.c7
    clear hn
    by_cases hkl : k = W.us.length
    · have F : Hid (FstU (fun u => u.at_ == at_) W.us (-1)) := .inl ⟨rfl, by have := HN.out; rwa [hkl, List.take_length] at this⟩
      subst hkl
      clear hk
      go_wp2
      go_ret
      exact ⟨-1, rfl, F.out, B0.out⟩
    · have hlt : k < W.us.length := by omega
      have hli : (k : Int) < (W.us.length : Int) := by omega
      obtain ⟨u, hu⟩ : ∃ u, W.us[k]? = some u := ⟨_, List.getElem?_eq_getElem hlt⟩
      obtain ⟨x, rfl, hx, hcell⟩ := Ca.out (by intro e; rw [e] at hlt; simp at hlt)
      obtain ⟨-, -, -, d3, -, -, -, -⟩ := (hcell k u hu).below B0.out (by rw [add_block]; exact hx)
      have HU : Hid (W.us[k]? = some u) := hu
      clear hcell hx hu hkl
      by_cases hid : u.at_ = at_
      · have F : Hid (FstU (fun u => u.at_ == at_) W.us (k : Nat)) := .inr ⟨k, u, rfl, HU.out, by simp [hid], HN.out⟩
        go_wp2
        go_ret
        exact ⟨_, rfl, F.out, B0.out⟩
      · have hidb : (u.at_ == at_) = false := by simpa using hid
        have N2 : Hid ((W.us.take (k + 1)).any (fun u => u.at_ == at_) = false) := by unfold Hid; rw [anyu_next HU.out, HN.out, hidb]; rfl
        clear hid
        go_wp2
        go_roundw
        case rel => exact ⟨k + 1, by omega, rfl, N2.out, trivial⟩
        case measure => simp [intOf]; omega
end Go.Proofs.YtkejdkajfnaieaaGreatDoor

namespace Go.Proofs.YtkejdkajfnaieaaGreatDoor
open Go.RowKit
set_option linter.unusedVariables false

theorem ref_numbers (k : KV) (w : World) :
    Calls Tryz.prog 169 #[k.val] w fun e w' => ∃ u, e = .returned u ∧ Ro w' u [k.n0, k.n1, k.n2, k.n3, k.n4, k.n5, k.n6, k.n7] ∧ Below w.heap.size w w' := by
  obtain ⟨b, n0, n1, n2, n3, n4, n5, n6, n7, f, t⟩ := k
  unfold KV.val
  go_enter Tryz.func169, Tryz.ntmps169
  go_wp2_with fail
  go_ret
  refine ⟨_, rfl, ?_, ((Below.refl _ _).alloc (Nat.le_refl _) _).alloc (by simp) _⟩
  exact Ro.lit (w := w.alloc _) (z := w.heap.size + 1) [n0, n1, n2, n3, n4, n5, n6, n7] _ rfl (by simp) (by simp)

theorem name_empty {s : ByteArray} (h : s.data.toList = []) : s.toList.isEmpty = true := by
  rw [← decide_eq_emptyBytes s]
  exact decide_eq_true (WideShapes.bytes_inj (by rw [h]; rfl))
theorem name_some {s : ByteArray} (h : s.data.toList ≠ []) : s.toList.isEmpty = false := by
  rw [← decide_eq_emptyBytes s]
  exact decide_eq_false (fun e => h (by rw [e]; rfl))
theorem kf_name {ah : List Kd.K} {k : Kd.K} (h : Kd.nameOk k.name = false) : Kd.kindFault ah k = 2 := by
  unfold Kd.kindFault
  rw [if_neg (by rw [h]; decide)]

set_option maxRecDepth 100000 in
set_option maxHeartbeats 4000000 in
theorem ref_kind (v : Value) (ks : List KV) (i : Nat) (k : KV) (w : World) (h : Kl w v ks) (hi : ks[i]? = some k) (hn : ks.length ≤ 1000000) (hb : k.b.size ≤ 9223372036854775807) :
    Calls Tryz.prog 122 #[v, .int .i64 (i : Nat)] w fun e w' => e = .returned (.int .i64 (Kd.kindFault ((ks.take i).map KV.k) k.k)) ∧ Below w.heap.size w w' := by
  have hil : i < ks.length := (List.getElem?_eq_some_iff.1 hi).1
  obtain ⟨a, c, rfl, c1, c2, hx⟩ := h
  obtain ⟨x, rfl, xl, hk⟩ := hx (by intro e; rw [e] at hil; simp at hil)
  have Hk : Hid (x.block < w.heap.size ∧ ∀ (i : Nat) k, ks[i]? = some k → Kc w (x.add (i * 11)) k) := ⟨xl, hk⟩
  obtain ⟨q0, q1, q2, q3, q4, q5, q6, q7, q8, q9, q10⟩ := hk i k hi
  clear hx hk xl
  obtain ⟨l, hl⟩ : ∃ l, k.b.data.toList = l := ⟨_, rfl⟩
  have Hl : Hid (k.b.data.toList = l) := hl
  have Ll : Hid (l.length = k.b.size) := by unfold Hid; rw [← hl]; rfl
  have Kn : Hid (k.k.name = l) := hl
  have Km : Hid (k.k.nums = [k.n0, k.n1, k.n2, k.n3, k.n4, k.n5, k.n6, k.n7]) := rfl
  have Hi : Hid (ks[i]? = some k) := hi
  clear hi hl
  obtain ⟨R, hR⟩ : ∃ R, Kd.kindFault ((ks.take i).map KV.k) k.k = R := ⟨_, rfl⟩
  have HR : Hid (Kd.kindFault ((ks.take i).map KV.k) k.k = R) := hR
  rw [hR]
  clear hR
  have NB : Hid (Kd.nameOk l = false → R = 2) := fun h => by rw [← HR.out]; exact kf_name (by rw [Kn.out]; exact h)
  have Z : Hid (k.val = k.val) := rfl
  obtain ⟨kb, n0, n1, n2, n3, n4, n5, n6, n7, kf, kt⟩ := k
  simp only at q0 q1 q2 q3 q4 q5 q6 q7 q8 q9 q10 hb Hl Ll Km
  go_enter Tryz.func122, Tryz.ntmps122
  have B1 : Hid (Below w.heap.size w (w.alloc (Obj.cells #[.string kb, .int .i64 n0, .int .i64 n1, .int .i64 n2, .int .i64 n3, .int .i64 n4, .int .i64 n5, .int .i64 n6, .int .i64 n7, .bool kf, .bool kt] 101))) := (Below.refl _ _).alloc (Nat.le_refl _) _
  have X1 : Hid (Kc (w.alloc (Obj.cells #[.string kb, .int .i64 n0, .int .i64 n1, .int .i64 n2, .int .i64 n3, .int .i64 n4, .int .i64 n5, .int .i64 n6, .int .i64 n7, .bool kf, .bool kt] 101)) ⟨w.heap.size, 0, none⟩ ⟨kb, n0, n1, n2, n3, n4, n5, n6, n7, kf, kt⟩) := Kc.mk' ⟨kb, n0, n1, n2, n3, n4, n5, n6, n7, kf, kt⟩ rfl
  go_upto_region 2 with fail
  generalize w.alloc (Obj.cells #[.string kb, .int .i64 n0, .int .i64 n1, .int .i64 n2, .int .i64 n3, .int .i64 n4, .int .i64 n5, .int .i64 n6, .int .i64 n7, .bool kf, .bool kt] 101) = w1 at *
  have y0 : w1.cell? ⟨w.heap.size, 0, none⟩ = some (.string kb) := X1.out.c0
  have y1 : w1.cell? ⟨w.heap.size, 1, none⟩ = some (.int .i64 n0) := X1.out.c1
  have y2 : w1.cell? ⟨w.heap.size, 2, none⟩ = some (.int .i64 n1) := X1.out.c2
  have y3 : w1.cell? ⟨w.heap.size, 3, none⟩ = some (.int .i64 n2) := X1.out.c3
  have y4 : w1.cell? ⟨w.heap.size, 4, none⟩ = some (.int .i64 n3) := X1.out.c4
  have y5 : w1.cell? ⟨w.heap.size, 5, none⟩ = some (.int .i64 n4) := X1.out.c5
  have y6 : w1.cell? ⟨w.heap.size, 6, none⟩ = some (.int .i64 n5) := X1.out.c6
  have y7 : w1.cell? ⟨w.heap.size, 7, none⟩ = some (.int .i64 n6) := X1.out.c7
  have y8 : w1.cell? ⟨w.heap.size, 8, none⟩ = some (.int .i64 n7) := X1.out.c8
  have y9 : w1.cell? ⟨w.heap.size, 9, none⟩ = some (.bool kf) := X1.out.c9
  have y10 : w1.cell? ⟨w.heap.size, 10, none⟩ = some (.bool kt) := X1.out.c10
  clear q0 q1 q2 q3 q4 q5 q6 q7 q8 q9 q10
  by_cases h0 : l = []
  · have he : kb.toList.isEmpty = true := name_empty (by rw [Hl.out]; exact h0)
    have E : Hid (R = 2) := NB.out (by rw [h0]; rfl)
    clear h0
    go_wp2
    go_ret
    exact ⟨by rw [E.out]; rfl, B1⟩
  · have he : kb.toList.isEmpty = false := name_some (by rw [Hl.out]; exact h0)
    by_cases h1 : 8 < kb.size
    · have E : Hid (R = 2) := NB.out (by
        unfold Kd.nameOk
        rw [decide_eq_false (by rw [Ll.out]; omega)]
        simp)
      have h1' : (8 : Int) < (kb.size : Int) := by omega
      clear h0
      go_wp2
      go_ret
      exact ⟨by rw [E.out]; rfl, B1⟩
    · have h1' : ¬ (8 : Int) < (kb.size : Int) := by omega
      have NO : Hid (Kd.nameOk l = l.all Kd.isLetter) := by
        unfold Hid Kd.nameOk
        rw [decide_eq_true (by rw [Ll.out]; omega), Bool.true_and]
        cases l with
        | nil => exact absurd rfl h0
        | cons a r => rfl
      clear h0
      go_wp2_with fail
      go_loop [6] (fun j => ∃ q : Nat, q ≤ kb.size ∧ j = .int .i64 (q : Nat) ∧ (l.take q).all Kd.isLetter = true) (fun j => kb.size - (intOf j).toNat)
      case atStart => exact ⟨0, Nat.zero_le _, rfl, by simp⟩
      case round =>
        obtain ⟨q, hq, rfl, hd⟩ := hrel
        have Hd : Hid ((l.take q).all Kd.isLetter = true) := hd
        clear hd
        by_cases hqs : q = kb.size
        · have Ok : Hid (Kd.nameOk l = true) := by
            unfold Hid
            rw [NO.out]
            have := Hd.out
            rw [List.take_of_length_le (by rw [Ll.out, hqs]; exact Nat.le_refl _)] at this
            exact this
          subst hqs
          clear NO Hd NB
          go_wp2_with fail
          clear y0 y1 y2 y3 y4 y5 y6 y7 y8 y9 y10 he h1 h1' hq
          go_loopw [7] (fun j W' => ∃ q r : Nat, q ≤ i ∧ j = .int .i64 (q : Nat) ∧ (ks.take q).any (fun a => a.k.name == l) = false ∧ W' = w1.drewN r) (fun j _ => i - (intOf j).toNat)
          case atStart => exact ⟨0, 0, Nat.zero_le _, rfl, by simp, rfl⟩
          case round =>
            obtain ⟨q, r, hq, rfl, hany, rfl⟩ := hrel
            have An : Hid ((ks.take q).any (fun a => a.k.name == l) = false) := hany
            clear hany
            have kr : Below w1.heap.size w1 (w1.drewN r) := _root_.Go.below_drewN (Below.refl _ _) _
            have B2 : Hid (Below w.heap.size w (w1.drewN r)) := B1.out.trans (kr.mono B1.out.size)
            have Y2 : Hid (Kc (w1.drewN r) ⟨w.heap.size, 0, none⟩ ⟨kb, n0, n1, n2, n3, n4, n5, n6, n7, kf, kt⟩) := X1.out.below kr X1.out.lt
            have Qr : Hid (∀ n, (w1.drewN r).drewN n = w1.drewN (r + n)) := fun n => by rw [World.drewN_drewN]
            generalize w1.drewN r = w2 at *
            have y0 : w2.cell? ⟨w.heap.size, 0, none⟩ = some (.string kb) := Y2.out.c0
            by_cases hqi : q = i
            · have R1 : Hid (R = Kd.numsFault [n0, n1, n2, n3, n4, n5, n6, n7]) := by
                unfold Hid
                rw [← HR.out]
                unfold Kd.kindFault
                rw [Kn.out, if_pos Ok.out, List.any_map, if_neg, Km.out]
                have := An.out
                rw [hqi] at this
                intro h9
                rw [show ((fun a : Kd.K => a.name == l) ∘ KV.k) = fun a : KV => a.k.name == l from rfl, this] at h9
                cases h9
              subst hqi
              obtain ⟨x0, x1, x2, x3, x4, x5, x6, x7, x8, x9, x10⟩ := Y2.out
              have x1 : w2.cell? ⟨w.heap.size, 1, none⟩ = some (.int .i64 n0) := x1
              have x2 : w2.cell? ⟨w.heap.size, 2, none⟩ = some (.int .i64 n1) := x2
              have x3 : w2.cell? ⟨w.heap.size, 3, none⟩ = some (.int .i64 n2) := x3
              have x4 : w2.cell? ⟨w.heap.size, 4, none⟩ = some (.int .i64 n3) := x4
              have x5 : w2.cell? ⟨w.heap.size, 5, none⟩ = some (.int .i64 n4) := x5
              have x6 : w2.cell? ⟨w.heap.size, 6, none⟩ = some (.int .i64 n5) := x6
              have x7 : w2.cell? ⟨w.heap.size, 7, none⟩ = some (.int .i64 n6) := x7
              have x8 : w2.cell? ⟨w.heap.size, 8, none⟩ = some (.int .i64 n7) := x8
              have x9 : w2.cell? ⟨w.heap.size, 9, none⟩ = some (.bool kf) := x9
              have x10 : w2.cell? ⟨w.heap.size, 10, none⟩ = some (.bool kt) := x10
              go_wp2_with fail
              refine (ref_numbers ⟨kb, n0, n1, n2, n3, n4, n5, n6, n7, kf, kt⟩ _).mono ?_
              rintro e w3 ⟨u, rfl, hu, k3⟩
              have B3 : Hid (Below w.heap.size w w3) := B2.out.trans (k3.mono B2.out.size)
              have Y3 := Y2.out.below k3 Y2.out.lt
              obtain ⟨au, cu, rfl, g1, g2, hc⟩ := hu
              obtain ⟨yu, rfl, -, hyu⟩ := hc (by simp)
              have Yu : Hid (∀ (j : Nat) d, [n0, n1, n2, n3, n4, n5, n6, n7][j]? = some d → w3.cell? (yu.add j) = some (.int .i64 d)) := hyu
              clear k3 hc hyu x0 x1 x2 x3 x4 x5 x6 x7 x8 x9 x10 y0 An
              obtain ⟨ns, hns⟩ : ∃ ns, [n0, n1, n2, n3, n4, n5, n6, n7] = ns := ⟨_, rfl⟩
              have Hns : Hid ([n0, n1, n2, n3, n4, n5, n6, n7] = ns) := hns
              simp only [List.length_cons, List.length_nil, Nat.zero_add, Nat.reduceAdd] at g1 ⊢
              rw [hns] at R1 Yu
              have nl : Hid (ns.length = 8) := by rw [← hns]; rfl
              clear hns
              go_wp2_with fail
              go_loop [9] (fun j => ∃ p : Nat, p ≤ 8 ∧ j = .int .i64 (p : Nat) ∧ (ns.take p).any (fun x => decide (x < 0 ∨ 1000 < x)) = false) (fun j => 8 - (intOf j).toNat)
              case atStart => exact ⟨0, Nat.zero_le _, rfl, by simp⟩
              case round =>
                obtain ⟨p, hp, rfl, hany⟩ := hrel
                have An : Hid ((ns.take p).any (fun x => decide (x < 0 ∨ 1000 < x)) = false) := hany
                clear hany
                by_cases hp8 : p = 8
                · have R2 : Hid (R = if n0 < 1 ∨ 4 < n4 ∨ 12 < n2 ∨ 12 < n3 then 1 else 0) := by
                    have h9 := An.out
                    rw [List.take_of_length_le (by rw [nl.out, hp8]; exact Nat.le_refl _)] at h9
                    unfold Hid
                    rw [R1.out]
                    unfold Kd.numsFault
                    rw [if_neg (by rw [h9]; decide), ← Hns.out]
                    rfl
                  have z1 : w3.cell? ⟨w.heap.size, 1, none⟩ = some (.int .i64 n0) := Y3.c1
                  have z3 : w3.cell? ⟨w.heap.size, 3, none⟩ = some (.int .i64 n2) := Y3.c3
                  have z4 : w3.cell? ⟨w.heap.size, 4, none⟩ = some (.int .i64 n3) := Y3.c4
                  have z5 : w3.cell? ⟨w.heap.size, 5, none⟩ = some (.int .i64 n4) := Y3.c5
                  subst hp8
                  clear R1 An Y3
                  by_cases t1 : n0 < 1
                  · have E : Hid (R = 1) := by unfold Hid; rw [R2.out, if_pos (.inl t1)]
                    go_wp2
                    go_ret
                    exact ⟨by rw [E.out]; rfl, B3⟩
                  · by_cases t2 : 4 < n4
                    · have E : Hid (R = 1) := by unfold Hid; rw [R2.out, if_pos (.inr (.inl t2))]
                      go_wp2
                      go_ret
                      exact ⟨by rw [E.out]; rfl, B3⟩
                    · by_cases t3 : 12 < n2
                      · have E : Hid (R = 1) := by unfold Hid; rw [R2.out, if_pos (.inr (.inr (.inl t3)))]
                        go_wp2
                        go_ret
                        exact ⟨by rw [E.out]; rfl, B3⟩
                      · by_cases t4 : 12 < n3
                        · have E : Hid (R = 1) := by unfold Hid; rw [R2.out, if_pos (.inr (.inr (.inr t4)))]
                          go_wp2
                          go_ret
                          exact ⟨by rw [E.out]; rfl, B3⟩
                        · have E : Hid (R = 0) := by unfold Hid; rw [R2.out, if_neg (by omega)]
                          go_wp2
                          go_ret
                          exact ⟨by rw [E.out]; rfl, B3⟩
                · have hpn : p < ns.length := by rw [nl.out]; omega
                  have hp9 : p < 8 := by omega
                  have cp := Yu.out p _ (List.getElem?_eq_getElem hpn)
                  have As : Hid ((ns.take (p + 1)).any (fun x => decide (x < 0 ∨ 1000 < x)) = decide (ns[p] < 0 ∨ 1000 < ns[p])) := by
                    unfold Hid
                    rw [List.take_succ_eq_append_getElem hpn, List.any_append, An.out]
                    simp
                  have N2 : Hid ((ns[p] < 0 ∨ 1000 < ns[p]) → R = 1) := fun h => by
                    rw [R1.out]
                    unfold Kd.numsFault
                    rw [if_pos]
                    rw [List.any_eq_true]
                    exact ⟨_, List.getElem_mem hpn, decide_eq_true h⟩
                  generalize ns[p] = y at *
                  by_cases t1 : y < 0
                  · have E : Hid (R = 1) := N2.out (.inl t1)
                    clear N2 As
                    go_wp2
                    go_ret
                    exact ⟨by rw [E.out]; rfl, B3⟩
                  · by_cases t2 : 1000 < y
                    · have E : Hid (R = 1) := N2.out (.inr t2)
                      clear N2 As
                      go_wp2
                      go_ret
                      exact ⟨by rw [E.out]; rfl, B3⟩
                    · have As' : Hid ((ns.take (p + 1)).any (fun x => decide (x < 0 ∨ 1000 < x)) = false) := by
                        unfold Hid
                        rw [As.out]
                        exact decide_eq_false (by omega)
                      clear N2 As
                      go_wp2
                      go_round
                      case rel => exact ⟨p + 1, by omega, by go_num, As'⟩
                      case measure => simp [intOf]; omega
            · have hqi' : q < i := by omega
              obtain ⟨kj, hkj⟩ : ∃ kj, ks[q]? = some kj := ⟨_, List.getElem?_eq_getElem (by omega)⟩
              have cj : w2.cell? (x.add (q * 11)) = some (.string kj.b) := by
                rw [B2.out.cell (p := x.add (q * 11)) (by rw [add_block]; exact Hk.out.1)]
                exact (Hk.out.2 q kj hkj).c0
              have As : Hid ((ks.take (q + 1)).any (fun a => a.k.name == l) = (kj.b.data.toList == l)) := by
                unfold Hid
                have hql : q < ks.length := by omega
                rw [List.take_succ_eq_append_getElem hql, List.any_append, An.out]
                have e : ks[q] = kj := by
                  rw [List.getElem?_eq_getElem hql] at hkj
                  injection hkj
                rw [e]
                simp [KV.k]
              have hqk : q < ks.length := by omega
              by_cases hE : kj.b = kb
              · have E : Hid (R = 8) := by
                  unfold Hid
                  rw [← HR.out]
                  unfold Kd.kindFault
                  rw [Kn.out, if_pos Ok.out, List.any_map, if_pos]
                  rw [List.any_eq_true]
                  refine ⟨kj, ?_, by show (kj.b.data.toList == l) = true; rw [hE, Hl.out]; simp⟩
                  rw [List.mem_iff_getElem?]
                  exact ⟨q, by rw [List.getElem?_take, if_pos hqi']; exact hkj⟩
                rw [hE] at cj
                clear hE hkj As
                go_wp2
                go_quiet (fail)
                go_wp2
                go_ret
                exact ⟨by rw [E.out]; rfl, _root_.Go.below_drewN B2.out _⟩
              · have As' : Hid ((ks.take (q + 1)).any (fun a => a.k.name == l) = false) := by
                  unfold Hid
                  rw [As.out]
                  cases h9 : (kj.b.data.toList == l) with
                  | false => rfl
                  | true =>
                    have : kj.b.data.toList = l := by simpa using h9
                    exact absurd (WideShapes.bytes_inj (by rw [this, Hl.out])) hE
                have hE2 : (kj.b.toList == kb.toList) = false := by
                  rw [ByteArray.toList_eq, ByteArray.toList_eq]
                  cases h9 : (kj.b.data.toList == kb.data.toList) with
                  | false => rfl
                  | true => exact absurd (WideShapes.bytes_inj (by simpa using h9)) hE
                clear As hkj
                generalize kj.b = jb at *
                go_wp2
                go_quiet (fail)
                go_wp2
                go_round
                case rel => exact ⟨q + 1, r + nq, by omega, by go_num, As', Qr.out _⟩
                case measure => simp [intOf]; omega
        · have hqs' : q < kb.size := by omega
          have hql : q < l.length := by rw [Ll.out]; exact hqs'
          have eb : l[q] = kb[q] := by
            have := Hl.out
            subst this
            rfl
          have TK : Hid (l.take (q + 1) = l.take q ++ [kb[q]]) := by unfold Hid; rw [List.take_succ_eq_append_getElem hql, eb]
          have MB : Hid (kb[q] ∈ l) := by unfold Hid; rw [← eb]; exact List.getElem_mem hql
          have N2 : Hid (Kd.isLetter kb[q] = false → R = 2) := fun h => NB.out (by
            rw [NO.out]
            cases ha : l.all Kd.isLetter with
            | false => rfl
            | true =>
              have := List.all_eq_true.1 ha _ MB.out
              rw [h] at this
              cases this)
          have DS : Hid (Kd.isLetter kb[q] = true → (l.take (q + 1)).all Kd.isLetter = true) := fun h => by rw [TK.out, List.all_append, Hd.out]; simpa using h
          have Db : Hid (Kd.isLetter kb[q] = (decide (97 ≤ kb[q].toNat) && decide (kb[q].toNat ≤ 122))) := rfl
          obtain ⟨b, hb9⟩ : ∃ b, kb[q].toNat = b := ⟨_, rfl⟩
          rw [hb9] at Db
          clear eb hql MB TK
          by_cases p1 : b < 97
          · have E : Hid (R = 2) := N2.out (by rw [Db.out, decide_eq_false (by omega)]; rfl)
            have p1' : (b : Int) < 97 := by omega
            clear N2 Db DS
            go_wp2
            go_ret
            exact ⟨by rw [E.out]; rfl, B1⟩
          · have p1' : ¬ (b : Int) < 97 := by omega
            by_cases p2 : 122 < b
            · have E : Hid (R = 2) := N2.out (by rw [Db.out, decide_eq_false (show ¬ b ≤ 122 by omega), Bool.and_false])
              have p2' : (122 : Int) < (b : Int) := by omega
              clear N2 Db DS
              go_wp2
              go_ret
              exact ⟨by rw [E.out]; rfl, B1⟩
            · have p2' : ¬ (122 : Int) < (b : Int) := by omega
              have DD : Hid ((l.take (q + 1)).all Kd.isLetter = true) := DS.out (by rw [Db.out, decide_eq_true (by omega), decide_eq_true (by omega)]; rfl)
              clear N2 Db DS
              go_wp2
              go_round
              case rel => exact ⟨q + 1, by omega, by go_num, DD⟩
              case measure => simp [intOf]; omega
end Go.Proofs.YtkejdkajfnaieaaGreatDoor

namespace Go.Proofs.YtkejdkajfnaieaaGreatDoor
open Go.RowKit
set_option linter.unusedVariables false

theorem kindsGo_at {ks : List KV} {i : Nat} {k : KV} (h : ks[i]? = some k) : Kd.kindsGo ((ks.take i).map KV.k) ((ks.drop i).map KV.k) = if Kd.kindFault ((ks.take i).map KV.k) k.k = 0 then Kd.kindsGo ((ks.take (i + 1)).map KV.k) ((ks.drop (i + 1)).map KV.k) else Kd.kindFault ((ks.take i).map KV.k) k.k := by
  obtain ⟨hi, e⟩ := List.getElem?_eq_some_iff.1 h
  rw [List.drop_eq_getElem_cons hi, e, List.map_cons, Kd.kindsGo, List.take_succ_eq_append_getElem hi, e, List.map_append]
  rfl

set_option maxHeartbeats 1000000 in
theorem ref_kinds (v : Value) (ks : List KV) (w : World) (h : Kl w v ks) (hb : ∀ k ∈ ks, k.b.size ≤ 9223372036854775807) :
    Calls Tryz.prog 61 #[v] w fun e w' => e = .returned (.int .i64 (Kd.kindsFault (ks.map KV.k))) ∧ Below w.heap.size w w' := by
  have K0 : Hid (Kl w v ks) := h
  have Hb : Hid (∀ k ∈ ks, k.b.size ≤ 9223372036854775807) := hb
  obtain ⟨R, hR⟩ : ∃ R, Kd.kindsFault (ks.map KV.k) = R := ⟨_, rfl⟩
  have HR : Hid (Kd.kindsFault (ks.map KV.k) = R) := hR
  rw [hR]
  clear hR hb
  obtain ⟨a, c, rfl, c1, c2, -⟩ := h
  by_cases h8 : 8 < ks.length
  · have E : Hid (R = 4) := by unfold Hid; rw [← HR.out]; unfold Kd.kindsFault; rw [if_pos (by simpa using h8)]
    have h8' : (8 : Int) < (ks.length : Int) := by omega
    go_enter Tryz.func61, Tryz.ntmps61
    go_wp2
    go_ret
    exact ⟨by rw [E.out]; rfl, Below.refl _ _⟩
  · have h8' : ¬ (8 : Int) < (ks.length : Int) := by omega
    have R1 : Hid (Kd.kindsGo [] (ks.map KV.k) = R) := by unfold Hid; rw [← HR.out]; unfold Kd.kindsFault; rw [if_neg (by simpa using h8)]
    go_enter Tryz.func61, Tryz.ntmps61
    go_wp2_with fail
    go_loopw [3] (fun j W' => ∃ q : Nat, q ≤ ks.length ∧ j = .int .i64 (q : Nat) ∧ Kd.kindsGo ((ks.take q).map KV.k) ((ks.drop q).map KV.k) = R ∧ Below w.heap.size w W') (fun j _ => ks.length - (intOf j).toNat)
    case atStart => exact ⟨0, Nat.zero_le _, rfl, R1, Below.refl _ _⟩
    case round =>
      obtain ⟨q, hq, rfl, hg, hb⟩ := hrel
      have Gq : Hid (Kd.kindsGo ((ks.take q).map KV.k) ((ks.drop q).map KV.k) = R) := hg
      have B : Hid (Below w.heap.size w wr) := hb
      clear hg hb
      by_cases hql : q = ks.length
      · have E : Hid (R = 0) := by
          unfold Hid
          rw [← Gq.out, hql, List.drop_of_length_le (Nat.le_refl _)]
          rfl
        subst hql
        go_wp2
        go_ret
        exact ⟨by rw [E.out]; rfl, B⟩
      · have hqk : q < ks.length := by omega
        obtain ⟨k, hk⟩ : ∃ k, ks[q]? = some k := ⟨_, List.getElem?_eq_getElem hqk⟩
        have At : Hid (R = if Kd.kindFault ((ks.take q).map KV.k) k.k = 0 then Kd.kindsGo ((ks.take (q + 1)).map KV.k) ((ks.drop (q + 1)).map KV.k) else Kd.kindFault ((ks.take q).map KV.k) k.k) := by
          unfold Hid
          rw [← kindsGo_at hk]
          exact Gq.out.symm
        have CK := ref_kind (.slice a ks.length c) ks q k wr (K0.out.below B.out) hk (by omega) (Hb.out k (List.mem_of_getElem? hk))
        generalize Kd.kindFault ((ks.take q).map KV.k) k.k = F at *
        have CK' : Hid (Calls Tryz.prog 122 #[.slice a ks.length c, .int .i64 (q : Nat)] wr fun e w' => e = .returned (.int .i64 F) ∧ Below wr.heap.size wr w') := CK
        clear CK hk
        go_wp2_with fail
        refine Calls.mono CK'.out ?_
        rintro e w2 ⟨rfl, k2⟩
        have B2 : Hid (Below w.heap.size w w2) := B.out.trans (k2.mono B.out.size)
        clear k2 CK'
        by_cases hF : F = 0
        · have G2 : Hid (Kd.kindsGo ((ks.take (q + 1)).map KV.k) ((ks.drop (q + 1)).map KV.k) = R) := by
            unfold Hid
            have := At.out
            rw [if_pos hF] at this
            exact this.symm
          subst hF
          clear At
          go_wp2
          go_round
          case rel => exact ⟨q + 1, by omega, by go_num, G2, B2⟩
          case measure => simp [intOf]; omega
        · have E : Hid (R = F) := by
            unfold Hid
            have := At.out
            rw [if_neg hF] at this
            exact this
          clear At
          go_wp2
          go_ret
          exact ⟨by rw [E.out]; rfl, B2⟩
end Go.Proofs.YtkejdkajfnaieaaGreatDoor

namespace Go.Proofs.YtkejdkajfnaieaaGreatDoor
open Go.RowKit
set_option linter.unusedVariables false

theorem ret_int {k : IntKind} {a b : Int} (h : a = b) : Ending.returned (.int k a) = .returned (.int k b) := by rw [h]

set_option maxHeartbeats 1000000 in
theorem ref_cells (a b : Option Addr) (c d : Nat) (W H : Int) (gs os : List Int) (w : World) (w1 : 1 ≤ W) (w2 : W ≤ 12) (h1 : 1 ≤ H) (h2 : H ≤ 12) (hg : (gs.length : Int) = W * H) (ho : (os.length : Int) = W * H)
    (c1 : gs.length ≤ c) (c2 : c ≤ 9223372036854775807) (d1 : os.length ≤ d) (d2 : d ≤ 9223372036854775807) (ha : Cells w a gs) (hb : Cells w b os) :
    Calls Tryz.prog 62 #[.agg #[.int .i64 W, .int .i64 H, .slice a gs.length c, .slice b os.length d]] w fun e w' => e = .returned (.int .i64 (Fd.cellsFault gs os)) ∧ Below w.heap.size w w' := by
  have Ha : Hid (Cells w a gs) := ha
  have Hb : Hid (Cells w b os) := hb
  have hn : W * H ≤ 144 := by
    have := Int.mul_le_mul w2 h2 (by omega) (by omega)
    omega
  have Ho : Hid (os.length = gs.length) := by unfold Hid; omega
  have e1 : W * H = (gs.length : Int) := by omega
  have e2 : os.length = gs.length := Ho.out
  have hnn : gs.length ≤ 144 := by omega
  clear ha hb
  rw [e2] at d1 ⊢
  clear hg ho e2
  generalize hw0 : w.alloc (Obj.cells #[.int .i64 W, .int .i64 H, .slice a gs.length c, .slice b gs.length d] 25) = w0
  have B0 : Hid (Below w.heap.size w w0) := by rw [← hw0]; exact (Below.refl _ _).alloc (Nat.le_refl _) _
  have f0 : w0.cell? ⟨w.heap.size, 2, none⟩ = some (.slice a gs.length c) := by rw [← hw0]; simp
  have f1 : w0.cell? ⟨w.heap.size, 3, none⟩ = some (.slice b gs.length d) := by rw [← hw0]; simp
  have Hw : Hid (w.alloc (Obj.cells #[.int .i64 W, .int .i64 H, .slice a gs.length c, .slice b gs.length d] 25) = w0) := hw0
  clear hw0
  have Ca : Hid (Cells w0 a gs) := Ha.out.below B0.out
  have Cb : Hid (Cells w0 b os) := Hb.out.below B0.out
  clear Ha Hb
  go_enter Tryz.func62, Tryz.ntmps62
  go_wp2_with fail
  rw [Hw.out]
  go_loop [3] (fun i => ∃ (k : Nat), k ≤ gs.length ∧ i = .int .i64 (k : Nat) ∧ Fd.cellsFault (gs.drop k) (os.drop k) = Fd.cellsFault gs os) (fun i => gs.length - (intOf i).toNat)
  case atStart => exact ⟨0, Nat.zero_le _, rfl, by simp⟩
  case round =>
    obtain ⟨k, hk, rfl, hf⟩ := hrel
    have Hf : Hid (Fd.cellsFault (gs.drop k) (os.drop k) = Fd.cellsFault gs os) := hf
    clear hf
    by_cases h0 : k = gs.length
    · subst h0
      go_wp2
      go_ret
      refine ⟨?_, B0.out⟩
      rw [← Hf.out, List.drop_of_length_le (Nat.le_refl _)]
      rfl
    · have hkx : k < gs.length := by omega
      have hky : k < os.length := by rw [Ho.out]; exact hkx
      obtain ⟨x, rfl, -, hx⟩ := Ca.out (by intro h; rw [h] at hkx; simp at hkx)
      obtain ⟨y, rfl, -, hy⟩ := Cb.out (by intro h; rw [h] at hky; simp at hky)
      have cx := hx k gs[k] (List.getElem?_eq_getElem hkx)
      have cy := hy k os[k] (List.getElem?_eq_getElem hky)
      have Te := Fd.cellsFault_drop gs os k gs[k] os[k] (List.getElem?_eq_getElem hkx) (List.getElem?_eq_getElem hky)
      rw [Hf.out] at Te
      have HT : Hid _ := Te
      generalize gs[k] = p at *
      generalize os[k] = r at *
      clear hx hy Te
      have Bad : Hid ((p < 0 ∨ 3 < p ∨ r < 0 ∨ 1000000 < r) → Fd.cellsFault gs os = 1) := fun h => by
        have e : Fd.cellFault p r = 1 := by unfold Fd.cellFault; rw [if_pos h]
        have := HT.out
        rw [e] at this
        exact this
      by_cases q1 : p < 0
      · go_wp2
        go_ret
        exact ⟨ret_int (Bad.out (.inl q1)).symm, B0.out⟩
      · by_cases q2 : 3 < p
        · go_wp2
          go_ret
          exact ⟨ret_int (Bad.out (.inr (.inl q2))).symm, B0.out⟩
        · by_cases q3 : r < 0
          · go_wp2
            go_ret
            exact ⟨ret_int (Bad.out (.inr (.inr (.inl q3)))).symm, B0.out⟩
          · by_cases q4 : 1000000 < r
            · go_wp2
              go_ret
              exact ⟨ret_int (Bad.out (.inr (.inr (.inr q4)))).symm, B0.out⟩
            · have HT2 : Hid (Fd.cellsFault gs os = if 0 < r ∧ p ≠ 0 then 7 else Fd.cellsFault (gs.drop (k + 1)) (os.drop (k + 1))) := by
                unfold Hid
                have e : Fd.cellFault p r = if 0 < r ∧ p ≠ 0 then 7 else 0 := by unfold Fd.cellFault; rw [if_neg (by omega)]
                rw [HT.out, e]
                by_cases q : 0 < r ∧ p ≠ 0
                · rw [if_pos q, if_pos q, if_neg (show ¬ (7 : Int) = 0 by decide)]
                · rw [if_neg q, if_neg q, if_pos rfl]
              clear HT Bad
              by_cases q5 : 0 < r
              · by_cases q6 : p = 0
                · subst q6
                  go_wp2
                  go_round
                  case rel => exact ⟨k + 1, by omega, by go_num, by rw [HT2.out, if_neg (by simp)]⟩
                  case measure => simp [intOf]; omega
                · go_wp2
                  go_ret
                  exact ⟨ret_int (by rw [HT2.out, if_pos ⟨q5, q6⟩]), B0.out⟩
              · go_wp2
                go_round
                case rel => exact ⟨k + 1, by omega, by go_num, by rw [HT2.out, if_neg (by omega)]⟩
                case measure => simp [intOf]; omega

set_option maxHeartbeats 1000000 in
theorem ref_range (u1 u2 : Value) (W H : Int) (w : World) (h : W < 1 ∨ 12 < W ∨ H < 1 ∨ 12 < H) :
    Calls Tryz.prog 62 #[.agg #[.int .i64 W, .int .i64 H, u1, u2]] w fun e w' => e = .returned (.int .i64 1) ∧ Below w.heap.size w w' := by
  have B : Hid (∀ o, Below w.heap.size w (w.alloc o)) := fun o => (Below.refl _ _).alloc (Nat.le_refl _) _
  by_cases q1 : W < 1
  · go_enter Tryz.func62, Tryz.ntmps62
    go_wp2
    go_ret
    exact ⟨rfl, B.out _⟩
  · by_cases q2 : 12 < W
    · go_enter Tryz.func62, Tryz.ntmps62
      go_wp2
      go_ret
      exact ⟨rfl, B.out _⟩
    · by_cases q3 : H < 1
      · go_enter Tryz.func62, Tryz.ntmps62
        go_wp2
        go_ret
        exact ⟨rfl, B.out _⟩
      · have q4 : 12 < H := by omega
        clear h
        go_enter Tryz.func62, Tryz.ntmps62
        go_wp2
        go_ret
        exact ⟨rfl, B.out _⟩

set_option maxHeartbeats 1000000 in
theorem ref_shape (a b : Option Addr) (n m c d : Nat) (W H : Int) (w : World) (w1 : 1 ≤ W) (w2 : W ≤ 12) (h1 : 1 ≤ H) (h2 : H ≤ 12) (h : (n : Int) ≠ W * H ∨ (m : Int) ≠ W * H) :
    Calls Tryz.prog 62 #[.agg #[.int .i64 W, .int .i64 H, .slice a n c, .slice b m d]] w fun e w' => e = .returned (.int .i64 3) ∧ Below w.heap.size w w' := by
  have hn : W * H ≤ 144 := by
    have := Int.mul_le_mul w2 h2 (by omega) (by omega)
    omega
  have hp : 0 ≤ W * H := Int.mul_nonneg (by omega) (by omega)
  by_cases e : (n : Int) = W * H
  · have e2 : ¬ (m : Int) = W * H := by omega
    have e' : W * H = (n : Int) := e.symm
    rw [e'] at e2
    clear h e
    go_enter Tryz.func62, Tryz.ntmps62
    go_wp2
    go_ret
    exact ⟨rfl, (Below.refl _ _).alloc (Nat.le_refl _) _⟩
  · clear h
    go_enter Tryz.func62, Tryz.ntmps62
    go_wp2
    go_ret
    exact ⟨rfl, (Below.refl _ _).alloc (Nat.le_refl _) _⟩

/-- what the reference says of a field. -/
theorem ref_field (v : Value) (W H : Int) (gs os : List Int) (w : World) (h : Fl w v W H gs os) :
    Calls Tryz.prog 62 #[v] w fun e w' => e = .returned (.int .i64 (Fd.fault W H gs os)) ∧ Below w.heap.size w w' := by
  obtain ⟨u1, u2, rfl, ⟨a, c, rfl, c1, c2, ca⟩, ⟨b, d, rfl, d1, d2, cb⟩⟩ := h
  unfold Fd.fault
  by_cases h1 : W < 1 ∨ 12 < W ∨ H < 1 ∨ 12 < H
  · rw [if_pos h1]
    exact ref_range _ _ W H w h1
  · rw [if_neg h1]
    by_cases h2 : (gs.length : Int) ≠ W * H ∨ (os.length : Int) ≠ W * H
    · rw [if_pos h2]
      exact ref_shape _ _ _ _ _ _ W H w (by omega) (by omega) (by omega) (by omega) h2
    · rw [if_neg h2]
      exact ref_cells a b c d W H gs os w (by omega) (by omega) (by omega) (by omega) (by omega) (by omega) c1 c2 d1 d2 ca cb
end Go.Proofs.YtkejdkajfnaieaaGreatDoor

namespace Go.Proofs.YtkejdkajfnaieaaGreatDoor
open Go.RowKit
set_option linter.unusedVariables false

set_option maxRecDepth 100000 in
set_option maxHeartbeats 1000000 in
theorem ref_onto (v : Value) (W H : Int) (gs os : List Int) (a : Nat) (g : Int) (fl : Bool) (w : World) (h : Fl w v W H gs os) (hl : gs.length ≤ 144) (hg : gs[a]? = some g) (g0 : 0 ≤ g) (g3 : g ≤ 3) :
    Calls Tryz.prog 64 #[v, .int .i64 (a : Nat), .bool fl] w fun e w' => e = .returned (.int .i64 (Fd.onto g fl)) ∧ Below w.heap.size w w' := by
  obtain ⟨u1, u2, rfl, ⟨a1, c, rfl, c1, c2, ca⟩, ⟨b1, d, rfl, d1, d2, cb⟩⟩ := h
  have hal : a < gs.length := (List.getElem?_eq_some_iff.1 hg).1
  obtain ⟨x, rfl, xl, hx⟩ := ca (by intro e; rw [e] at hal; simp at hal)
  have j0 : (0 : Int) ≤ (a : Int) := by omega
  have j1 : (a : Int) < (gs.length : Int) := by omega
  obtain ⟨w0, hw0⟩ : ∃ w0, w.alloc (Obj.cells #[.int .i64 W, .int .i64 H, .slice (some x) gs.length c, .slice b1 os.length d] 25) = w0 := ⟨_, rfl⟩
  have B0 : Hid (Below w.heap.size w w0) := by rw [← hw0]; exact (Below.refl _ _).alloc (Nat.le_refl _) _
  have cg : w0.cell? (x.add a) = some (.int .i64 g) := by rw [B0.out.cell (p := x.add a) (by rw [add_block]; exact xl)]; exact hx a g hg
  have x2 : w0.cell? ⟨w.heap.size, 2, none⟩ = some (.slice (some x) gs.length c) := by rw [← hw0]; simp
  have Hw : Hid (w.alloc (Obj.cells #[.int .i64 W, .int .i64 H, .slice (some x) gs.length c, .slice b1 os.length d] 25) = w0) := hw0
  have O : Hid (∀ u, u = Fd.onto g fl → Ending.returned (.int .i64 u) = .returned (.int .i64 (Fd.onto g fl))) := fun u h => by rw [h]
  clear hw0 cb hx xl ca hg
  go_enter Tryz.func64, Tryz.ntmps64
  go_upto_region 1 with fail
  rw [Hw.out]
  have hg' : g = 0 ∨ g = 1 ∨ g = 2 ∨ g = 3 := by omega
  rcases hg' with rfl | rfl | rfl | rfl
  all_goals cases fl
  all_goals
    go_wp2
    go_ret
    exact ⟨O.out _ rfl, B0⟩
end Go.Proofs.YtkejdkajfnaieaaGreatDoor

