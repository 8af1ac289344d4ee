/- Worlds: Encode. -/
import Derived.Test.YthccneiafofakaaDoorWdB
import Derived.Test.YthccneiafofakaaDoorPaB
namespace Go.Proofs.YthccneiafofakaaDoor
open Go.RowKit
set_option linter.unusedVariables false

set_option maxHeartbeats 2000000 in
theorem encode_any (v : Value) (W : WV) (w : World) (h : Wl w v W) (hs : WSmall W) (hi : ∀ n ∈ Wd.nums W, Wd.In64 n) :
    Calls Tryd.prog 27 #[v] w fun e w' => ∃ u, e = .returned u ∧ Ob w' w.heap.size u (Wd.enc W) ∧ Below w.heap.size w w' := by
  have H : Hid (Wl w v W) := h
  have S : Hid (WSmall W) := hs
  have I : Hid (∀ n ∈ Wd.nums W, Wd.In64 n) := hi
  obtain ⟨u1, u2, u3, u4, u5, rfl, h1, h2, h3, h4, h5⟩ := h
  clear h1 h2 h3 h4 h5 hs hi
  go_enter Tryd.func27, Tryd.ntmps27
  go_wp2_with fail
  have B0 : Hid (Below w.heap.size w (w.alloc (Obj.cells #[.int .i64 W.turn, .int .i64 W.next, .int .i64 W.wide, .int .i64 W.high, u1, u2, u3, u4, u5] 49))) := (Below.refl _ _).alloc (Nat.le_refl _) _
  generalize w.alloc (Obj.cells #[.int .i64 W.turn, .int .i64 W.next, .int .i64 W.wide, .int .i64 W.high, u1, u2, u3, u4, u5] 49) = w0 at *
  refine (numbers_any _ W w0 (H.out.below B0.out) S.out).mono ?_
  rintro e w1 ⟨u, rfl, ho, hb⟩
  have O : Hid (Ow w1 (w0.heap.size + 2) u (Wd.nums W)) := ho
  have B1 : Hid (Below w.heap.size w w1) := B0.out.trans (hb.mono B0.out.size)
  clear ho hb
  go_wp2_with fail
  have L : (Wd.nums W).length ≤ 100000000 := by rw [← nums3_all]; have := nums3_len S.out W.qs.length; omega
  refine (write_any _ (Wd.nums W) w1 O.out.ro I.out L).mono ?_
  rintro e w2 ⟨b, rfl, ho, hb⟩
  have F : Hid (Ob w2 w.heap.size b (Wd.enc W) ∧ Below w.heap.size w w2) := by
    refine ⟨⟨ho.1, ?_⟩, B1.out.trans (hb.mono B1.out.size)⟩
    rcases ho.2 with h1 | ⟨g, cap, cur, h1, h2, h3⟩
    · exact .inl h1
    · exact .inr ⟨g, cap, cur, h1, Nat.le_trans B1.out.size h2, h3⟩
  clear ho hb L
  go_wp2
  go_ret
  exact ⟨_, rfl, F.out.1, F.out.2⟩
end Go.Proofs.YthccneiafofakaaDoor
