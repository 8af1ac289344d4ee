/- The walk of TapeKeeps, out of the contracts of package tape. -/
import Derived.Test.YtgdeonofdgpokaaZTapeKeeps1
import Derived.BigQuiet
namespace Go.Proofs.Ytgdeonofdgpokaa.tapeKeeps
open Go.RowKit
set_option linter.unusedVariables false

theorem keeps (a b : List UInt8) (ha : a.length ≤ 2000) (hb : b.length ≤ 2000) (m : Nat) (h1 : a.length + 2 ≤ m) (h2 : m ≤ a.length + b.length + 4) (k n : Nat) (xs : List (List UInt8)) (hs : Te.st ((Te.ofr a ++ Te.ofr b).take m) k = (n, xs)) (he : Te.fsz (((Te.ofr a ++ Te.ofr b).take m).drop n) = 0) :
    (xs = [a] ∧ n = a.length + 2 ∧ m < a.length + b.length + 4) ∨ (xs = [a, b] ∧ n = a.length + b.length + 4 ∧ m = a.length + b.length + 4) := by
  have e : Te.ofr a ++ Te.ofr b = Te.flat [a, b] := by simp [Te.flat]
  rw [e] at hs he
  have hl : (Te.flat [a, b]).length = a.length + b.length + 4 := by simp [Te.flat, Te.ofr]; omega
  obtain ⟨q, q1, q2, q3, q4, q5⟩ := Te.run_frames [a, b] (by intro l hl; simp at hl; rcases hl with rfl | rfl <;> omega) m (by rw [hl]; exact h2) k
  rw [hs] at q2 q3
  simp only at q2 q3
  rw [q2, q5] at he
  match q, q1 with
  | 0, _ =>
    simp [Te.flat] at he
    omega
  | 1, _ =>
    left
    simp [Te.flat, Te.ofr] at he q2 q3 q4
    refine ⟨q3, by omega, by omega⟩
  | 2, _ =>
    right
    simp [Te.flat, Te.ofr] at he q2 q3 q4
    refine ⟨q3, by omega, by omega⟩
theorem By.drewN9 {w : World} {v : Value} {l : List UInt8} (h : By w v l) (n : Nat) : By (w.drewN n) v l := h.below (_root_.Go.below_drewN (Below.refl _ _) n)
set_option maxRecDepth 100000 in
set_option maxHeartbeats 16000000 in
theorem walk (va : Value) (a : List UInt8) (vb : Value) (b : List UInt8) (keep : Int) (w : World) (h0 : By w va a) (h1 : By w vb b) (h2 : (Lit.int .i64 keep).wf = true) :
    Calls Try.prog 3 #[va, vb, .int .i64 keep] w fun e w' => e = .returned (.bool true) ∧ Below w.heap.size w w' := by
  have A : Hid (By w va a) := h0
  have B : Hid (By w vb b) := h1
  have HK : Hid ((Lit.int .i64 keep).wf = true) := h2
  obtain ⟨pa, ca, rfl, a1, a2, -⟩ := h0
  obtain ⟨pb, cb, rfl, b1, b2, -⟩ := h1
  have a2' : ca ≤ 9223372036854775807 := by unfold maxLen at a2; omega
  have b2' : cb ≤ 9223372036854775807 := by unfold maxLen at b2; omega
  clear a2 b2 h2
  by_cases la : 2000 < a.length
  · go_enter Try.func3, Try.ntmps3
    go_wp2
    go_ret
    exact ⟨rfl, Below.refl _ _⟩
  by_cases lb : 2000 < b.length
  · go_enter Try.func3, Try.ntmps3
    go_wp2
    go_ret
    exact ⟨rfl, Below.refl _ _⟩
  have LL : Hid (a.length ≤ 2000 ∧ b.length ≤ 2000) := ⟨by omega, by omega⟩
  go_enter Try.func3, Try.ntmps3
  go_wp2_with fail
  refine Calls.mono (tnew_any w) ?_
  rintro e w1 ⟨rfl, t1, k1⟩
  obtain ⟨z, hz⟩ : ∃ z, w.heap.size = z := ⟨_, rfl⟩
  have Z : Hid (w.heap.size = z) := hz
  have T1 : Hid (Tp w1 z z (.slice none 0 0) ⟨[], 0, 0, -1⟩) := by unfold Hid; rw [← hz]; exact t1
  have B1 : Hid (Below w.heap.size w w1) := k1
  rw [hz]
  clear t1 k1 hz
  go_wp2_with fail
  refine Calls.mono (tframe_any _ a w1 (A.out.below B1.out) (by have := LL.out; omega)) ?_
  rintro e w2 ⟨u2, rfl, o2, k2⟩
  have O2 : Hid (By w2 u2 (Te.ofr a)) := o2.by_
  have T2 : Hid (Tp w2 z z (.slice none 0 0) ⟨[], 0, 0, -1⟩) := T1.out.below k2
  have B2 : Hid (Below w.heap.size w w2) := B1.out.trans (k2.mono B1.out.size)
  obtain ⟨p2, q2, rfl⟩ := o2.len
  clear o2 k2 T1
  go_wp2_with fail
  refine Calls.mono (tappend_any z z _ _ _ (Te.ofr a) w2 T2.out O2.out (by simp) (by simp) (by rw [← Z.out]; exact B2.out.size)) ?_
  rintro e w3 ⟨r3, v3, rfl, e3, t3, s3⟩
  have F3 : TpV.appF ⟨[], 0, 0, -1⟩ (Te.ofr a) = 0 := by unfold TpV.appF; rw [if_neg (by decide), if_neg (by have := LL.out; rw [Te.ofr_len]; simp; omega)]
  have N3 : TpV.app ⟨[], 0, 0, -1⟩ (Te.ofr a) = ⟨Te.ofr a, 0, 1, -1⟩ := by unfold TpV.app; rw [if_pos F3]; rfl
  rw [F3] at e3
  rw [N3] at t3
  obtain ⟨n3, hn3⟩ : ∃ n, TpV.appN ⟨[], 0, 0, -1⟩ (Te.ofr a) = n := ⟨_, rfl⟩
  rw [hn3]
  rcases e3 with ⟨-, rfl⟩ | ⟨h, -⟩
  case inr => exact absurd rfl h
  have T3 : Hid (Tp w3 z z v3 ⟨Te.ofr a, 0, 1, -1⟩) := t3
  have B3 : Hid (Below w.heap.size w w3) := B2.out.trans (s3.low T2.out.o B2.out.size (by rw [Z.out]; exact Nat.le_refl _) (by rw [Z.out]; exact Nat.le_refl _))
  clear t3 s3 F3 N3 hn3 T2 O2
  go_wp2_with fail
  refine Calls.mono (tsync_any z z _ _ w3 T3.out (by simp)) ?_
  rintro e w4 ⟨r4, rfl, e4, t4, s4⟩
  have F4 : TpV.syncF ⟨Te.ofr a, 0, 1, -1⟩ = 0 := by unfold TpV.syncF; rw [if_neg (by simp [TpV.fails])]
  have N4 : TpV.sync ⟨Te.ofr a, 0, 1, -1⟩ = ⟨Te.ofr a, a.length + 2, 2, -1⟩ := by unfold TpV.sync; rw [if_neg (by simp [TpV.fails]), Te.ofr_len]
  rw [F4] at e4
  rw [N4] at t4
  rcases e4 with ⟨-, rfl⟩ | ⟨h, -⟩
  case inr => exact absurd rfl h
  have T4 : Hid (Tp w4 z z v3 ⟨Te.ofr a, a.length + 2, 2, -1⟩) := t4
  have B4 : Hid (Below w.heap.size w w4) := B3.out.trans (s4.low T3.out.o B3.out.size (by rw [Z.out]; exact Nat.le_refl _) (by rw [Z.out]; exact Nat.le_refl _))
  clear t4 s4 F4 N4 T3
  go_wp2_with fail
  refine Calls.mono (tframe_any _ b w4 (B.out.below B4.out) (by have := LL.out; omega)) ?_
  rintro e w5 ⟨u5, rfl, o5, k5⟩
  have O5 : Hid (By w5 u5 (Te.ofr b)) := o5.by_
  have T5 : Hid (Tp w5 z z v3 ⟨Te.ofr a, a.length + 2, 2, -1⟩) := T4.out.below k5
  have B5 : Hid (Below w.heap.size w w5) := B4.out.trans (k5.mono B4.out.size)
  obtain ⟨p5, q5, rfl⟩ := o5.len
  clear o5 k5 T4
  go_wp2_with fail
  refine Calls.mono (tappend_any z z _ _ _ (Te.ofr b) w5 T5.out O5.out (by have := LL.out; simp only [Te.ofr_len]; omega) (by simp) (by rw [← Z.out]; exact B5.out.size)) ?_
  rintro e w6 ⟨r6, v6, rfl, e6, t6, s6⟩
  have F6 : TpV.appF ⟨Te.ofr a, a.length + 2, 2, -1⟩ (Te.ofr b) = 0 := by unfold TpV.appF; rw [if_neg (by simp [TpV.fails]), if_neg (by have := LL.out; simp only [Te.ofr_len]; omega)]
  have N6 : TpV.app ⟨Te.ofr a, a.length + 2, 2, -1⟩ (Te.ofr b) = ⟨Te.ofr a ++ Te.ofr b, a.length + 2, 3, -1⟩ := by unfold TpV.app; rw [if_pos F6]
  rw [F6] at e6
  rw [N6] at t6
  obtain ⟨n6, hn6⟩ : ∃ n, TpV.appN ⟨Te.ofr a, a.length + 2, 2, -1⟩ (Te.ofr b) = n := ⟨_, rfl⟩
  rw [hn6]
  rcases e6 with ⟨-, rfl⟩ | ⟨h, -⟩
  case inr => exact absurd rfl h
  have T6 : Hid (Tp w6 z z v6 ⟨Te.ofr a ++ Te.ofr b, a.length + 2, 3, -1⟩) := t6
  have B6 : Hid (Below w.heap.size w w6) := B5.out.trans (s6.low T5.out.o B5.out.size (by rw [Z.out]; exact Nat.le_refl _) (by rw [Z.out]; exact Nat.le_refl _))
  clear t6 s6 F6 N6 hn6 T5 O5
  go_wp2_with fail
  refine Calls.mono (tcrash_any z z _ _ keep w6 T6.out (by have := LL.out; simp only [List.length_append, Te.ofr_len]; omega) (by simp only [List.length_append, Te.ofr_len]; omega) HK.out) ?_
  rintro e w7 ⟨r7, v7, rfl, t7, s7⟩
  obtain ⟨m, hm⟩ : ∃ m, TpV.kept ⟨Te.ofr a ++ Te.ofr b, a.length + 2, 3, -1⟩ keep = m := ⟨_, rfl⟩
  have M : Hid (a.length + 2 ≤ m ∧ m ≤ a.length + b.length + 4) := by
    unfold Hid
    rw [← hm]
    unfold TpV.kept
    simp only [List.length_append, Te.ofr_len]
    omega
  obtain ⟨x, hx⟩ : ∃ x, (Te.ofr a ++ Te.ofr b).take m = x := ⟨_, rfl⟩
  have X : Hid ((Te.ofr a ++ Te.ofr b).take m = x) := hx
  have XL : Hid (x.length = m) := by
    have := M.out
    unfold Hid
    rw [← hx, List.length_take]
    simp only [List.length_append, Te.ofr_len]
    omega
  unfold TpV.crash at t7
  rw [hm] at t7
  simp only at t7
  rw [hx] at t7
  have T7 : Hid (Tp w7 z z v7 ⟨x, m, 0, -1⟩) := t7
  have B7 : Hid (Below w.heap.size w w7) := B6.out.trans (s7.low T6.out.o B6.out.size (by rw [Z.out]; exact Nat.le_refl _) (by rw [Z.out]; exact Nat.le_refl _))
  clear t7 s7 hm hx T6
  go_wp2_with fail
  refine Calls.mono (tbytes_any z z _ _ w7 T7.out (by have := LL.out; have := M.out; simp only [XL.out]; omega)) ?_
  rintro e w8 ⟨u8, rfl, o8, k8⟩
  have O8 : Hid (By w8 u8 x) := o8.by_
  have T8 : Hid (Tp w8 z z v7 ⟨x, m, 0, -1⟩) := T7.out.below k8
  have B8 : Hid (Below w.heap.size w w8) := B7.out.trans (k8.mono B7.out.size)
  obtain ⟨p8, q8, rfl, -⟩ := o8.by_
  clear o8 k8 T7
  go_wp2_with fail
  refine Calls.mono (tframes_any _ x w8 O8.out (by have := LL.out; have := M.out; rw [XL.out]; omega)) ?_
  rintro e w9 ⟨u9, k, n, xs, rfl, st9, en9, ls9, k9⟩
  have KS := keeps a b LL.out.1 LL.out.2 m M.out.1 M.out.2 k n xs (by rw [X.out]; exact st9) (by rw [X.out]; exact en9)
  have T9 : Hid (Tp w9 z z v7 ⟨x, m, 0, -1⟩) := T8.out.below k9
  have B9 : Hid (Below w.heap.size w w9) := B8.out.trans (k9.mono B8.out.size)
  obtain ⟨p9, q9, rfl, c91, c92, hc9⟩ := ls9.bll
  have CA : Hid (∀ n, By (w9.drewN n) (.slice pa a.length ca) a) := fun n => By.drewN9 (A.out.below B9.out) n
  have CB : Hid (∀ n, By (w9.drewN n) (.slice pb b.length cb) b) := fun n => By.drewN9 (B.out.below B9.out) n
  clear k9 T8 O8 st9 en9 ls9
  rw [XL.out]
  rcases KS with ⟨rfl, hn, hm⟩ | ⟨rfl, hn, hm⟩
  case inl =>
    obtain ⟨y, rfl, yb, hy⟩ := hc9 (by simp)
    obtain ⟨ua, y0, yA⟩ := hy 0 a rfl
    rw [show y.add 0 = y by simp [Addr.add]] at y0
    have YA : Hid (∀ n, By (w9.drewN n) ua a) := fun n => By.drewN9 yA n
    obtain ⟨pu, cu, rfl, -⟩ := yA
    obtain ⟨sa, hsa⟩ : ∃ s, (⟨a.toArray⟩ : ByteArray) = s := ⟨_, rfl⟩
    have ka : ∀ n, (convert 22 9 (.slice pa a.length ca)).run Try.prog (w9.drewN n) = .ok (.string sa) (w9.drewN n) := fun n => by rw [← hsa]; exact (CA.out n).conv
    have kx : ∀ n, (convert 22 9 (.slice pu a.length cu)).run Try.prog (w9.drewN n) = .ok (.string sa) (w9.drewN n) := fun n => by rw [← hsa]; exact (YA.out n).conv
    have n1 : decide ((m : Int) < (n : Nat)) = false := decide_eq_false (by have := M.out; omega)
    have n1' : decide (m < n) = false := decide_eq_false (by have := M.out; omega)
    have HN : Hid (n = a.length + 2 ∧ m < a.length + b.length + 4) := ⟨hn, hm⟩
    have d1 : decide ((m : Int) = (a.length : Nat) + (b.length : Nat) + 4) = false := decide_eq_false (by omega)
    clear hn hm
    simp only [List.length_cons, List.length_nil, Nat.zero_add]
    clear hc9 hy hsa
    go_upto_region 10 with fail
    go_quiet ((go_at_call 12; exact Calls.quiet_of_same (tsafe_any z z _ _ _ (T9.out.below (_root_.Go.below_drewN (Below.refl _ _) _)))))
    have B10 : Hid (Below w.heap.size w (w9.drewN nq)) := _root_.Go.below_drewN B9.out _
    clear ka kx n1 n1' y0
    generalize w9.drewN nq = w10 at *
    have MM := M.out
    have LL2 := LL.out
    have HN2 := HN.out
    obtain ⟨d2, d3, d4⟩ : ¬ ((m : Int) = (a.length : Nat) + (b.length : Nat) + 4) ∧ ¬ ((m : Int) < (a.length : Nat) + 2) ∧ (m : Int) < (a.length : Nat) + (b.length : Nat) + 4 := ⟨by omega, by omega, by omega⟩
    go_wp2
    go_ret
    exact ⟨rfl, B10.out⟩
  case inr =>
    obtain ⟨y, rfl, yb, hy⟩ := hc9 (by simp)
    obtain ⟨ua, y0, yA⟩ := hy 0 a rfl
    obtain ⟨ub, y1, yB⟩ := hy 1 b rfl
    rw [show y.add 0 = y by simp [Addr.add]] at y0
    have y1' : w9.cell? ⟨y.block, y.off + 1, none⟩ = some ub := y1
    have YA : Hid (∀ n, By (w9.drewN n) ua a) := fun n => By.drewN9 yA n
    have YB : Hid (∀ n, By (w9.drewN n) ub b) := fun n => By.drewN9 yB n
    obtain ⟨pu, cu, rfl, -⟩ := yA
    obtain ⟨pw, cw, rfl, -⟩ := yB
    obtain ⟨sa, hsa⟩ : ∃ s, (⟨a.toArray⟩ : ByteArray) = s := ⟨_, rfl⟩
    obtain ⟨sb, hsb⟩ : ∃ s, (⟨b.toArray⟩ : ByteArray) = s := ⟨_, rfl⟩
    have ka : ∀ n, (convert 22 9 (.slice pa a.length ca)).run Try.prog (w9.drewN n) = .ok (.string sa) (w9.drewN n) := fun n => by rw [← hsa]; exact (CA.out n).conv
    have kx : ∀ n, (convert 22 9 (.slice pu a.length cu)).run Try.prog (w9.drewN n) = .ok (.string sa) (w9.drewN n) := fun n => by rw [← hsa]; exact (YA.out n).conv
    have KB : Hid (∀ n, (convert 22 9 (.slice pb b.length cb)).run Try.prog (w9.drewN n) = .ok (.string sb) (w9.drewN n)) := fun n => by rw [← hsb]; exact (CB.out n).conv
    have KY : Hid (∀ n, (convert 22 9 (.slice pw b.length cw)).run Try.prog (w9.drewN n) = .ok (.string sb) (w9.drewN n)) := fun n => by rw [← hsb]; exact (YB.out n).conv
    have n1 : decide ((m : Int) < (n : Nat)) = false := decide_eq_false (by have := M.out; omega)
    have n1' : decide (m < n) = false := decide_eq_false (by have := M.out; omega)
    have HM : Hid (m = a.length + b.length + 4) := hm
    have Y1 : Hid (w9.cell? ⟨y.block, y.off + 1, none⟩ = some (.slice pw b.length cw)) := y1'
    simp only [List.length_cons, List.length_nil, Nat.zero_add, Nat.reduceAdd]
    clear hc9 hy hsa hsb hn hm y1 y1'
    go_upto_region 10 with fail
    go_quiet ((go_at_call 12; exact Calls.quiet_of_same (tsafe_any z z _ _ _ (T9.out.below (_root_.Go.below_drewN (Below.refl _ _) _)))))
    have B10 : Hid (Below w.heap.size w (w9.drewN nq)) := _root_.Go.below_drewN B9.out _
    have Y10 : Hid ((w9.drewN nq).cell? ⟨y.block, y.off + 1, none⟩ = some (.slice pw b.length cw)) := Y1.out
    have KB10 : Hid (∀ n, By ((w9.drewN nq).drewN n) (.slice pb b.length cb) b) := fun n => By.drewN9 (CB.out _) n
    have KY10 : Hid (∀ n, By ((w9.drewN nq).drewN n) (.slice pw b.length cw) b) := fun n => By.drewN9 (YB.out _) n
    clear ka kx n1 n1' y0 KB KY Y1
    generalize w9.drewN nq = w10 at *
    have HM2 := HM.out
    have d2 : (m : Int) = (a.length : Nat) + (b.length : Nat) + 4 := by omega
    have wd : (a.length : Int) + (b.length : Nat) ≤ 4000 := by have := LL.out; omega
    go_upto_region 13 with fail
    clear d2 HM2 wd
    obtain ⟨sb, hsb⟩ : ∃ s, (⟨b.toArray⟩ : ByteArray) = s := ⟨_, rfl⟩
    have kb : ∀ n, (convert 22 9 (.slice pb b.length cb)).run Try.prog (w10.drewN n) = .ok (.string sb) (w10.drewN n) := fun n => by rw [← hsb]; exact (KB10.out n).conv
    have ky : ∀ n, (convert 22 9 (.slice pw b.length cw)).run Try.prog (w10.drewN n) = .ok (.string sb) (w10.drewN n) := fun n => by rw [← hsb]; exact (KY10.out n).conv
    have y1 := Y10.out
    go_quiet (fail)
    go_wp2
    go_ret
    exact ⟨rfl, _root_.Go.below_drewN B10.out _⟩
end Go.Proofs.Ytgdeonofdgpokaa.tapeKeeps

