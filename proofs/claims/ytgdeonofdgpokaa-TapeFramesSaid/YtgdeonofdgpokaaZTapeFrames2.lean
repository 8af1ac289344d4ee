/- The walk of TapeFrames, out of the contracts of package tape. -/
import Derived.Test.YtgdeonofdgpokaaZTapeFrames1
import Derived.BigQuiet
namespace Go.Proofs.Ytgdeonofdgpokaa.tapeFrames
open Go.RowKit
set_option linter.unusedVariables false

theorem By.drewN8 {w : World} {v : Value} {l : List UInt8} (h : By w v l) (n : Nat) : By (w.drewN n) v l := h.below (_root_.Go.below_drewN (Below.refl _ _) n)
/-- the fact. -/
theorem fact (k n : Nat) (xs : List (List UInt8)) (hs : Te.st (Te.ofr [97, 98]) k = (n, xs)) (he : Te.fsz ((Te.ofr [97, 98]).drop n) = 0) : xs = [[97, 98]] ∧ n = 4 := by
  have e1 : Te.st (Te.ofr [97, 98]) 1 = (4, [[97, 98]]) := by decide
  have h1 : Te.fsz ((Te.ofr [97, 98]).drop (Te.st (Te.ofr [97, 98]) 1).1) = 0 := by rw [e1]; decide
  have h2 : Te.fsz ((Te.ofr [97, 98]).drop (Te.st (Te.ofr [97, 98]) k).1) = 0 := by rw [hs]; exact he
  have := Te.st_uniq h1 h2
  rw [e1, hs] at this
  injection this with a b
  exact ⟨b.symm, a.symm⟩
/-- what the law says of the frames of what was cut off. -/
theorem says (ls : List (List UInt8)) (h : ∀ l ∈ ls, l.length ≤ 1000) (cut : Nat) (hc : cut ≤ (Te.flat ls).length) (k n : Nat) (xs : List (List UInt8)) (hs : Te.st ((Te.flat ls).take cut) k = (n, xs)) (he : Te.fsz (((Te.flat ls).take cut).drop n) = 0) :
    xs.length ≤ ls.length ∧ xs = ls.take xs.length ∧ n = (Te.flat xs).length ∧ n ≤ cut ∧ (xs.length = ls.length ∨ ∃ x, ls[xs.length]? = some x ∧ cut < n + 2 + x.length) := by
  obtain ⟨q, q1, q2, q3, q4, q5⟩ := Te.run_frames ls (fun l hl => by have := h l hl; omega) cut hc k
  rw [hs] at q2 q3
  simp only at q2 q3
  rw [q2, q5] at he
  have hq : xs.length = q := by rw [q3, List.length_take]; omega
  refine ⟨by omega, by rw [hq]; exact q3, by rw [q2, q3], by rw [q2]; exact q4, ?_⟩
  cases hx : ls[q]? with
  | none =>
    left
    have : ls.length ≤ q := by simpa using hx
    omega
  | some x =>
    right
    rw [hx] at he
    simp only at he
    refine ⟨x, by rw [hq]; exact hx, ?_⟩
    split at he
    · omega
    · omega
theorem flat_le (ls : List (List UInt8)) (h : ∀ l ∈ ls, l.length ≤ 1000) : (Te.flat ls).length ≤ 1002 * ls.length := by
  induction ls with
  | nil => simp [Te.flat]
  | cons x ls ih =>
    rw [Te.flat_cons, List.length_append, Te.ofr_len, List.length_cons]
    have := h x (by simp)
    have := ih (fun l hl => h l (by simp [hl]))
    omega
theorem flat_snoc (ls : List (List UInt8)) (x : List UInt8) : Te.flat (ls ++ [x]) = Te.flat ls ++ Te.ofr x := by rw [Te.flat_app]; simp [Te.flat]
set_option maxRecDepth 100000 in
set_option maxHeartbeats 16000000 in
theorem walk (vl : Value) (ls : List (List UInt8)) (cut : Int) (w : World) (h0 : Bll w vl ls) (h1 : (Lit.int .i64 cut).wf = true) :
    Calls Try.prog 4 #[vl, .int .i64 cut] w fun e w' => e = .returned (.bool true) ∧ Below w.heap.size w w' := by
  have L : Hid (Bll w vl ls) := h0
  obtain ⟨pl, cl, rfl, l1, l2, -⟩ := h0
  have k1 := Go.Joins.run_convert_bytes_const_at (P := Try.prog) w 22 5 #[.int .u8 97, .int .u8 98] 2 2 w.heap.size rfl Try.underlying22 Try.underlying5
  simp only [List.size_toArray, List.length_cons, List.length_nil, Nat.zero_add, Nat.reduceAdd] at k1
  clear h1
  go_enter Try.func4, Try.ntmps4
  go_wp2_with fail
  have B0 : Hid (Below w.heap.size w (w.alloc (Obj.cells #[.int .u8 97, .int .u8 98] 5 (2, 3)))) := (Below.refl _ _).alloc (Nat.le_refl _) _
  refine Calls.mono (tframe_any _ [97, 98] _ (By.two_ rfl 97 98 rfl rfl 5 (2, 3)) (by simp)) ?_
  rintro e w1 ⟨u1, rfl, o1, b1⟩
  have B1 : Hid (Below w.heap.size w w1) := B0.out.trans (b1.mono B0.out.size)
  have O1 : Hid (By w1 u1 (Te.ofr [97, 98])) := o1.by_
  obtain ⟨p1, q1, rfl⟩ := o1.len
  clear o1 b1 k1 B0
  go_wp2_with fail
  refine Calls.mono (tframes_any _ _ w1 O1.out (by simp [Te.ofr])) ?_
  rintro e w2 ⟨u2, k, n, xs, rfl, st2, en2, ls2, b2⟩
  obtain ⟨rfl, rfl⟩ := fact k n xs st2 en2
  have B2 : Hid (Below w.heap.size w w2) := B1.out.trans (b2.mono B1.out.size)
  obtain ⟨p2, q2, rfl, -, -, hc2⟩ := ls2.bll
  obtain ⟨y, rfl, yb, hy⟩ := hc2 (by simp)
  obtain ⟨ua, y0, yA⟩ := hy 0 [97, 98] rfl
  rw [show y.add 0 = y by simp [Addr.add]] at y0
  have YA := yA
  obtain ⟨pu, cu, rfl, -⟩ := yA
  have kk : (convert 22 9 (.slice pu 2 cu)).run Try.prog w2 = .ok (.string ⟨#[97, 98]⟩) w2 := YA.conv
  simp only [List.length_cons, List.length_nil, Nat.zero_add, Nat.reduceAdd] at y0 kk ⊢
  clear hc2 hy ls2 b2 st2 en2 O1 YA
  obtain ⟨kn, hkn⟩ : ∃ kn, min ls.length 10 = kn := ⟨_, rfl⟩
  have KN : Hid (min ls.length 10 = kn) := hkn
  have kl : kn ≤ ls.length := by omega
  have k10 : kn ≤ 10 := by omega
  go_upto_if 37 with fail
  clear kk y0
  go_cut [8] (fun v8 V => v8 = .int .i64 (kn : Nat) ∧ V = w2)
  case first =>
    by_cases h : 10 < ls.length
    · have e : kn = 10 := by omega
      have hi : (10 : Int) < (ls.length : Nat) := by omega
      go_wp2_with fail
      go_meet
      case rel => exact ⟨by rw [e]; rfl, rfl⟩
    · have e : kn = ls.length := by omega
      have hi : ¬ (10 : Int) < (ls.length : Nat) := by omega
      clear hkn
      go_wp2_with fail
      go_meet
      case rel => exact ⟨by rw [e], rfl⟩
  case rest =>
  obtain ⟨rfl, hV⟩ := hcut
  obtain rfl := hV.symm
  clear hkn
  go_wp2_with fail
  go_loopw [7, 9] (fun v7 v9 W => ∃ i : Nat, i ≤ kn ∧ v9 = .int .i64 (i : Nat) ∧ (∀ l ∈ ls.take i, l.length ≤ 1000) ∧ Ob W w.heap.size v7 (Te.flat (ls.take i)) ∧ Below w.heap.size w W) (fun _ v9 _ => kn - (intOf v9).toNat)
  case atStart => exact ⟨0, Nat.zero_le _, rfl, by simp, by simpa [Te.flat] using Ob.nil _ _, B2.out⟩
  case round =>
  obtain ⟨i, hi, rfl, hall, ho, hb⟩ := hrel
  have AL : Hid (∀ l ∈ ls.take i, l.length ≤ 1000) := hall
  have O : Hid (Ob wr w.heap.size u7 (Te.flat (ls.take i))) := ho
  have B : Hid (Below w.heap.size w wr) := hb
  clear hall ho hb
  by_cases hik : i < kn
  case pos =>
    have hiki : (i : Int) < (kn : Nat) := by omega
    have hil : i < ls.length := by omega
    have hili : (i : Int) < (ls.length : Nat) := by omega
    obtain ⟨x, hx⟩ : ∃ x, ls[i]? = some x := ⟨_, List.getElem?_eq_getElem hil⟩
    have X : Hid (ls[i]? = some x) := hx
    obtain ⟨pl', cl', e, -, -, hc⟩ := L.out.below B.out
    injection e with e1 e2 e3
    subst e1 e3
    obtain ⟨y, rfl, yb, hy⟩ := hc (by rintro rfl; simp at hil)
    obtain ⟨ux, y0, yX⟩ := hy i x hx
    have YX : Hid (By wr ux x) := yX
    obtain ⟨px, cx, rfl, x1, x2, -⟩ := yX
    have x2' : cx ≤ 9223372036854775807 := by unfold maxLen at x2; omega
    clear hc hy hx x2 e2
    by_cases hxl : 1000 < x.length
    · have hxi : (1000 : Int) < (x.length : Nat) := by omega
      go_wp2
      go_ret
      exact ⟨rfl, B.out⟩
    have hxi : ¬ (1000 : Int) < (x.length : Nat) := by omega
    have XL : Hid (x.length ≤ 1000) := by unfold Hid; omega
    have TS : Hid (ls.take (i + 1) = ls.take i ++ [x]) := by unfold Hid; rw [List.take_add_one, X.out]; rfl
    have FL : Hid ((Te.flat (ls.take i)).length ≤ 10020) := by have := flat_le _ AL.out; rw [List.length_take] at this; unfold Hid; omega
    go_wp2_with fail
    refine Calls.mono (tframe_any _ x wr YX.out (by have := XL.out; omega)) ?_
    rintro e w4 ⟨u4, rfl, o4, b4⟩
    have B4 : Hid (Below w.heap.size w w4) := B.out.trans (b4.mono B.out.size)
    have O4 : Hid (Ob w4 w.heap.size u7 (Te.flat (ls.take i))) := O.out.below b4
    have U4 : Hid (By w4 u4 (Te.ofr x)) := o4.by_
    clear o4 b4 y0
    go_wp2_with (at_builtin; refine app_bytes2 _ rfl _ _ rfl w.heap.size _ _ rfl O4.out _ _ rfl U4.out (by have := XL.out; have := FL.out; rw [Te.ofr_len]; omega) B4.out.size ?_)
    intro v5 w5 o5 g5 _
    have B5 : Hid (Below w.heap.size w w5) := B4.out.grown g5 B4.out.size (fun k hk => (O4.out.block k hk).1)
    have O5 : Hid (Ob w5 w.heap.size v5 (Te.flat (ls.take (i + 1)))) := by unfold Hid; rw [TS.out, flat_snoc]; exact o5
    clear o5 g5
    go_wp2
    go_round
    case rel =>
      refine ⟨i + 1, by omega, by go_num, ?_, O5.out, B5.out⟩
      rw [TS.out]
      intro l hl
      rcases List.mem_append.1 hl with h | h
      · exact AL.out l h
      · simp at h; subst h; exact XL.out
    case measure => simp [intOf]; omega
  case neg =>
  have hk : i = kn := by omega
  subst hk
  obtain ⟨ks, hks⟩ : ∃ ks, ls.take i = ks := ⟨_, rfl⟩
  have KS : Hid (ls.take i = ks) := hks
  have KL : Hid (ks.length = i) := by unfold Hid; rw [← hks, List.length_take]; omega
  rw [hks] at AL O
  have FL : Hid ((Te.flat ks).length ≤ 10020) := by have := flat_le _ AL.out; rw [KL.out] at this; unfold Hid; omega
  obtain ⟨fl, hfl⟩ : ∃ fl, Te.flat ks = fl := ⟨_, rfl⟩
  have FE : Hid (Te.flat ks = fl) := hfl
  rw [hfl] at O FL
  obtain ⟨pf, cf, hv7⟩ := O.out.len
  have PV : pf = none ∨ ∃ g, pf = some ⟨g, 0, none⟩ := by
    rw [hv7] at O
    rcases O.out.2 with ⟨h1, h2⟩ | ⟨g, cap, cur, h1, h2, h3, h4, h5, h6, h7⟩
    · injection h1 with e1 e2 e3; exact .inl e1
    · injection h1 with e1 e2 e3; exact .inr ⟨g, e1⟩
  have cfl : fl.length ≤ cf ∧ cf ≤ 9223372036854775807 := by
    rw [hv7] at O
    rcases O.out.2 with ⟨h1, h2⟩ | ⟨g, cap, cur, h1, h2, h3, h4, h5, h6, h7⟩
    · injection h1 with e1 e2 e3; omega
    · injection h1 with e1 e2 e3; unfold maxLen at h5; omega
  subst hv7
  obtain ⟨cn, hcn⟩ : ∃ cn : Nat, (if cut < 0 ∨ (fl.length : Int) < cut then fl.length else cut.toNat) = cn := ⟨_, rfl⟩
  have CN : Hid (cn ≤ fl.length) := by unfold Hid; rw [← hcn]; split <;> omega
  have fl2 := FL.out
  clear hks hfl hik
  obtain ⟨bC, hbC⟩ : ∃ bC : Bool, decide (cut < 0 ∨ (fl.length : Int) < cut) = bC := ⟨_, rfl⟩
  have BC : Hid (decide (cut < 0 ∨ (fl.length : Int) < cut) = bC) := hbC
  have CE : Hid ((if cut < 0 ∨ (fl.length : Int) < cut then fl.length else cut.toNat) = cn) := hcn
  clear hcn hbC
  go_upto_region 14 with fail
  go_cut [63] (fun v63 V => v63 = .bool bC ∧ V = wr)
  case first =>
    by_cases h0 : cut < 0
    · have e : Hid (bC = true) := by unfold Hid; rw [← BC.out]; exact decide_eq_true (.inl h0)
      go_wp2_with fail
      go_meet
      case rel => exact ⟨by rw [e.out], rfl⟩
    · by_cases h1 : (fl.length : Int) < cut
      · have e : Hid (bC = true) := by unfold Hid; rw [← BC.out]; exact decide_eq_true (.inr h1)
        go_wp2_with fail
        go_meet
        case rel => exact ⟨by rw [e.out], rfl⟩
      · have e : Hid (bC = false) := by unfold Hid; rw [← BC.out]; exact decide_eq_false (by omega)
        go_wp2_with fail
        go_meet
        case rel => exact ⟨by rw [e.out], rfl⟩
  case rest =>
  obtain ⟨rfl, hV⟩ := hcut
  obtain rfl := hV.symm
  go_upto_if 63 with fail
  go_cut [1] (fun v1 V => v1 = .int .i64 (cn : Nat) ∧ V = wr)
  case first =>
    cases bC
    case true =>
      have e : Hid (cn = fl.length) := by unfold Hid; rw [← CE.out, if_pos (of_decide_eq_true BC.out)]
      go_wp2_with fail
      go_meet
      case rel => exact ⟨by rw [e.out], rfl⟩
    case false =>
      have e : Hid ((cn : Int) = cut) := by have h := of_decide_eq_false BC.out; unfold Hid; rw [← CE.out, if_neg h]; omega
      go_wp2_with fail
      go_meet
      case rel => exact ⟨by rw [e.out], rfl⟩
  case rest =>
  obtain ⟨rfl, hV⟩ := hcut
  obtain rfl := hV.symm
  clear BC CE
  have cn1 : (cn : Int) ≤ (cf : Nat) := by have := CN.out; omega
  have BT : Hid (By wr (.slice pf cn cf) (fl.take cn)) := O.out.by_.take CN.out
  have FLK : Hid (fl = Te.flat ks) := FE.out.symm
  go_upto_region 16 with fail
  go_cut [10, 6] (fun v10 v6 V => ∃ k n xs, v6 = .int .i64 (n : Nat) ∧ Te.st (fl.take cn) k = (n, xs) ∧ Te.fsz ((fl.take cn).drop n) = 0 ∧ Bls V wr.heap.size v10 xs ∧ Below wr.heap.size wr V)
  case first =>
    rcases PV with rfl | ⟨gf, rfl⟩
    all_goals
      go_wp2_with fail
      refine Calls.mono (tframes_any _ (fl.take cn) wr (by have h := BT.out; simpa using h) (by rw [List.length_take]; omega)) ?_
      rintro e w5 ⟨u5, k, n, xs, rfl, st5, en5, ls5, b5⟩
      have LX : Hid (Te.st (fl.take cn) k = (n, xs) ∧ Te.fsz ((fl.take cn).drop n) = 0 ∧ Bls w5 wr.heap.size u5 xs ∧ Below wr.heap.size wr w5) := ⟨st5, en5, ls5, b5⟩
      clear st5 en5 ls5 b5
      go_wp2_with fail
      go_meet
      case rel => exact ⟨k, n, xs, rfl, LX.out⟩
  case rest =>
  obtain ⟨k, n, xs, rfl, st5, en5, ls5, b5⟩ := hcut
  have SY := says ks AL.out cn (by rw [← FLK.out]; exact CN.out) k n xs (by rw [← FLK.out]; exact st5) (by rw [← FLK.out]; exact en5)
  have B5 : Hid (Below w.heap.size w wc) := B.out.trans (b5.mono B.out.size)
  have X5 : Hid (Bll wc u10 xs) := ls5.bll
  obtain ⟨p5, q5, rfl, x51, x52, -⟩ := ls5.bll
  have SYH : Hid (xs.length ≤ ks.length ∧ xs = ks.take xs.length ∧ n = (Te.flat xs).length ∧ n ≤ cn ∧ (xs.length = ks.length ∨ ∃ x, ks[xs.length]? = some x ∧ cn < n + 2 + x.length)) := SY
  have xli : xs.length ≤ i := by have := SY.1; rw [KL.out] at this; exact this
  have XA : Hid (∀ (j : Nat) x, xs[j]? = some x → ls[j]? = some x ∧ x.length ≤ 1000) := by
    intro j x hx
    have hj := (List.getElem?_eq_some_iff.1 hx).1
    have h1 : ks[j]? = some x := by
      have h2 : xs[j]? = (ks.take xs.length)[j]? := congrArg (fun t => t[j]?) SYH.out.2.1
      rw [h2, List.getElem?_take, if_pos hj] at hx
      exact hx
    refine ⟨?_, AL.out x (List.mem_of_getElem? h1)⟩
    rw [← KS.out, List.getElem?_take] at h1
    split at h1
    · exact h1
    · cases h1
  have CNB : Hid (cn ≤ 10020) := by have := CN.out; unfold Hid; omega
  obtain ⟨xl, hxl⟩ : ∃ xl, xs.length = xl := ⟨_, rfl⟩
  have XL : Hid (xs.length = xl) := hxl
  rw [hxl] at x51 xli ⊢
  clear SY st5 en5 ls5 b5 hxl PV cfl cn1 fl2
  go_wp2_with fail
  go_loopw [11, 12] (fun v11 v12 W => ∃ j : Nat, j ≤ xl ∧ v12 = .int .i64 (j : Nat) ∧ v11 = .int .i64 ((Te.flat (xs.take j)).length : Nat) ∧ ∃ q, W = wc.drewN q) (fun _ v12 _ => xl - (intOf v12).toNat)
  case atStart => exact ⟨0, Nat.zero_le _, rfl, by simp [Te.flat], 0, rfl⟩
  case round =>
  obtain ⟨j, hj, rfl, rfl, q, rfl⟩ := hrel
  by_cases hjx : j < xl
  case pos =>
    have hjxi : (j : Int) < (xl : Nat) := by omega
    have hji : decide ((i : Int) ≤ (j : Nat)) = false := decide_eq_false (by omega)
    have hji' : decide (i ≤ j) = false := decide_eq_false (by omega)
    have hjl : j < ls.length := by omega
    have hjli : (j : Int) < (ls.length : Nat) := by omega
    obtain ⟨x, hx⟩ : ∃ x, xs[j]? = some x := ⟨_, List.getElem?_eq_getElem (by rw [XL.out]; exact hjx)⟩
    obtain ⟨hlx, hx1⟩ := XA.out j x hx
    have TS : Hid ((Te.flat (xs.take (j + 1))).length = (Te.flat (xs.take j)).length + 2 + x.length ∧ (Te.flat (xs.take (j + 1))).length ≤ 10020 ∧ x.length ≤ 1000) := by
      have e : xs.take (j + 1) = xs.take j ++ [x] := by rw [List.take_add_one, hx]; rfl
      have h2 : (Te.flat (xs.take (j + 1))).length = (Te.flat (xs.take j)).length + 2 + x.length := by rw [e, flat_snoc, List.length_append, Te.ofr_len]; omega
      refine ⟨h2, ?_, hx1⟩
      have := flat_le (xs.take (j + 1)) (fun l hl => by
        obtain ⟨r, hr⟩ := List.getElem?_of_mem (List.mem_of_mem_take hl)
        exact (XA.out r l hr).2)
      rw [List.length_take] at this
      omega
    obtain ⟨pX, cX, e, -, -, hcX⟩ := X5.out
    injection e with e1 e2 e3
    subst e1 e3
    obtain ⟨yx, rfl, yxb, hyx⟩ := hcX (by intro h; rw [h] at hx; simp at hx)
    obtain ⟨vx, yx0, yX⟩ := hyx j x hx
    obtain ⟨pL, cL, e, -, -, hcL⟩ := L.out.below B5.out
    injection e with e1' e2' e3'
    subst e1' e3'
    obtain ⟨yl, rfl, ylb, hyl⟩ := hcL (by rintro rfl; simp at hjl)
    obtain ⟨vl, yl0, yL⟩ := hyl j x hlx
    have YX : Hid (∀ n, By (wc.drewN n) vx x) := fun n => By.drewN8 yX n
    have YL : Hid (∀ n, By (wc.drewN n) vl x) := fun n => By.drewN8 yL n
    obtain ⟨px, cx, rfl, -⟩ := yX
    obtain ⟨pz, cz, rfl, -⟩ := yL
    obtain ⟨sx, hsx⟩ : ∃ s, (⟨x.toArray⟩ : ByteArray) = s := ⟨_, rfl⟩
    have kx : ∀ n, (convert 22 9 (.slice px x.length cx)).run Try.prog (wc.drewN n) = .ok (.string sx) (wc.drewN n) := fun n => by rw [← hsx]; exact (YX.out n).conv
    have kl : ∀ n, (convert 22 9 (.slice pz x.length cz)).run Try.prog (wc.drewN n) = .ok (.string sx) (wc.drewN n) := fun n => by rw [← hsx]; exact (YL.out n).conv
    have Y1 : Hid (∀ n, (wc.drewN n).cell? (yx.add j) = some (.slice px x.length cx)) := fun n => yx0
    clear hcX hcL hyx hyl hlx hx hsx e2 e2'
    go_upto_region 21 with fail
    go_quiet (fail)
    have y1 := Y1.out (q + nq)
    have ts := TS.out
    obtain ⟨f1, hf1⟩ : ∃ f, (Te.flat (xs.take j)).length = f := ⟨_, rfl⟩
    obtain ⟨f2, hf2⟩ : ∃ f, (Te.flat (xs.take (j + 1))).length = f := ⟨_, rfl⟩
    rw [hf1, hf2] at ts
    have HF2 : Hid ((Te.flat (xs.take (j + 1))).length = f2) := hf2
    rw [hf1]
    rw [show (wc.drewN q).drewN nq = wc.drewN (q + nq) from World.drewN_drewN _ _ _]
    have e1 : (f1 : Int) + 2 + (x.length : Nat) = (f2 : Nat) := by omega
    have e2 : (f1 : Int) ≤ 10020 := by omega
    have e3 : (x.length : Int) ≤ 1000 := by omega
    clear hf1 hf2 ts kx kl yx0 yl0
    go_wp2
    go_round
    case rel => exact ⟨j + 1, by omega, by go_num, by rw [HF2.out], q + nq, rfl⟩
    case measure => simp [intOf]; omega
  case neg =>
  have hjj : j = xl := by omega
  subst hjj
  have E1 : Hid ((Te.flat (xs.take j)).length = n) := by unfold Hid; rw [List.take_of_length_le (by rw [XL.out]; exact Nat.le_refl _)]; exact SYH.out.2.2.1.symm
  rw [E1.out]
  have nc : (n : Int) ≤ (cn : Nat) := by have := SYH.out.2.2.2.1; omega
  have BQ : Hid (Below w.heap.size w (wc.drewN q)) := _root_.Go.below_drewN B5.out _
  have hjj2 : ¬ (j : Int) < (j : Nat) := by omega
  by_cases hji : j = i
  · subst hji
    clear hj hjx
    go_wp2
    go_ret
    exact ⟨rfl, BQ.out⟩
  · have SS := SYH.out.2.2.2.2
    rw [KL.out, XL.out] at SS
    rcases SS with h | ⟨x, hx, hcx⟩
    case inl => exact absurd h hji
    have hx2 : ls[j]? = some x := by
      rw [← KS.out, List.getElem?_take] at hx
      split at hx
      · exact hx
      · cases hx
    have hjl : j < ls.length := (List.getElem?_eq_some_iff.1 hx2).1
    have hjli : (j : Int) < (ls.length : Nat) := by omega
    have hjib : ((j : Int) == (i : Nat)) = false := beq_eq_false_iff_ne.2 (by omega)
    have hjib2 : (j == i) = false := beq_eq_false_iff_ne.2 hji
    obtain ⟨pL, cL, e, -, -, hcL⟩ := (L.out.below BQ.out)
    injection e with e1' e2' e3'
    subst e1' e3'
    obtain ⟨yl, rfl, ylb, hyl⟩ := hcL (by rintro rfl; simp at hjl)
    obtain ⟨vl, yl0, yL⟩ := hyl j x hx2
    obtain ⟨pz, cz, rfl, -⟩ := yL
    have hxl : x.length ≤ 1000 := AL.out x (List.mem_of_getElem? hx)
    have cnb := CNB.out
    have t1 : (cn : Int) - (n : Nat) < 2 + (x.length : Nat) := by omega
    clear hcL hyl hx hx2 e2' hj hjx
    generalize wc.drewN q = w6 at *
    go_wp2
    go_ret
    exact ⟨rfl, BQ.out⟩
end Go.Proofs.Ytgdeonofdgpokaa.tapeFrames

