/- slices.symMergeCmpFunc of orders: one in front. · slices.symMergeCmpFunc of orders: one behind. · slices.symMergeCmpFunc: where two rising lists are cut. · slices.symMergeCmpFunc: where the search has ended, the two lists are cut. · slices.symMergeCmpFunc of orders: what both ways share. -/
import Derived.Test.YteieikgkmfglaaaGreatDoorZTurnGives26
import Derived.Test.YteieikgkmfglaaaGreatDoorZTurnGives4
namespace Go.Proofs.YteieikgkmfglaaaGreatDoor
open Go.RowKit Go.Proofs.YteieikgkmfglaaaGreatDoor.So
set_option linter.unusedVariables false

/-- what is looked for among the Y. -/
def BsX (A : List T) (x : T) (Y B : List T) (g : Nat) (rest : List Value) (w : World) (m : Nat) (iv jv : Value) (W : World) : Prop := ∃ (Y1 Y2 Y3 : List T), iv = .int .i64 ((m + Y1.length : Nat) : Int) ∧ jv = .int .i64 ((m + Y1.length + Y2.length : Nat) : Int) ∧ Y1 ++ Y2 ++ Y3 = Y ∧ (∀ z ∈ Y1, lt z x) ∧ (∀ z ∈ Y3, lt x z) ∧ Rb W g (fs (A ++ x :: (Y ++ B))) rest ∧ Kp g w W
/-- it goes up. -/
def UpX (A : List T) (x : T) (Y1 YB : List T) (g : Nat) (rest : List Value) (w : World) (a : Nat) (kv : Value) (W : World) : Prop := ∃ (U V : List T), kv = .int .i64 ((a + U.length : Nat) : Int) ∧ U ++ V = Y1 ∧ Rb W g (fs (A ++ U) ++ x.1 :: (fs V ++ fs YB)) rest ∧ Kp g w W
def MergeSays (A XY B : List T) (g : Nat) (rest : List Value) (w : World) (e : Ending) (w' : World) : Prop := e = .returned (.tuple #[]) ∧ ∃ Z : List T, Z.Perm XY ∧ Z.Pairwise lt ∧ Rb w' g (fs (A ++ Z ++ B)) rest ∧ Kp g w w'
theorem swap_up {α : Type} (P : List α) (x y : α) (R : List α) : ((P ++ x :: y :: R).set P.length y).set (P.length + 1) x = P ++ y :: x :: R := swap_far P [] R x y
set_option maxRecDepth 100000 in
set_option maxHeartbeats 8000000 in
theorem sym_one (A : List T) (x : T) (Y B : List T) (g cap L a m b : Nat) (rest : List Value) (w : World) (hY : Y.Pairwise lt) (hpl : ∀ y ∈ Y, x.2 < y.2) (hr : Rb w g (fs (A ++ x :: (Y ++ B))) rest) (hL : A.length + 1 + Y.length + B.length = L) (hn : L ≤ 1000) (ha : A.length = a) (hm : a + 1 = m) (hb : m + Y.length = b) :
    Calls Tryz.prog 154 #[.slice (some ⟨g, 0, none⟩) L cap, .int .i64 (a : Nat), .int .i64 (m : Nat), .int .i64 (b : Nat), .func (.func 105) #[] #[]] w
      (MergeSays A (x :: Y) B g rest w) := by
  have R0 : Hid (Rb w g (fs (A ++ x :: (Y ++ B))) rest) := hr
  have HL : Hid (A.length + 1 + Y.length + B.length = L) := hL
  have Ha : Hid (A.length = a) := ha
  have Hm : Hid (a + 1 = m) := hm
  have Hb : Hid (m + Y.length = b) := hb
  have HY : Hid (Y.Pairwise lt ∧ ∀ y ∈ Y, x.2 < y.2) := ⟨hY, hpl⟩
  have hbL : b ≤ L := by omega
  have smi : ((m : Nat) : Int) - (a : Int) = 1 := by omega
  have haL : ((a : Nat) : Int) < (L : Int) := by omega
  clear hr hL hY hpl ha hm hb
  go_enter Tryz.func154, Tryz.ntmps154
  go_wp2
  go_loopw [10, 11] (fun iv jv W => BsX A x Y B g rest w m iv jv W) (fun iv jv _ => (intOf jv).toNat - (intOf iv).toNat)
  case atStart =>
    refine ⟨[], Y, [], by simp, by have := Hb.out; simp; omega, by simp, by simp, by simp, R0.out, Kp.refl _ _⟩
  case round =>
    obtain ⟨Y1, Y2, Y3, rfl, rfl, h12, hlo, hhi, hrb, hk⟩ := hrel
    have RB : Hid (Rb wr g (fs (A ++ x :: (Y ++ B))) rest) := hrb
    have K1 : Hid (Kp g w wr) := hk
    have H12 : Hid (Y1 ++ Y2 ++ Y3 = Y) := h12
    have HLO : Hid (∀ z ∈ Y1, lt z x) := hlo
    have HHI : Hid (∀ z ∈ Y3, lt x z) := hhi
    have hlY : Y1.length + Y2.length + Y3.length = Y.length := by have := congrArg List.length h12; simp at this; omega
    obtain ⟨i, hi⟩ : ∃ i, m + Y1.length = i := ⟨_, rfl⟩
    obtain ⟨j, hj⟩ : ∃ j, i + Y2.length = j := ⟨_, rfl⟩
    rw [hi, hj]
    have hjb : j ≤ b := by have := Hb.out; omega
    clear hrb hk h12 hlo hhi
    by_cases he : i = j
    · have hlt : ¬ ((i : Nat) : Int) < (j : Int) := by omega
      have e2 : Y2 = [] := List.length_eq_zero_iff.1 (by omega)
      subst e2
      have HI : Hid (a + Y1.length + 1 = i) := by unfold Hid; have := Hm.out; omega
      have SI : Hid (((i : Nat) : Int) - 1 = ((a + Y1.length : Nat) : Int)) := by unfold Hid; have := HI.out; omega
      have hib : i ≤ b := by omega
      clear hlY hj he
      have si : ((i : Nat) : Int) - 1 = ((a + Y1.length : Nat) : Int) := SI.out
      obtain ⟨t, ht⟩ : ∃ t, a + Y1.length = t := ⟨_, rfl⟩
      have Ht : Hid (a + Y1.length = t) := ht
      have htL : t < L := by have := HI.out; omega
      rw [ht] at si
      have wt : IntKind.i64.wrap ((t : Nat) : Int) = (t : Nat) := by rw [IntKind.wrap_i64]; omega
      have e12 : Y1 ++ [] ++ Y3 = Y1 ++ Y3 := by simp
      have H13 : Hid (Y1 ++ Y3 = Y) := by unfold Hid; rw [← e12]; exact H12.out
      clear ht e12 hi SI
      go_wp2_with fail
      go_loopw [13] (fun kv W => UpX A x Y1 (Y3 ++ B) g rest w a kv W) (fun kv _ => t - (intOf kv).toNat)
      case atStart =>
        refine ⟨[], Y1, by simp, by simp, ?_, K1.out⟩
        have h := RB.out
        rw [← H13.out] at h
        simpa [fs] using h
      case round =>
        obtain ⟨U, V, rfl, hUV, hrb, hk⟩ := hrel
        have R1 : Hid (Rb wr g (fs (A ++ U) ++ x.1 :: (fs V ++ fs (Y3 ++ B))) rest) := hrb
        have K2 : Hid (Kp g w wr) := hk
        have HUV : Hid (U ++ V = Y1) := hUV
        have hl : U.length + V.length = Y1.length := by have := congrArg List.length hUV; simpa using this
        obtain ⟨k, hk'⟩ : ∃ k, a + U.length = k := ⟨_, rfl⟩
        have Hk : Hid (a + U.length = k) := hk'
        rw [hk']
        clear hrb hk hUV
        cases V with
        | nil =>
          have hnk : ¬ ((k : Nat) : Int) < (t : Int) := by have := Ht.out; simp at hl; omega
          clear hk' hl
          go_wp2
          go_end0
          refine ⟨rfl, Y1 ++ x :: Y3, ?_, ?_, ?_, K2.out⟩
          · rw [← H13.out]; exact List.perm_middle
          · exact put_rise (by rw [H13.out]; exact HY.out.1) HLO.out HHI.out
          · have h := R1.out
            have e := HUV.out
            simp only [List.append_nil] at e
            rw [e] at h
            simpa [fs] using h
        | cons y V' =>
          have hnk : ((k : Nat) : Int) < (t : Int) := by have := Ht.out; simp at hl; omega
          have hkt : k < t := by omega
          have HKT : Hid (k < t ∧ t < L) := ⟨hkt, htL⟩
          have hP : (fs (A ++ U)).length = k := by have := Ha.out; simp [fs]; omega
          have RC : Hid (Rb wr g (fs (A ++ U) ++ x.1 :: y.1 :: (fs V' ++ fs (Y3 ++ B))) rest) := by have := R1.out; simpa [fs, Hid] using this
          have AF := at_far (fs (A ++ U)) [] (fs V' ++ fs (Y3 ++ B)) x.1 y.1
          simp only [List.nil_append, List.length_nil, Nat.add_zero] at AF
          have SW : Hid (_ = _) := swap_up (fs (A ++ U)) x.1 y.1 (fs V' ++ fs (Y3 ++ B))
          rw [hP] at AF SW
          have LL : Hid ((fs (A ++ U) ++ x.1 :: y.1 :: (fs V' ++ fs (Y3 ++ B))).length = L) := by
            have h1 := HL.out
            have h2 := congrArg List.length H13.out
            have h3 := Ha.out
            have h4 := hP
            unfold Hid
            simp at h2 hl ⊢
            simp at h4
            omega
          obtain ⟨x0, x1, x2, x3⟩ := RC.out.cells AF.1
          obtain ⟨y0, y1, y2, y3⟩ := RC.out.cells AF.2
          have f0 := RC.out.thaw (k * 4)
          have f1 := RC.out.thaw (k * 4 + 1)
          have f2 := RC.out.thaw (k * 4 + 2)
          have f3 := RC.out.thaw (k * 4 + 3)
          have f4 := RC.out.thaw ((k + 1) * 4)
          have f5 := RC.out.thaw ((k + 1) * 4 + 1)
          have f6 := RC.out.thaw ((k + 1) * 4 + 2)
          have f7 := RC.out.thaw ((k + 1) * 4 + 3)
          have kpos : ¬ ((k : Nat) : Int) + 1 < 0 := by omega
          have hki : ((k : Nat) : Int) + 1 < (L : Int) := by omega
          have hki0 : ((k : Nat) : Int) < (L : Int) := by omega
          clear AF hP hl hk' R1
          go_wp2_with fail
          go_region
          have rr := (RC.out.put (i := k) (by rw [LL.out]; have := HKT.out; omega) y.1).put (i := k + 1) (by rw [List.length_set, LL.out]; have := HKT.out; omega) x.1
          rw [SW.out] at rr
          have RR : Hid (Rb _ g (fs (A ++ U) ++ y.1 :: x.1 :: (fs V' ++ fs (Y3 ++ B))) rest) := rr
          have KR : Hid (Kp g w _) := (((((((K2.out.trans (Kp.set wr (k * 4) (.int .i64 y.1.player))).trans (Kp.set _ (k * 4 + 1) (.int .i64 y.1.unit))).trans (Kp.set _ (k * 4 + 2) (.int .i64 y.1.what))).trans (Kp.set _ (k * 4 + 3) (.int .i64 y.1.arg))).trans (Kp.set _ ((k + 1) * 4) (.int .i64 x.1.player))).trans (Kp.set _ ((k + 1) * 4 + 1) (.int .i64 x.1.unit))).trans (Kp.set _ ((k + 1) * 4 + 2) (.int .i64 x.1.what))).trans (Kp.set _ ((k + 1) * 4 + 3) (.int .i64 x.1.arg))
          clear rr
          go_wp2
          go_roundw
          case rel =>
            have h1 := Hk.out
            refine ⟨U ++ [y], V', by rw [← h1]; simp; omega, by rw [← HUV.out]; simp, ?_, KR.out.trans (Kp.of (Below.refl _ _).drew)⟩
            have h4 := RR.out.below (Below.refl _ _).drew RR.out.lt
            have e : fs (A ++ (U ++ [y])) ++ x.1 :: (fs V' ++ fs (Y3 ++ B)) = fs (A ++ U) ++ y.1 :: x.1 :: (fs V' ++ fs (Y3 ++ B)) := by simp [fs]
            rw [e]
            exact h4
          case measure => have := HKT.out; simp [intOf]; omega
    · have hlt : ((i : Nat) : Int) < (j : Int) := by omega
      obtain ⟨s, hs⟩ : ∃ s, i + j = s := ⟨_, rfl⟩
      obtain ⟨h, hh⟩ : ∃ h, s / 2 = h := ⟨_, rfl⟩
      have ss : ((i : Nat) : Int) + (j : Int) = (s : Nat) := by omega
      have ws : IntKind.i64.wrap ((s : Nat) : Int) = (s : Nat) := by rw [IntKind.wrap_i64]; omega
      have sh : ((s : Nat) : Int) / 2 = (h : Nat) := by omega
      have hih : i ≤ h ∧ h < j := by omega
      obtain ⟨P, y, R, hY2, hPl⟩ : ∃ P y R, Y2 = P ++ y :: R ∧ P.length = h - i := by
        have h1 : h - i < Y2.length := by omega
        exact ⟨Y2.take (h - i), Y2[h - i], Y2.drop (h - i + 1), by rw [List.getElem_cons_drop, List.take_append_drop], by rw [List.length_take]; omega⟩
      subst hY2
      have hhL : h < L := by omega
      have Hy : Hid ((fs (A ++ x :: (Y ++ B)))[h]? = some y.1) := by
        have e : A ++ x :: (Y ++ B) = (A ++ x :: (Y1 ++ P)) ++ y :: (R ++ Y3 ++ B) := by rw [← H12.out]; simp
        have e2 : h = (fs (A ++ x :: (Y1 ++ P))).length := by have := Ha.out; have := Hm.out; simp [fs]; omega
        unfold Hid
        rw [e, e2]
        simp [fs]
      have Hx : Hid ((fs (A ++ x :: (Y ++ B)))[a]? = some x.1) := by
        have e2 : a = (fs A).length := by have := Ha.out; simp [fs]; omega
        unfold Hid
        rw [e2]
        simp [fs]
      have FC : Hid (∀ W, Below wr.heap.size wr W → W.cell? ⟨g, a * 4, none⟩ = some (.int .i64 x.1.player) ∧ W.cell? ⟨g, a * 4 + 1, none⟩ = some (.int .i64 x.1.unit) ∧ W.cell? ⟨g, a * 4 + 2, none⟩ = some (.int .i64 x.1.what) ∧ W.cell? ⟨g, a * 4 + 3, none⟩ = some (.int .i64 x.1.arg) ∧ W.cell? ⟨g, h * 4, none⟩ = some (.int .i64 y.1.player) ∧ W.cell? ⟨g, h * 4 + 1, none⟩ = some (.int .i64 y.1.unit) ∧ W.cell? ⟨g, h * 4 + 2, none⟩ = some (.int .i64 y.1.what) ∧ W.cell? ⟨g, h * 4 + 3, none⟩ = some (.int .i64 y.1.arg)) := fun W hW => by
        have r := RB.out.below hW RB.out.lt
        obtain ⟨x0, x1, x2, x3⟩ := r.cells Hx.out
        obtain ⟨y0, y1, y2, y3⟩ := r.cells Hy.out
        exact ⟨x0, x1, x2, x3, y0, y1, y2, y3⟩
      have CC : Hid (∀ W, Below wr.heap.size wr W → Calls Tryz.prog 105 #[.agg #[.int .i64 y.1.player, .int .i64 y.1.unit, .int .i64 y.1.what, .int .i64 y.1.arg], .agg #[.int .i64 x.1.player, .int .i64 x.1.unit, .int .i64 x.1.what, .int .i64 x.1.arg]] W fun e w' => e = .returned (.int .i64 (cmpo y.1 x.1)) ∧ Below wr.heap.size wr w') := fun W hW => (compare_any y.1 x.1 W).mono fun e w' ⟨h1, h2⟩ => ⟨h1, hW.trans (h2.mono hW.size)⟩
      have ec := ecmp
      have hhi : ((h : Nat) : Int) < (L : Int) := by omega
      have IX : Hid (x.2 < y.2) := HY.out.2 y (by rw [← H12.out]; simp)
      have PW : Hid ((Y1 ++ (P ++ y :: R) ++ Y3).Pairwise lt) := by unfold Hid; rw [H12.out]; exact HY.out.1
      have HN : Hid (m + Y1.length = i ∧ i + P.length = h ∧ h + 1 + R.length = j) := ⟨hi, by omega, by simp at hj; omega⟩
      clear hi hj hh hs hih hPl hlY
      go_upto_region 5 with fail
      refine wp_region_class 10 (fun W => Below wr.heap.size wr W) (by kernel_rfl) (by kernel_rfl) (Below.refl _ _).drew ?_
      simp only [List.take_succ_cons, List.take_zero, List.drop_succ_cons, List.drop_zero]
      refine head_step (.func (.func 105) #[] #[]) (by go_simp) (fun W hW => by go_simp) ?_
      go_simp
      refine head_step (.slice (some ⟨g, 0, none⟩) L cap) (by go_simp) (fun W hW => by go_simp) ?_
      go_simp
      refine head_step (.int .i64 (h : Int)) (by go_simp) (fun W hW => by go_simp) ?_
      go_simp
      refine head_step (.pointer (some ⟨g, h * 4, none⟩)) (by go_simp) (fun W hW => by go_simp) ?_
      go_simp
      refine head_step (.agg #[.int .i64 y.1.player, .int .i64 y.1.unit, .int .i64 y.1.what, .int .i64 y.1.arg]) (by go_simp) (fun W hW => by obtain ⟨-, -, -, -, y0, y1, y2, y3⟩ := FC.out W hW; go_simp) ?_
      go_simp
      refine head_step (.slice (some ⟨g, 0, none⟩) L cap) (by go_simp) (fun W hW => by go_simp) ?_
      go_simp
      refine head_step (.int .i64 (a : Int)) (by go_simp) (fun W hW => by go_simp) ?_
      go_simp
      refine head_step (.pointer (some ⟨g, a * 4, none⟩)) (by go_simp) (fun W hW => by go_simp) ?_
      go_simp
      refine head_step (.agg #[.int .i64 x.1.player, .int .i64 x.1.unit, .int .i64 x.1.what, .int .i64 x.1.arg]) (by go_simp) (fun W hW => by obtain ⟨x0, x1, x2, x3, -⟩ := FC.out W hW; go_simp) ?_
      go_simp
      refine head_call (.int .i64 (cmpo y.1 x.1)) 105 #[.agg #[.int .i64 y.1.player, .int .i64 y.1.unit, .int .i64 y.1.what, .int .i64 y.1.arg], .agg #[.int .i64 x.1.player, .int .i64 x.1.unit, .int .i64 x.1.what, .int .i64 x.1.arg]] (by go_simp) (fun W hW => by go_simp) (fun W hW => CC.out W hW) ?_
      go_simp
      intro W hW
      have RW : Hid (Rb W g (fs (A ++ x :: (Y ++ B))) rest) := RB.out.below hW RB.out.lt
      have KW : Hid (Kp g w W) := K1.out.trans (Kp.of hW)
      by_cases hc : cmpo y.1 x.1 < 0
      · have LX : Hid (lt y x) := (ask_lt IX.out).1 ((klt_iff _ _).1 hc)
        clear hW FC CC
        go_wp2
        go_roundw
        case rel =>
          obtain ⟨n1, n2, n3⟩ := HN.out
          refine ⟨Y1 ++ (P ++ [y]), R, Y3, ?_, ?_, by rw [← H12.out]; simp, fun z hz => ?_, HHI.out, RW.out, KW.out⟩
          · congr 1; simp; omega
          · congr 1; simp; omega
          · rcases List.mem_append.1 hz with hz | hz
            · exact HLO.out z hz
            · rcases List.mem_append.1 hz with hz | hz
              · have h1 := PW.out
                rw [List.append_assoc, List.pairwise_append] at h1
                have h2 := h1.2.1
                rw [List.append_assoc, List.pairwise_append] at h2
                exact lt_trans (h2.2.2 z hz y (by simp)) LX.out
              · simp at hz
                subst hz
                exact LX.out
        case measure => have := HN.out; simp [intOf]; omega
      · have LX : Hid (lt x y) := (ask_ge IX.out).1 (fun h => hc ((klt_iff _ _).2 h))
        clear hW FC CC
        go_wp2
        go_roundw
        case rel =>
          obtain ⟨n1, n2, n3⟩ := HN.out
          refine ⟨Y1, P, y :: (R ++ Y3), ?_, ?_, by rw [← H12.out]; simp, HLO.out, fun z hz => ?_, RW.out, KW.out⟩
          · congr 1; omega
          · congr 1; omega
          · rcases List.mem_cons.1 hz with rfl | hz
            · exact LX.out
            · have h1 := PW.out
              have e : Y1 ++ (P ++ y :: R) ++ Y3 = (Y1 ++ P) ++ y :: (R ++ Y3) := by simp
              rw [e, List.pairwise_append] at h1
              exact lt_trans LX.out ((List.pairwise_cons.1 h1.2.1).1 z hz)
        case measure => have := HN.out; simp [intOf]; omega
end Go.Proofs.YteieikgkmfglaaaGreatDoor

namespace Go.Proofs.YteieikgkmfglaaaGreatDoor
open Go.RowKit Go.Proofs.YteieikgkmfglaaaGreatDoor.So
set_option linter.unusedVariables false

/-- what is looked for among the X. -/
def BsY (A X : List T) (y : T) (B : List T) (g : Nat) (rest : List Value) (w : World) (a : Nat) (iv jv : Value) (W : World) : Prop := ∃ (X1 X2 X3 : List T), iv = .int .i64 ((a + X1.length : Nat) : Int) ∧ jv = .int .i64 ((a + X1.length + X2.length : Nat) : Int) ∧ X1 ++ X2 ++ X3 = X ∧ (∀ z ∈ X1, lt z y) ∧ (∀ z ∈ X3, lt y z) ∧ Rb W g (fs (A ++ X ++ y :: B)) rest ∧ Kp g w W
/-- it goes down. -/
def DnY (AX : List T) (y : T) (X3 B : List T) (g : Nat) (rest : List Value) (w : World) (i : Nat) (kv : Value) (W : World) : Prop := ∃ (U V : List T), kv = .int .i64 ((i + U.length : Nat) : Int) ∧ U ++ V = X3 ∧ Rb W g (fs (AX ++ U) ++ y.1 :: (fs V ++ fs B)) rest ∧ Kp g w W
set_option maxRecDepth 100000 in
set_option maxHeartbeats 8000000 in
theorem sym_last (A X : List T) (y : T) (B : List T) (g cap L a m b : Nat) (rest : List Value) (w : World) (hX : X.Pairwise lt) (hpl : ∀ x ∈ X, x.2 < y.2) (hX1 : X.length ≠ 1) (hr : Rb w g (fs (A ++ X ++ y :: B)) rest) (hL : A.length + X.length + 1 + B.length = L) (hn : L ≤ 1000) (ha : A.length = a) (hm : a + X.length = m) (hb : m + 1 = b) :
    Calls Tryz.prog 154 #[.slice (some ⟨g, 0, none⟩) L cap, .int .i64 (a : Nat), .int .i64 (m : Nat), .int .i64 (b : Nat), .func (.func 105) #[] #[]] w
      (MergeSays A (X ++ [y]) B g rest w) := by
  have R0 : Hid (Rb w g (fs (A ++ X ++ y :: B)) rest) := hr
  have HL : Hid (A.length + X.length + 1 + B.length = L) := hL
  have Ha : Hid (A.length = a) := ha
  have Hm : Hid (a + X.length = m) := hm
  have Hb : Hid (m + 1 = b) := hb
  have HX : Hid (X.Pairwise lt ∧ ∀ x ∈ X, x.2 < y.2) := ⟨hX, hpl⟩
  have hbL : b ≤ L := by omega
  obtain ⟨d, hd⟩ : ∃ d, X.length = d := ⟨_, rfl⟩
  have smi : ((m : Nat) : Int) - (a : Int) = (d : Nat) := by omega
  have wd : IntKind.i64.wrap ((d : Nat) : Int) = (d : Nat) := by rw [IntKind.wrap_i64]; omega
  have d1 : (((d : Nat) : Int) == 1) = false := by have : ¬ ((d : Nat) : Int) = 1 := by omega
                                                   simpa using this
  have sbm : ((b : Nat) : Int) - (m : Int) = 1 := by omega
  have hmL : ((m : Nat) : Int) < (L : Int) := by omega
  clear hr hL hX hpl ha hm hb hd hX1
  go_enter Tryz.func154, Tryz.ntmps154
  go_wp2
  go_loopw [14, 15] (fun iv jv W => BsY A X y B g rest w a iv jv W) (fun iv jv _ => (intOf jv).toNat - (intOf iv).toNat)
  case atStart =>
    refine ⟨[], X, [], by simp, by have := Hm.out; simp; omega, by simp, by simp, by simp, R0.out, Kp.refl _ _⟩
  case round =>
    obtain ⟨X1, X2, X3, rfl, rfl, h12, hlo, hhi, hrb, hk⟩ := hrel
    have RB : Hid (Rb wr g (fs (A ++ X ++ y :: B)) rest) := hrb
    have K1 : Hid (Kp g w wr) := hk
    have H12 : Hid (X1 ++ X2 ++ X3 = X) := h12
    have HLO : Hid (∀ z ∈ X1, lt z y) := hlo
    have HHI : Hid (∀ z ∈ X3, lt y z) := hhi
    have hlY : X1.length + X2.length + X3.length = X.length := by have := congrArg List.length h12; simp at this; omega
    obtain ⟨i, hi⟩ : ∃ i, a + X1.length = i := ⟨_, rfl⟩
    obtain ⟨j, hj⟩ : ∃ j, i + X2.length = j := ⟨_, rfl⟩
    rw [hi, hj]
    have hjb : j ≤ m := by have := Hm.out; omega
    have hmL2 : m < L := by have := Hb.out; omega
    clear hrb hk h12 hlo hhi
    by_cases he : i = j
    · have hlt : ¬ ((i : Nat) : Int) < (j : Int) := by omega
      have e2 : X2 = [] := List.length_eq_zero_iff.1 (by omega)
      subst e2
      have HI : Hid (a + X1.length = i) := hi
      have e12 : X1 ++ [] ++ X3 = X1 ++ X3 := by simp
      have H13 : Hid (X1 ++ X3 = X) := by unfold Hid; rw [← e12]; exact H12.out
      have HM2 : Hid (i + X3.length = m) := by unfold Hid; have := Hm.out; simp at hlY; omega
      clear hlY hj he e12 hi
      go_wp2_with fail
      go_loopw [17] (fun kv W => DnY (A ++ X1) y X3 B g rest w i kv W) (fun kv _ => (intOf kv).toNat)
      case atStart =>
        refine ⟨X3, [], by rw [HM2.out], by simp, ?_, K1.out⟩
        have h := RB.out
        rw [← H13.out] at h
        simpa [fs] using h
      case round =>
        obtain ⟨U, V, rfl, hUV, hrb, hk⟩ := hrel
        have R1 : Hid (Rb wr g (fs ((A ++ X1) ++ U) ++ y.1 :: (fs V ++ fs B)) rest) := hrb
        have K2 : Hid (Kp g w wr) := hk
        have HUV : Hid (U ++ V = X3) := hUV
        have hl : U.length + V.length = X3.length := by have := congrArg List.length hUV; simpa using this
        clear hrb hk hUV
        rcases List.eq_nil_or_concat U with h0 | ⟨U', z, h0⟩
        · subst h0
          have hnk : ¬ ((i : Nat) : Int) < (i : Int) := by omega
          simp only [List.length_nil, Nat.add_zero]
          clear hl
          go_wp2
          go_end0
          refine ⟨rfl, X1 ++ y :: X3, ?_, ?_, ?_, K2.out⟩
          · rw [← H13.out]
            exact List.perm_middle.trans (List.perm_append_singleton y _).symm
          · exact put_rise (by rw [H13.out]; exact HX.out.1) HLO.out HHI.out
          · have h := R1.out
            have e := HUV.out
            simp only [List.nil_append] at e
            rw [e] at h
            simpa [fs] using h
        · subst h0
          obtain ⟨k, hk⟩ : ∃ k, i + U'.length = k := ⟨_, rfl⟩
          have hk1 : i + (U'.concat z).length = k + 1 := by rw [← hk]; simp; omega
          have HK : Hid (i + U'.length = k) := hk
          have hkm : k + 1 ≤ m := by have := HM2.out; omega
          have e1 : ((i + (U'.concat z).length : Nat) : Int) = (k : Int) + 1 := by rw [hk1]; rfl
          rw [e1]
          have hnk : ((i : Nat) : Int) < (k : Int) + 1 := by omega
          have HKT : Hid (k + 1 ≤ m ∧ m < L) := ⟨hkm, hmL2⟩
          have hP : (fs ((A ++ X1) ++ U')).length = k := by have := Ha.out; have := HI.out; simp [fs]; omega
          have RC : Hid (Rb wr g (fs ((A ++ X1) ++ U') ++ z.1 :: y.1 :: (fs V ++ fs B)) rest) := by have := R1.out; simpa [fs, Hid] using this
          have AF := at_far (fs ((A ++ X1) ++ U')) [] (fs V ++ fs B) z.1 y.1
          simp only [List.nil_append, List.length_nil, Nat.add_zero] at AF
          have SW : Hid (_ = _) := swap_two (fs ((A ++ X1) ++ U')) z.1 y.1 (fs V ++ fs B)
          rw [hP] at AF SW
          have LL : Hid ((fs ((A ++ X1) ++ U') ++ z.1 :: y.1 :: (fs V ++ fs B)).length = L) := by
            have h1 := HL.out
            have h2 := congrArg List.length H13.out
            have h3 := Ha.out
            have h4 := hP
            unfold Hid
            simp at h2 hl ⊢
            simp at h4
            omega
          obtain ⟨x0, x1, x2, x3⟩ := RC.out.cells AF.1
          obtain ⟨y0, y1, y2, y3⟩ := RC.out.cells AF.2
          have f0 := RC.out.thaw (k * 4)
          have f1 := RC.out.thaw (k * 4 + 1)
          have f2 := RC.out.thaw (k * 4 + 2)
          have f3 := RC.out.thaw (k * 4 + 3)
          have f4 := RC.out.thaw ((k + 1) * 4)
          have f5 := RC.out.thaw ((k + 1) * 4 + 1)
          have f6 := RC.out.thaw ((k + 1) * 4 + 2)
          have f7 := RC.out.thaw ((k + 1) * 4 + 3)
          have kpos : ¬ ((k : Nat) : Int) + 1 < 0 := by omega
          have hki : ((k : Nat) : Int) + 1 < (L : Int) := by omega
          have hki0 : ((k : Nat) : Int) < (L : Int) := by omega
          have kk1 : ((k : Nat) : Int) + 1 - 1 = k := by omega
          have kw : IntKind.i64.wrap ((k : Nat) : Int) = k := by rw [IntKind.wrap_i64]; omega
          clear AF hP hl hk hk1 R1 e1
          go_wp2_with fail
          go_region
          have rr := (RC.out.put (i := k + 1) (by rw [LL.out]; have := HKT.out; omega) z.1).put (i := k) (by rw [List.length_set, LL.out]; have := HKT.out; omega) y.1
          rw [SW.out] at rr
          have RR : Hid (Rb _ g (fs ((A ++ X1) ++ U') ++ y.1 :: z.1 :: (fs V ++ fs B)) rest) := rr
          have KR : Hid (Kp g w _) := (((((((K2.out.trans (Kp.set wr ((k + 1) * 4) (.int .i64 z.1.player))).trans (Kp.set _ ((k + 1) * 4 + 1) (.int .i64 z.1.unit))).trans (Kp.set _ ((k + 1) * 4 + 2) (.int .i64 z.1.what))).trans (Kp.set _ ((k + 1) * 4 + 3) (.int .i64 z.1.arg))).trans (Kp.set _ (k * 4) (.int .i64 y.1.player))).trans (Kp.set _ (k * 4 + 1) (.int .i64 y.1.unit))).trans (Kp.set _ (k * 4 + 2) (.int .i64 y.1.what))).trans (Kp.set _ (k * 4 + 3) (.int .i64 y.1.arg))
          clear rr
          go_wp2
          go_roundw
          case rel =>
            have h1 := HK.out
            refine ⟨U', z :: V, by rw [h1], by rw [← HUV.out]; simp, ?_, KR.out.trans (Kp.of (Below.refl _ _).drew)⟩
            have h4 := RR.out.below (Below.refl _ _).drew RR.out.lt
            exact h4
          case measure => simp [intOf]
    · have hlt : ((i : Nat) : Int) < (j : Int) := by omega
      obtain ⟨s, hs⟩ : ∃ s, i + j = s := ⟨_, rfl⟩
      obtain ⟨h, hh⟩ : ∃ h, s / 2 = h := ⟨_, rfl⟩
      have ss : ((i : Nat) : Int) + (j : Int) = (s : Nat) := by omega
      have ws : IntKind.i64.wrap ((s : Nat) : Int) = (s : Nat) := by rw [IntKind.wrap_i64]; omega
      have sh : ((s : Nat) : Int) / 2 = (h : Nat) := by omega
      have hih : i ≤ h ∧ h < j := by omega
      obtain ⟨P, x, R, hY2, hPl⟩ : ∃ P x R, X2 = P ++ x :: R ∧ P.length = h - i := by
        have h1 : h - i < X2.length := by omega
        exact ⟨X2.take (h - i), X2[h - i], X2.drop (h - i + 1), by rw [List.getElem_cons_drop, List.take_append_drop], by rw [List.length_take]; omega⟩
      subst hY2
      have hhL : h < L := by omega
      have Hx : Hid ((fs (A ++ X ++ y :: B))[h]? = some x.1) := by
        have e : A ++ X ++ y :: B = (A ++ (X1 ++ P)) ++ x :: (R ++ X3 ++ y :: B) := by rw [← H12.out]; simp
        have e2 : h = (fs (A ++ (X1 ++ P))).length := by have := Ha.out; simp [fs]; omega
        unfold Hid
        rw [e, e2]
        simp [fs]
      have Hy : Hid ((fs (A ++ X ++ y :: B))[m]? = some y.1) := by
        have e2 : m = (fs (A ++ X)).length := by have := Ha.out; have := Hm.out; simp [fs]; omega
        unfold Hid
        rw [e2]
        simp [fs]
      have FC : Hid (∀ W, Below wr.heap.size wr W → W.cell? ⟨g, h * 4, none⟩ = some (.int .i64 x.1.player) ∧ W.cell? ⟨g, h * 4 + 1, none⟩ = some (.int .i64 x.1.unit) ∧ W.cell? ⟨g, h * 4 + 2, none⟩ = some (.int .i64 x.1.what) ∧ W.cell? ⟨g, h * 4 + 3, none⟩ = some (.int .i64 x.1.arg) ∧ W.cell? ⟨g, m * 4, none⟩ = some (.int .i64 y.1.player) ∧ W.cell? ⟨g, m * 4 + 1, none⟩ = some (.int .i64 y.1.unit) ∧ W.cell? ⟨g, m * 4 + 2, none⟩ = some (.int .i64 y.1.what) ∧ W.cell? ⟨g, m * 4 + 3, none⟩ = some (.int .i64 y.1.arg)) := fun W hW => by
        have r := RB.out.below hW RB.out.lt
        obtain ⟨x0, x1, x2, x3⟩ := r.cells Hx.out
        obtain ⟨y0, y1, y2, y3⟩ := r.cells Hy.out
        exact ⟨x0, x1, x2, x3, y0, y1, y2, y3⟩
      have CC : Hid (∀ W, Below wr.heap.size wr W → Calls Tryz.prog 105 #[.agg #[.int .i64 y.1.player, .int .i64 y.1.unit, .int .i64 y.1.what, .int .i64 y.1.arg], .agg #[.int .i64 x.1.player, .int .i64 x.1.unit, .int .i64 x.1.what, .int .i64 x.1.arg]] W fun e w' => e = .returned (.int .i64 (cmpo y.1 x.1)) ∧ Below wr.heap.size wr w') := fun W hW => (compare_any y.1 x.1 W).mono fun e w' ⟨h1, h2⟩ => ⟨h1, hW.trans (h2.mono hW.size)⟩
      have ec := ecmp
      have hhi : ((h : Nat) : Int) < (L : Int) := by omega
      have IX : Hid (x.2 < y.2) := HX.out.2 x (by rw [← H12.out]; simp)
      have PW : Hid ((X1 ++ (P ++ x :: R) ++ X3).Pairwise lt) := by unfold Hid; rw [H12.out]; exact HX.out.1
      have HN : Hid (a + X1.length = i ∧ i + P.length = h ∧ h + 1 + R.length = j) := ⟨hi, by omega, by simp at hj; omega⟩
      clear hi hj hh hs hih hPl hlY
      go_upto_region 17 with fail
      refine wp_region_class 10 (fun W => Below wr.heap.size wr W) (by kernel_rfl) (by kernel_rfl) (Below.refl _ _).drew ?_
      simp only [List.take_succ_cons, List.take_zero, List.drop_succ_cons, List.drop_zero]
      refine head_step (.func (.func 105) #[] #[]) (by go_simp) (fun W hW => by go_simp) ?_
      go_simp
      refine head_step (.slice (some ⟨g, 0, none⟩) L cap) (by go_simp) (fun W hW => by go_simp) ?_
      go_simp
      refine head_step (.int .i64 (m : Int)) (by go_simp) (fun W hW => by go_simp) ?_
      go_simp
      refine head_step (.pointer (some ⟨g, m * 4, none⟩)) (by go_simp) (fun W hW => by go_simp) ?_
      go_simp
      refine head_step (.agg #[.int .i64 y.1.player, .int .i64 y.1.unit, .int .i64 y.1.what, .int .i64 y.1.arg]) (by go_simp) (fun W hW => by obtain ⟨-, -, -, -, y0, y1, y2, y3⟩ := FC.out W hW; go_simp) ?_
      go_simp
      refine head_step (.slice (some ⟨g, 0, none⟩) L cap) (by go_simp) (fun W hW => by go_simp) ?_
      go_simp
      refine head_step (.int .i64 (h : Int)) (by go_simp) (fun W hW => by go_simp) ?_
      go_simp
      refine head_step (.pointer (some ⟨g, h * 4, none⟩)) (by go_simp) (fun W hW => by go_simp) ?_
      go_simp
      refine head_step (.agg #[.int .i64 x.1.player, .int .i64 x.1.unit, .int .i64 x.1.what, .int .i64 x.1.arg]) (by go_simp) (fun W hW => by obtain ⟨x0, x1, x2, x3, -⟩ := FC.out W hW; go_simp) ?_
      go_simp
      refine head_call (.int .i64 (cmpo y.1 x.1)) 105 #[.agg #[.int .i64 y.1.player, .int .i64 y.1.unit, .int .i64 y.1.what, .int .i64 y.1.arg], .agg #[.int .i64 x.1.player, .int .i64 x.1.unit, .int .i64 x.1.what, .int .i64 x.1.arg]] (by go_simp) (fun W hW => by go_simp) (fun W hW => CC.out W hW) ?_
      go_simp
      intro W hW
      have RW : Hid (Rb W g (fs (A ++ X ++ y :: B)) rest) := RB.out.below hW RB.out.lt
      have KW : Hid (Kp g w W) := K1.out.trans (Kp.of hW)
      by_cases hc : cmpo y.1 x.1 < 0
      · have LX : Hid (lt y x) := (ask_lt IX.out).1 ((klt_iff _ _).1 hc)
        clear hW FC CC
        go_wp2
        go_roundw
        case rel =>
          obtain ⟨n1, n2, n3⟩ := HN.out
          refine ⟨X1, P, x :: (R ++ X3), ?_, ?_, by rw [← H12.out]; simp, HLO.out, fun z hz => ?_, RW.out, KW.out⟩
          · congr 1; omega
          · congr 1; omega
          · rcases List.mem_cons.1 hz with rfl | hz
            · exact LX.out
            · have h1 := PW.out
              have e : X1 ++ (P ++ x :: R) ++ X3 = (X1 ++ P) ++ x :: (R ++ X3) := by simp
              rw [e, List.pairwise_append] at h1
              exact lt_trans LX.out ((List.pairwise_cons.1 h1.2.1).1 z hz)
        case measure => have := HN.out; simp [intOf]; omega
      · have LX : Hid (lt x y) := (ask_ge IX.out).1 (fun h => hc ((klt_iff _ _).2 h))
        clear hW FC CC
        go_wp2
        go_roundw
        case rel =>
          obtain ⟨n1, n2, n3⟩ := HN.out
          refine ⟨X1 ++ (P ++ [x]), R, X3, ?_, ?_, by rw [← H12.out]; simp, fun z hz => ?_, HHI.out, RW.out, KW.out⟩
          · congr 1; simp; omega
          · congr 1; simp; omega
          · rcases List.mem_append.1 hz with hz | hz
            · exact HLO.out z hz
            · rcases List.mem_append.1 hz with hz | hz
              · have h1 := PW.out
                rw [List.append_assoc, List.pairwise_append] at h1
                have h2 := h1.2.1
                rw [List.append_assoc, List.pairwise_append] at h2
                exact lt_trans (h2.2.2 z hz x (by simp)) LX.out
              · simp at hz
                subst hz
                exact LX.out
        case measure => have := HN.out; simp [intOf]; omega
end Go.Proofs.YteieikgkmfglaaaGreatDoor

namespace Go.Proofs.YteieikgkmfglaaaGreatDoor
namespace So
theorem rise_lt {X : List T} (h : X.Pairwise lt) {i j : Nat} (hij : i < j) (hj : j < X.length) : lt (X[i]'(by omega)) X[j] := List.pairwise_iff_getElem.1 h i j (by omega) hj hij
theorem rise_le {X : List T} (h : X.Pairwise lt) {i j : Nat} (hij : i ≤ j) (hj : j < X.length) {z : T} (hz : lt X[j] z) : lt (X[i]'(by omega)) z := by
  rcases Nat.lt_or_ge i j with h1 | h1
  · exact lt_trans (rise_lt h h1 hj) hz
  · have : i = j := by omega
    subst this
    exact hz
theorem rise_ge {X : List T} (h : X.Pairwise lt) {i j : Nat} (hij : i ≤ j) (hj : j < X.length) {z : T} (hz : lt z (X[i]'(by omega))) : lt z X[j] := by
  rcases Nat.lt_or_ge i j with h1 | h1
  · exact lt_trans hz (rise_lt h h1 hj)
  · have : i = j := by omega
    subst this
    exact hz
/-- the front of both lies before the rest of both. -/
theorem cut_rise {X Y : List T} (hX : X.Pairwise lt) (hY : Y.Pairwise lt) {k l : Nat} (hk : k ≤ X.length) (hl : l ≤ Y.length)
    (h1 : 0 < k → l < Y.length → ∃ x y, X[k - 1]? = some x ∧ Y[l]? = some y ∧ lt x y) (h2 : k < X.length → 0 < l → ∃ x y, X[k]? = some x ∧ Y[l - 1]? = some y ∧ lt y x) :
    ∀ p ∈ X.take k ++ Y.take l, ∀ q ∈ X.drop k ++ Y.drop l, lt p q := by
  intro p hp q hq
  rcases List.mem_append.1 hp with hp | hp <;> rcases List.mem_append.1 hq with hq | hq
  · have := hX
    rw [← List.take_append_drop k X, List.pairwise_append] at this
    exact this.2.2 p hp q hq
  · obtain ⟨i, hi, rfl⟩ := List.mem_iff_getElem.1 hp
    obtain ⟨j, hj, rfl⟩ := List.mem_iff_getElem.1 hq
    simp at hi hj
    obtain ⟨x, y, e1, e2, h⟩ := h1 (by omega) (by omega)
    obtain ⟨g1, rfl⟩ := List.getElem?_eq_some_iff.1 e1
    obtain ⟨g2, rfl⟩ := List.getElem?_eq_some_iff.1 e2
    simp only [List.getElem_take, List.getElem_drop]
    exact rise_ge hY (by omega) (by omega) (rise_le hX (by omega) g1 h)
  · obtain ⟨i, hi, rfl⟩ := List.mem_iff_getElem.1 hp
    obtain ⟨j, hj, rfl⟩ := List.mem_iff_getElem.1 hq
    simp at hi hj
    obtain ⟨x, y, e1, e2, h⟩ := h2 (by omega) (by omega)
    obtain ⟨g1, rfl⟩ := List.getElem?_eq_some_iff.1 e1
    obtain ⟨g2, rfl⟩ := List.getElem?_eq_some_iff.1 e2
    simp only [List.getElem_take, List.getElem_drop]
    exact rise_ge hX (by omega) (by omega) (rise_le hY (by omega) g2 h)
  · have := hY
    rw [← List.take_append_drop l Y, List.pairwise_append] at this
    exact this.2.2 p hp q hq
/-- in the whole list. -/
theorem in_x (A X Y B : List T) {a i : Nat} (ha : A.length = a) (h0 : a ≤ i) (h1 : i < a + X.length) : (A ++ X ++ Y ++ B)[i]? = X[i - a]? := by
  subst ha
  rw [List.append_assoc, List.append_assoc, List.getElem?_append_right h0, List.getElem?_append_left (by omega)]
theorem in_y (A X Y B : List T) {m i : Nat} (hm : A.length + X.length = m) (h0 : m ≤ i) (h1 : i < m + Y.length) : (A ++ X ++ Y ++ B)[i]? = Y[i - m]? := by
  subst hm
  rw [List.append_assoc, List.getElem?_append_right (by simpa using h0), List.getElem?_append_left (by simp; omega)]
  simp
end So
end Go.Proofs.YteieikgkmfglaaaGreatDoor

namespace Go.Proofs.YteieikgkmfglaaaGreatDoor
namespace So
set_option linter.unusedVariables false
theorem cut_here (A X Y B : List T) {a m b n mid lo hi S : Nat} (hX : X.Pairwise lt) (hY : Y.Pairwise lt) (ha : A.length = a) (hm : a + X.length = m) (hb : m + Y.length = b) (hn : mid + m = n) (h1 : a ≤ lo) (h2 : lo ≤ S) (h3 : S ≤ hi) (h4 : hi ≤ m) (h5 : hi ≤ mid) (h6 : lo = a ∨ lo + b = n) (h7 : hi = m ∨ hi = mid) (h8 : n ≤ lo + b)
    (F1 : lo < S → ∃ x y, (A ++ X ++ Y ++ B)[S - 1]? = some x ∧ (A ++ X ++ Y ++ B)[n - S]? = some y ∧ lt x y) (F2 : S < hi → ∃ x y, (A ++ X ++ Y ++ B)[S]? = some x ∧ (A ++ X ++ Y ++ B)[n - 1 - S]? = some y ∧ lt y x) :
    ∃ X1 X2 Y1 Y2, X = X1 ++ X2 ∧ Y = Y1 ++ Y2 ∧ a + X1.length = S ∧ S + X2.length = m ∧ S + Y1.length = mid ∧ (m + Y1.length) + Y2.length = b ∧ ∀ p ∈ X1 ++ Y1, ∀ q ∈ X2 ++ Y2, lt p q := by
  refine ⟨X.take (S - a), X.drop (S - a), Y.take (mid - S), Y.drop (mid - S), (List.take_append_drop _ _).symm, (List.take_append_drop _ _).symm, ?_, ?_, ?_, ?_, ?_⟩
  · rw [List.length_take]; omega
  · rw [List.length_drop]; omega
  · rw [List.length_take]; omega
  · rw [List.length_take, List.length_drop]; omega
  · refine cut_rise hX hY (by omega) (by omega) (fun k0 l0 => ?_) (fun k0 l0 => ?_)
    · obtain ⟨x, y, e1, e2, h⟩ := F1 (by omega)
      rw [in_x A X Y B ha (by omega) (by omega)] at e1
      rw [in_y A X Y B (m := m) (by omega) (by omega) (by omega)] at e2
      exact ⟨x, y, by rw [← e1]; congr 1; omega, by rw [← e2]; congr 1; omega, h⟩
    · obtain ⟨x, y, e1, e2, h⟩ := F2 (by omega)
      rw [in_x A X Y B ha (by omega) (by omega)] at e1
      rw [in_y A X Y B (m := m) (by omega) (by omega) (by omega)] at e2
      exact ⟨x, y, e1, by rw [← e2]; congr 1; omega, h⟩
theorem rise_left {X1 X2 : List T} (h : (X1 ++ X2).Pairwise lt) : X1.Pairwise lt := (List.pairwise_append.1 h).1
theorem rise_right {X1 X2 : List T} (h : (X1 ++ X2).Pairwise lt) : X2.Pairwise lt := (List.pairwise_append.1 h).2.1
theorem end_rise {X1 X2 Y1 Y2 Z1 Z2 : List T} (p1 : Z1.Perm (X1 ++ Y1)) (p2 : Z2.Perm (X2 ++ Y2)) (r1 : Z1.Pairwise lt) (r2 : Z2.Pairwise lt) (h : ∀ p ∈ X1 ++ Y1, ∀ q ∈ X2 ++ Y2, lt p q) :
    (Z1 ++ Z2).Perm ((X1 ++ X2) ++ (Y1 ++ Y2)) ∧ (Z1 ++ Z2).Pairwise lt := by
  refine ⟨?_, cat_rise r1 r2 fun x hx y hy => h x (p1.mem_iff.1 hx) y (p2.mem_iff.1 hy)⟩
  refine (p1.append p2).trans ?_
  have e : (X1 ++ Y1 ++ (X2 ++ Y2)).Perm (X1 ++ (Y1 ++ X2) ++ Y2) := by simp
  refine e.trans ?_
  have e2 : (X1 ++ (Y1 ++ X2) ++ Y2).Perm (X1 ++ (X2 ++ Y1) ++ Y2) := ((List.perm_append_comm).append_left X1).append_right Y2
  refine e2.trans ?_
  simp
end So
end Go.Proofs.YteieikgkmfglaaaGreatDoor

namespace Go.Proofs.YteieikgkmfglaaaGreatDoor
open Go.RowKit Go.Proofs.YteieikgkmfglaaaGreatDoor.So
set_option linter.unusedVariables false

/-- where the two are to be cut. -/
def SyI (D : List T) (g : Nat) (rest : List Value) (w : World) (n lo hi : Nat) (sv rv : Value) (W : World) : Prop := ∃ (st r : Nat), sv = .int .i64 (st : Nat) ∧ rv = .int .i64 (r : Nat) ∧ lo ≤ st ∧ st ≤ r ∧ r ≤ hi ∧ (lo < st → ∃ x y, D[st - 1]? = some x ∧ D[n - st]? = some y ∧ lt x y) ∧ (r < hi → ∃ x y, D[r]? = some x ∧ D[n - 1 - r]? = some y ∧ lt y x) ∧ Rb W g (fs D) rest ∧ Kp g w W
theorem fs_at {D : List T} {i : Nat} {x : T} (h : D[i]? = some x) : (fs D)[i]? = some x.1 := by simp [fs, h]
theorem combos (X1 X2 Y1 Y2 : List T) (h1 : 0 < X1.length + X2.length) (h2 : 0 < Y1.length + Y2.length) (h3 : 0 < X1.length + Y1.length) (h4 : 0 < X2.length + Y2.length) :
    (X1 ≠ [] ∧ X2 ≠ [] ∧ Y1 ≠ [] ∧ Y2 ≠ []) ∨ (X1 = [] ∧ X2 ≠ [] ∧ Y1 ≠ [] ∧ Y2 ≠ []) ∨ (X1 ≠ [] ∧ X2 = [] ∧ Y1 ≠ [] ∧ Y2 ≠ []) ∨ (X1 ≠ [] ∧ X2 ≠ [] ∧ Y1 = [] ∧ Y2 ≠ []) ∨ (X1 ≠ [] ∧ X2 ≠ [] ∧ Y1 ≠ [] ∧ Y2 = []) ∨ (X1 = [] ∧ X2 ≠ [] ∧ Y1 ≠ [] ∧ Y2 = []) ∨ (X1 ≠ [] ∧ X2 = [] ∧ Y1 = [] ∧ Y2 ≠ []) := by
  rcases X1 with _ | ⟨_, _⟩ <;> rcases X2 with _ | ⟨_, _⟩ <;> rcases Y1 with _ | ⟨_, _⟩ <;> rcases Y2 with _ | ⟨_, _⟩ <;> simp at *
def SymIH (N g cap L : Nat) (rest : List Value) : Prop := ∀ (A X Y B : List T) (a m b : Nat) (w : World), X.length + Y.length ≤ N → X ≠ [] → Y ≠ [] → X.Pairwise lt → Y.Pairwise lt → (∀ x ∈ X, ∀ y ∈ Y, x.2 < y.2) → Rb w g (fs (A ++ X ++ Y ++ B)) rest → A.length + X.length + Y.length + B.length = L → A.length = a → a + X.length = m → m + Y.length = b →
    Calls Tryz.prog 154 #[.slice (some ⟨g, 0, none⟩) L cap, .int .i64 (a : Nat), .int .i64 (m : Nat), .int .i64 (b : Nat), .func (.func 105) #[] #[]] w (MergeSays A (X ++ Y) B g rest w)
theorem pos_of_ne {l : List T} (h : l ≠ []) : 0 < l.length := List.length_pos_iff.2 h
end Go.Proofs.YteieikgkmfglaaaGreatDoor

