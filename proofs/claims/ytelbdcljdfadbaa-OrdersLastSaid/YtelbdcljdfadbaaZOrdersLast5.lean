/- OrdersLast: the walk. -/
import Derived.Test.YtelbdcljdfadbaaZOrdersLast4
import Derived.Laws.Closers25
import Derived.IntWalk
import Derived.BigRegion
import Derived.Deep.DeepCutAuto
namespace Go.Proofs.Ytelbdcljdfadbaa
open Go.RowKit So
set_option linter.unusedVariables false

theorem or_lit3 (w : World) : Orl (w.alloc (Obj.cells #[.int .i64 0, .int .i64 2, .int .i64 1, .int .i64 5, .int .i64 0, .int .i64 1, .int .i64 0, .int .i64 0, .int .i64 0, .int .i64 2, .int .i64 1, .int .i64 6] 28)) (.slice (some ⟨w.heap.size, 0, none⟩) 3 3) l0 := by
  refine ⟨_, _, rfl, by decide, by decide, fun _ => ⟨⟨w.heap.size, 0, none⟩, rfl, by simp, fun i k hk => ?_⟩⟩
  have hn := heap_alloc_new w (Obj.cells #[.int .i64 0, .int .i64 2, .int .i64 1, .int .i64 5, .int .i64 0, .int .i64 1, .int .i64 0, .int .i64 0, .int .i64 0, .int .i64 2, .int .i64 1, .int .i64 6] 28)
  match i, hk with
  | 0, hk => simp [l0] at hk; subst hk; refine ⟨?_, ?_, ?_, ?_⟩ <;> (simp only [World.cell?, Addr.add_lit, hn]; rfl)
  | 1, hk => simp [l0] at hk; subst hk; refine ⟨?_, ?_, ?_, ?_⟩ <;> (simp only [World.cell?, Addr.add_lit, hn]; rfl)
  | 2, hk => simp [l0] at hk; subst hk; refine ⟨?_, ?_, ?_, ?_⟩ <;> (simp only [World.cell?, Addr.add_lit, hn]; rfl)
  | i + 3, hk => simp [l0] at hk
theorem l0_fault : Od.faults l0 = 0 := Od.faults_of (by decide) (by intro o ho; simp [l0] at ho; rcases ho with rfl | rfl | rfl <;> (unfold Od.bad; simp only; omega))
def Lw1 (ks : List OrV) (w2 : World) (v7 v8 : Value) (W : World) : Prop := ∃ q : Nat, q ≤ ks.length ∧ v8 = .int .i64 (q : Nat) ∧ v7 = .int .i64 (((ks.take q).countP isTr : Nat) : Int) ∧ ∃ n, W = w2.drewN n
def Lw2 (ks : List OrV) (o : OrV) (q : Nat) (w2 : World) (v9 v10 : Value) (W : World) : Prop := ∃ (b : Bool) (j : Nat), v9 = .bool b ∧ v10 = .int .i64 (j : Nat) ∧ q < j ∧ j ≤ ks.length ∧ (b = true → ∀ (k : Nat) x, q < k → k < j → ks[k]? = some x → x.what = 3 ∨ x.player ≠ o.player ∨ x.unit ≠ o.unit) ∧ ∃ n, W = w2.drewN n
def Lw3 (out : List OrV) (o : OrV) (w2 : World) (v11 v12 : Value) (W : World) : Prop := ∃ (c : Bool) (j : Nat), v11 = .bool c ∧ v12 = .int .i64 (j : Nat) ∧ j ≤ out.length ∧ (∀ (k : Nat), k < j → out[k]? = some o → c = true) ∧ ∃ n, W = w2.drewN n
def Lw4 (out : List OrV) (w2 : World) (v7 v13 : Value) (W : World) : Prop := ∃ q : Nat, q ≤ out.length ∧ v13 = .int .i64 (q : Nat) ∧ v7 = .int .i64 ((out.countP isTr - (out.take q).countP isTr : Nat) : Int) ∧ ∃ n, W = w2.drewN n
def Lw5 (q : Nat) (w2 : World) (v14 : Value) (W : World) : Prop := ∃ j : Nat, j ≤ q ∧ v14 = .int .i64 (j : Nat) ∧ ∃ n, W = w2.drewN n
set_option maxRecDepth 100000 in
set_option maxHeartbeats 16000000 in
theorem walk (v0 : Value) (ks0 : List OrV) (w : World) (w0 : Orl w v0 ks0 ∧ ∀ k ∈ ks0, True) :
    Calls Try.prog 3 #[v0] w fun e w' => e = .returned (.bool true) ∧ Below w.heap.size w w' := by
  have K0 : Hid (Orl w v0 ks0) := w0.1
  obtain ⟨pa, pc, rfl, c1, c2, -⟩ := w0.1
  clear w0
  have B0 : Hid (Below w.heap.size w (w.alloc (Obj.cells #[.int .i64 0, .int .i64 2, .int .i64 1, .int .i64 5, .int .i64 0, .int .i64 1, .int .i64 0, .int .i64 0, .int .i64 0, .int .i64 2, .int .i64 1, .int .i64 6] 28))) := (Below.refl _ _).alloc (Nat.le_refl _) _
  go_enter Try.func3, Try.ntmps3
  go_wp2_with fail
  refine Calls.mono (last_any _ l0 _ (or_lit3 w)) ?_
  rintro e w1 ⟨u, r, rfl, hr, hu, hb⟩
  rw [l0_fault] at hr
  have B1 : Hid (Below w.heap.size w w1) := B0.out.trans (hb.mono B0.out.size)
  obtain ⟨rfl⟩ : r = .nilIface := by
    rcases hr with ⟨-, h⟩ | ⟨h, -⟩
    · exact h
    · exact absurd rfl h
  rcases hu with ⟨h, -⟩ | ⟨-, out0, hls, ho⟩
  · exact absurd l0_fault h
  obtain rfl := hls.one l0_last
  rcases ho.rb with ⟨-, h⟩ | ⟨g, cap, rest, rfl, -, hc1, -, -, hrb⟩
  · cases h
  have q1 : w1.cell? ⟨g, 1, none⟩ = some (.int .i64 1) := hrb.at_ (i := 0) rfl (j := 1) (by decide)
  have q7 : w1.cell? ⟨g, 7, none⟩ = some (.int .i64 6) := hrb.at_ (i := 1) rfl (j := 3) (by decide)
  clear hr hls ho hrb hb B0
  go_wp2_with fail
  clear q1 q7 hc1
  refine Calls.mono (last_any _ ks0 w1 (K0.out.below B1.out)) ?_
  rintro e w2 ⟨u, r, rfl, hr, hu, hb⟩
  have B2 : Hid (Below w.heap.size w w2) := B1.out.trans (hb.mono B1.out.size)
  obtain ⟨F, hF⟩ : ∃ F, Od.faults ks0 = F := ⟨_, rfl⟩
  have HF : Hid (Od.faults ks0 = F) := hF
  rw [hF] at hr hu
  clear hF hb
  rcases hr with ⟨rfl, rfl⟩ | ⟨hF, rfl⟩
  case inr =>
    clear hu
    go_wp2
    go_ret
    exact ⟨rfl, B2.out⟩
  rcases hu with ⟨h, -⟩ | ⟨-, out, hls, ho⟩
  · exact absurd rfl h
  have LS : Hid (LastSays ks0 out) := hls
  have FO : Hid (ks0.length ≤ 60 ∧ ∀ o ∈ ks0, ¬ Od.bad o) := Od.faults_ok HF.out
  have OL : Hid (out.length ≤ 60) := Nat.le_trans hls.len FO.out.1
  have O2 : Hid (Orl w2 u out) := ho.l
  have K2 : Hid (Orl w2 (.slice pa ks0.length pc) ks0) := K0.out.below B2.out
  obtain ⟨pb, pd, rfl, d1, d2, -⟩ := ho.l
  have lk : ks0.length ≤ 60 := FO.out.1
  have lo : out.length ≤ 60 := OL.out
  have BN : Hid (∀ n, Below w.heap.size w (w2.drewN n)) := fun n => ⟨B2.out.os, B2.out.tape, B2.out.output, B2.out.size, B2.out.block⟩
  clear hls ho
  go_wp2_with fail
  go_loopw [7, 8] (fun v7 v8 W => Lw1 ks0 w2 v7 v8 W) (fun _ v8 _ => ks0.length - (intOf v8).toNat)
  case atStart => exact ⟨0, Nat.zero_le _, rfl, rfl, 0, rfl⟩
  case round =>
    obtain ⟨q, hq, rfl, rfl, n, rfl⟩ := hrel
    have tq := tr_le ks0 q
    obtain ⟨t, ht⟩ : ∃ t, (ks0.take q).countP isTr = t := ⟨_, rfl⟩
    have HT : Hid ((ks0.take q).countP isTr = t) := ht
    rw [ht] at tq ⊢
    clear ht
    by_cases hql : q = ks0.length
    · subst hql
      have TT : Hid (t = out.countP isTr) := by unfold Hid; rw [← HT.out, List.take_length]; exact LS.out.trains.symm
      go_wp2_with fail
      go_loopw [7, 13] (fun v7 v13 W => Lw4 out w2 v7 v13 W) (fun _ v13 _ => out.length - (intOf v13).toNat)
      case atStart => exact ⟨0, Nat.zero_le _, rfl, by rw [TT.out]; simp, n, rfl⟩
      case round =>
        obtain ⟨q, hq, rfl, rfl, n, rfl⟩ := hrel
        have tm := tr_most out q
        obtain ⟨d, hd⟩ : ∃ d, out.countP isTr - (out.take q).countP isTr = d := ⟨_, rfl⟩
        have HD : Hid (out.countP isTr - (out.take q).countP isTr = d) := hd
        have dle : d ≤ 60 := by have : out.countP isTr ≤ out.length := List.countP_le_length; omega
        rw [hd]
        clear hd tm
        by_cases hqo : q = out.length
        · have dz : d = 0 := by have := HD.out; rw [hqo, List.take_length] at this; omega
          subst hqo
          subst dz
          go_wp2
          go_ret
          exact ⟨rfl, BN.out n⟩
        · have hqk : q < out.length := by omega
          obtain ⟨o, ho⟩ : ∃ o, out[q]? = some o := ⟨_, List.getElem?_eq_getElem hqk⟩
          have HO : Hid (out[q]? = some o) := ho
          obtain ⟨a', c', e, -, -, h3⟩ := O2.out
          injection e with e1 e2 e3
          subst e1 e3
          obtain ⟨y, rfl, hy1, hy⟩ := h3 (by rintro rfl; simp at hqk)
          have HY : Hid (∀ (i : Nat) k, out[i]? = some k → Orc w2 (y.add (i * 4)) k) := hy
          obtain ⟨r0, r1, r2, r3⟩ := hy q o ho
          clear hy h3 e2 ho
          have hqi : ((q : Nat) : Int) < (out.length : Nat) := by omega
          by_cases h3 : o.what = 3
          · have DN : Hid (out.countP isTr - (out.take (q + 1)).countP isTr = d - 1 ∧ 1 ≤ d) := by
              have h1 := tr_next HO.out
              rw [if_pos h3] at h1
              have h2 := tr_most out (q + 1)
              have h4 := HD.out
              exact ⟨by omega, by omega⟩
            have d1' : ((d : Nat) : Int) - 1 = ((d - 1 : Nat) : Int) := by have := DN.out; omega
            go_wp2
            go_round
            case rel => exact ⟨q + 1, by omega, by go_num, by rw [DN.out.1, ← d1'], n, rfl⟩
            case measure => simp [intOf]; omega
          · have h3b : (o.what == 3) = false := beq_eq_false_iff_ne.2 h3
            have DN : Hid (out.countP isTr - (out.take (q + 1)).countP isTr = d) := by
              have h1 := tr_next HO.out
              rw [if_neg h3] at h1
              have h4 := HD.out
              unfold Hid
              omega
            have H3 : Hid (¬ o.what = 3) := h3
            go_wp2_with fail
            clear r2 h3b h3
            go_loopw [14] (fun v14 W => Lw5 q w2 v14 W) (fun v14 _ => q - (intOf v14).toNat)
            case atStart => exact ⟨0, Nat.zero_le _, rfl, n, rfl⟩
            case round =>
              obtain ⟨j, hj, rfl, m, rfl⟩ := hrel
              by_cases hjq : j = q
              · subst hjq
                go_wp2
                go_round
                case rel => exact ⟨j + 1, by omega, by go_num, by rw [DN.out], m, rfl⟩
                case measure => simp [intOf]; omega
              · have hjl : j < q := by omega
                have hji : ((j : Nat) : Int) < (q : Nat) := by omega
                have hjo : ((j : Nat) : Int) < (out.length : Nat) := by omega
                obtain ⟨x, hx⟩ : ∃ x, out[j]? = some x := ⟨_, List.getElem?_eq_getElem (by omega)⟩
                obtain ⟨s0, s1, s2, s3⟩ := HY.out j x hx
                have HX : Hid (out[j]? = some x) := hx
                clear hx hjq
                by_cases g3 : x.what = 3
                · go_upto_region 33 with fail
                  go_quiet (fail)
                  go_wp2
                  go_roundw
                  case rel => exact ⟨j + 1, by omega, by go_num, m + nq, rfl⟩
                  case measure => simp [intOf]; omega
                · by_cases gp : x.player = o.player
                  · have gu : (x.unit == o.unit) = false := beq_eq_false_iff_ne.2 (LS.out.once hjl HX.out HO.out g3 H3.out gp)
                    go_upto_region 33 with fail
                    have g3b : (x.what != 3) = true := bne_iff_ne.2 g3
                    go_quiet (fail)
                    go_wp2
                    go_roundw
                    case rel => exact ⟨j + 1, by omega, by go_num, m + nq, rfl⟩
                    case measure => simp [intOf]; omega
                  · have gpb : (x.player == o.player) = false := beq_eq_false_iff_ne.2 gp
                    go_upto_region 33 with fail
                    have g3b : (x.what != 3) = true := bne_iff_ne.2 g3
                    go_quiet (fail)
                    go_wp2
                    go_roundw
                    case rel => exact ⟨j + 1, by omega, by go_num, m + nq, rfl⟩
                    case measure => simp [intOf]; omega
    · have hqk : q < ks0.length := by omega
      obtain ⟨o, ho⟩ : ∃ o, ks0[q]? = some o := ⟨_, List.getElem?_eq_getElem hqk⟩
      have HO : Hid (ks0[q]? = some o) := ho
      obtain ⟨a', c', e, -, -, h3⟩ := K2.out
      injection e with e1 e2 e3
      subst e1 e3
      obtain ⟨y, rfl, hy1, hy⟩ := h3 (by rintro rfl; simp at hqk)
      have HY : Hid (∀ (i : Nat) k, ks0[i]? = some k → Orc w2 (y.add (i * 4)) k) := hy
      obtain ⟨r0, r1, r2, r3⟩ := hy q o ho
      clear hy h3 e2 ho
      have hqi : ((q : Nat) : Int) < (ks0.length : Nat) := by omega
      by_cases h3 : o.what = 3
      · have TN : Hid ((ks0.take (q + 1)).countP isTr = t + 1) := by unfold Hid; rw [tr_next HO.out, if_pos h3, HT.out]
        go_wp2
        go_round
        case rel => exact ⟨q + 1, by omega, by go_num, by rw [TN.out]; go_num, n, rfl⟩
        case measure => simp [intOf]; omega
      · have h3b : (o.what == 3) = false := beq_eq_false_iff_ne.2 h3
        have TN : Hid ((ks0.take (q + 1)).countP isTr = t) := by unfold Hid; rw [tr_next HO.out, if_neg h3, HT.out]; rfl
        have H3 : Hid (¬ o.what = 3) := h3
        have hqb : q + 1 ≤ ks0.length := by omega
        go_wp2_with fail
        clear r2 h3b h3
        go_loopw [9, 10] (fun v9 v10 W => Lw2 ks0 o q w2 v9 v10 W) (fun _ v10 _ => ks0.length - (intOf v10).toNat)
        case atStart => exact ⟨true, q + 1, rfl, by go_num, by omega, hqb, fun _ k x h1 h2 => by omega, n, rfl⟩
        case round =>
          obtain ⟨b, j, rfl, rfl, hqj, hj, hall, m, rfl⟩ := hrel
          have HA : Hid (b = true → ∀ (k : Nat) x, q < k → k < j → ks0[k]? = some x → x.what = 3 ∨ x.player ≠ o.player ∨ x.unit ≠ o.unit) := hall
          clear hall
          by_cases hjl : j = ks0.length
          · have HB : Hid (b = true → o ∈ out) := fun hb => LS.out.has HO.out H3.out (fun k x h1 h2 hx => HA.out hb k x h1 (by omega) hx)
            subst hjl
            clear r0 r1 r3
            go_wp2_with fail
            go_loopw [11, 12] (fun v11 v12 W => Lw3 out o w2 v11 v12 W) (fun _ v12 _ => out.length - (intOf v12).toNat)
            case atStart => exact ⟨false, 0, rfl, rfl, Nat.zero_le _, fun k h => by omega, m, rfl⟩
            case round =>
              obtain ⟨c, i, rfl, rfl, hi, hin, l, rfl⟩ := hrel
              have HI : Hid (∀ (k : Nat), k < i → out[k]? = some o → c = true) := hin
              clear hin
              by_cases hio : i = out.length
              · have HC : Hid (b = true → c = true) := fun hb => by
                  obtain ⟨k, hk⟩ := List.mem_iff_getElem?.1 (HB.out hb)
                  exact HI.out k (by rw [hio]; exact (List.getElem?_eq_some_iff.1 hk).1) hk
                subst hio
                cases b
                · go_wp2
                  go_round
                  case rel => exact ⟨q + 1, by omega, by go_num, by rw [TN.out], l, rfl⟩
                  case measure => simp [intOf]; omega
                · obtain rfl := HC.out rfl
                  go_wp2
                  go_round
                  case rel => exact ⟨q + 1, by omega, by go_num, by rw [TN.out], l, rfl⟩
                  case measure => simp [intOf]; omega
              · have hil : i < out.length := by omega
                have hii : ((i : Nat) : Int) < (out.length : Nat) := by omega
                obtain ⟨x, hx⟩ : ∃ x, out[i]? = some x := ⟨_, List.getElem?_eq_getElem (by omega)⟩
                obtain ⟨a', c', e, -, -, h3⟩ := O2.out
                injection e with e1 e2 e3
                subst e1 e3
                obtain ⟨z, rfl, hz1, hz⟩ := h3 (by rintro rfl; simp at hil)
                obtain ⟨s0, s1, s2, s3⟩ := hz i x hx
                obtain ⟨r0, r1, r2, r3⟩ := HY.out q o HO.out
                have HX : Hid (out[i]? = some x) := hx
                clear hz h3 e2 hx hio
                cases c
                · by_cases g0 : x.player = o.player
                  · by_cases g1 : x.unit = o.unit
                    · by_cases g2 : x.what = o.what
                      · by_cases g3 : x.arg = o.arg
                        · have HN : Hid (∀ (k : Nat), k < i + 1 → out[k]? = some o → true = true) := fun _ _ _ => rfl
                          go_upto_region 22 with fail
                          go_quiet (fail)
                          go_wp2
                          go_roundw
                          case rel => exact ⟨true, i + 1, by first | rfl | simp, by go_num, by omega, HN.out, l + nq, rfl⟩
                          case measure => simp [intOf]; omega
                        · have gb : (x.arg == o.arg) = false := beq_eq_false_iff_ne.2 g3
                          have HN : Hid (∀ (k : Nat), k < i + 1 → out[k]? = some o → false = true) := fun k h1 h2 => by
                            by_cases e : k = i
                            · subst e
                              rw [HX.out] at h2
                              obtain rfl := Option.some.inj h2
                              exact absurd rfl g3
                            · exact HI.out k (by omega) h2
                          go_upto_region 22 with fail
                          go_quiet (fail)
                          go_wp2
                          go_roundw
                          case rel => exact ⟨false, i + 1, by first | rfl | simp, by go_num, by omega, HN.out, l + nq, rfl⟩
                          case measure => simp [intOf]; omega
                      · have gb : (x.what == o.what) = false := beq_eq_false_iff_ne.2 g2
                        have HN : Hid (∀ (k : Nat), k < i + 1 → out[k]? = some o → false = true) := fun k h1 h2 => by
                          by_cases e : k = i
                          · subst e
                            rw [HX.out] at h2
                            obtain rfl := Option.some.inj h2
                            exact absurd rfl g2
                          · exact HI.out k (by omega) h2
                        go_upto_region 22 with fail
                        go_quiet (fail)
                        go_wp2
                        go_roundw
                        case rel => exact ⟨false, i + 1, by first | rfl | simp, by go_num, by omega, HN.out, l + nq, rfl⟩
                        case measure => simp [intOf]; omega
                    · have gb : (x.unit == o.unit) = false := beq_eq_false_iff_ne.2 g1
                      have HN : Hid (∀ (k : Nat), k < i + 1 → out[k]? = some o → false = true) := fun k h1 h2 => by
                        by_cases e : k = i
                        · subst e
                          rw [HX.out] at h2
                          obtain rfl := Option.some.inj h2
                          exact absurd rfl g1
                        · exact HI.out k (by omega) h2
                      go_upto_region 22 with fail
                      go_quiet (fail)
                      go_wp2
                      go_roundw
                      case rel => exact ⟨false, i + 1, by first | rfl | simp, by go_num, by omega, HN.out, l + nq, rfl⟩
                      case measure => simp [intOf]; omega
                  · have gb : (x.player == o.player) = false := beq_eq_false_iff_ne.2 g0
                    have HN : Hid (∀ (k : Nat), k < i + 1 → out[k]? = some o → false = true) := fun k h1 h2 => by
                      by_cases e : k = i
                      · subst e
                        rw [HX.out] at h2
                        obtain rfl := Option.some.inj h2
                        exact absurd rfl g0
                      · exact HI.out k (by omega) h2
                    go_upto_region 22 with fail
                    go_quiet (fail)
                    go_wp2
                    go_roundw
                    case rel => exact ⟨false, i + 1, by first | rfl | simp, by go_num, by omega, HN.out, l + nq, rfl⟩
                    case measure => simp [intOf]; omega
                · have HN : Hid (∀ (k : Nat), k < i + 1 → out[k]? = some o → true = true) := fun _ _ _ => rfl
                  go_upto_region 22 with fail
                  go_quiet (fail)
                  go_wp2
                  go_roundw
                  case rel => exact ⟨true, i + 1, rfl, by go_num, by omega, HN.out, l + nq, rfl⟩
                  case measure => simp [intOf]; omega
          · have hjk : j < ks0.length := by omega
            have hji : ((j : Nat) : Int) < (ks0.length : Nat) := by omega
            obtain ⟨x, hx⟩ : ∃ x, ks0[j]? = some x := ⟨_, List.getElem?_eq_getElem hjk⟩
            obtain ⟨s0, s1, s2, s3⟩ := HY.out j x hx
            have HX : Hid (ks0[j]? = some x) := hx
            clear hx hjl
            cases b
            · go_upto_region 17 with fail
              go_quiet (fail)
              go_wp2
              go_roundw
              case rel => exact ⟨false, j + 1, rfl, by go_num, by omega, by omega, fun h => (by cases h), m + nq, rfl⟩
              case measure => simp [intOf]; omega
            · have NX : Hid ((x.what = 3 ∨ x.player ≠ o.player ∨ x.unit ≠ o.unit) → true = true → ∀ (k : Nat) z, q < k → k < j + 1 → ks0[k]? = some z → z.what = 3 ∨ z.player ≠ o.player ∨ z.unit ≠ o.unit) := fun hd _ k z h1 h2 hz => by
                by_cases e : k = j
                · subst e
                  rw [HX.out] at hz
                  obtain rfl := Option.some.inj hz
                  exact hd
                · exact HA.out rfl k z h1 (by omega) hz
              by_cases g3 : x.what = 3
              · go_upto_region 17 with fail
                go_quiet (fail)
                go_wp2
                go_roundw
                case rel => exact ⟨true, j + 1, by first | rfl | simp, by go_num, by omega, by omega, NX.out (.inl g3), m + nq, rfl⟩
                case measure => simp [intOf]; omega
              · have g3b : (x.what == 3) = false := beq_eq_false_iff_ne.2 g3
                by_cases gp : x.player = o.player
                · by_cases gu : x.unit = o.unit
                  · go_upto_region 17 with fail
                    go_quiet (fail)
                    go_wp2
                    go_roundw
                    case rel => exact ⟨false, j + 1, by first | rfl | simp, by go_num, by omega, by omega, fun h => (by cases h), m + nq, rfl⟩
                    case measure => simp [intOf]; omega
                  · go_upto_region 17 with fail
                    have gub : (x.unit != o.unit) = true := bne_iff_ne.2 gu
                    go_quiet (fail)
                    go_wp2
                    go_roundw
                    case rel => exact ⟨true, j + 1, by first | rfl | simp, by go_num, by omega, by omega, NX.out (.inr (.inr gu)), m + nq, rfl⟩
                    case measure => simp [intOf]; omega
                · go_upto_region 17 with fail
                  have gpb : (x.player != o.player) = true := bne_iff_ne.2 gp
                  go_quiet (fail)
                  go_wp2
                  go_roundw
                  case rel => exact ⟨true, j + 1, by first | rfl | simp, by go_num, by omega, by omega, NX.out (.inr (.inl gp)), m + nq, rfl⟩
                  case measure => simp [intOf]; omega
end Go.Proofs.Ytelbdcljdfadbaa

