/- TapePlays: the walk. -/
import Derived.Test.YtgdeonofdgpokaaDoorZTapePlays2
import Derived.Deep.CutBlock
import Derived.BigQuiet
namespace Go.Proofs.YtgdeonofdgpokaaDoor.tapePlays
open Go.RowKit Go.Proofs.YtgdeonofdgpokaaDoor.Tw
set_option linter.unusedVariables false

def TpI (n z : Nat) (w : World) (v6 v7 v8 v9 v10 : Value) (W : World) : Prop := ∃ (i : Nat) (T : TpV) (vt : Value), i ≤ n ∧ i ≤ 60 ∧ v10 = .int .i64 (i : Nat) ∧ v7 = .int .i64 (T.safe : Nat) ∧ v8 = .int .i64 (T.steps : Nat) ∧ v9 = .int .i64 (stop T) ∧ T.steps ≤ i ∧ TpS w.heap.size z v6 vt T W ∧ Below w.heap.size w W
def TvI (xs : List Int) (bv : Nat) (wa : World) (v12 : Value) (W : World) : Prop := ∃ j : Nat, j ≤ xs.length ∧ j ≤ 2 ∧ v12 = .int .i64 (j : Nat) ∧ Bv W bv (vv xs j 0) (vv xs j 1) ∧ Kp bv wa W
/-- behind the switch. -/
def SwI (base z bv : Nat) (A B : Int) (i : Nat) (w : World) (v6 v7 v8 v9 v13 v14 v15 v16 : Value) (V : World) : Prop :=
  ∃ (T : TpV) (vt : Value) (e : Int) (n d : Nat), v7 = .int .i64 (T.safe : Nat) ∧ v8 = .int .i64 (d : Nat) ∧ v9 = .int .i64 (stop T) ∧ v13 = .int .i64 e ∧ Er v14 e ∧ v15 = .int .i64 (n : Nat) ∧ v16 = .int .i64 (n : Nat) ∧ (if e = 0 ∧ A < 4 then d + 1 else d) = T.steps ∧ d ≤ i ∧ TpS base z v6 vt T V ∧ Bv V bv A B ∧ Below w.heap.size w V
set_option maxRecDepth 100000 in
set_option maxHeartbeats 64000000 in
theorem walk (v : Value) (ss : List (List Int)) (vb : Value) (b : List UInt8) (w : World) (hi : Ill w v ss) (hb : By w vb b) (hl : b.length ≤ 1048576) (et : Et w) :
    Calls Tryd.prog 3 #[v, vb] w fun e w' => e = .returned (.bool true) ∧ Below w.heap.size w w' := by
  have I : Hid (Ill w v ss) := hi
  have B : Hid (By w vb b) := hb
  have BL : Hid (b.length ≤ 1048576) := hl
  have ET : Hid (Et w) := et
  obtain ⟨av, cv, rfl, -⟩ := hi
  obtain ⟨pb, cb, rfl, b1, b2, -⟩ := hb
  have b2' : cb ≤ 9223372036854775807 := by unfold maxLen at b2; omega
  clear et b2
  go_enter Tryd.func3, Tryd.ntmps3
  go_wp2_with fail
  refine (tnew_any w).mono ?_
  rintro e w1 ⟨rfl, t1, k1⟩
  obtain ⟨z, hz⟩ : ∃ z, w.heap.size = z := ⟨_, rfl⟩
  have Z : Hid (w.heap.size = z) := hz
  have T1 : Hid (TpS w.heap.size z (.slice none 0 0) (.slice none 0 0) ⟨[], 0, 0, -1⟩ w1) := by
    unfold Hid
    rw [← hz]
    exact ⟨t1, Ob.nil _ _, fun b h => (by cases h), by simp, by simp, k1.size⟩
  have B1 : Hid (Below w.heap.size w w1) := k1
  rw [hz]
  clear t1 k1 hz
  go_upto_block 0 with fail
  go_cut [10] from 28 (fun _ V => Below w.heap.size w V)
  case first =>
    go_wp2_with fail
    go_loopw [6, 7, 8, 9, 10] (fun v6 v7 v8 v9 v10 W => TpI ss.length z w v6 v7 v8 v9 v10 W) (fun _ _ _ _ v10 _ => ss.length - (intOf v10).toNat)
    case atStart => exact ⟨0, ⟨[], 0, 0, -1⟩, _, Nat.zero_le _, by omega, rfl, rfl, rfl, rfl, Nat.le_refl _, T1.out, B1.out⟩
    case round =>
    obtain ⟨i, T, vt, hi, hi60, rfl, rfl, rfl, rfl, hst, hts, hbw⟩ := hrel
    have TS : Hid (TpS w.heap.size z u6 vt T wr) := hts
    have BR : Hid (Below w.heap.size w wr) := hbw
    have SI : Hid (T.steps ≤ i) := hst
    clear hts hbw hst T1 B1
    by_cases c1 : i = ss.length
    · have c1i : ¬ (i : Int) < (ss.length : Nat) := by omega
      go_wp2_with fail
      go_meet
      case rel => exact BR.out
    have c1i : (i : Int) < (ss.length : Nat) := by omega
    by_cases c2 : i = 60
    · have c2i : ¬ (i : Int) < 60 := by omega
      go_wp2_with fail
      go_meet
      case rel => exact BR.out
    have c2i : (i : Int) < 60 := by omega
    as_aux_lemma =>
      have IL : Hid (i < 60 ∧ i < ss.length) := by unfold Hid; omega
      obtain ⟨xs, hxs⟩ : ∃ xs, ss[i]? = some xs := ⟨_, List.getElem?_eq_getElem (by omega)⟩
      obtain ⟨ai, ci, ei, -, -, h3⟩ := I.out
      injection ei with e1 e2 e3
      subst e1 e3
      obtain ⟨x, rfl, hx1, hx⟩ := h3 (by rintro rfl; simp at hxs)
      obtain ⟨us, hus, hro, hwf⟩ := hx i xs hxs
      have WF : Hid (∀ z ∈ xs, (Lit.int .i64 z).wf = true) := hwf
      have US : Hid (w.cell? (x.add i) = some us ∧ (x.add i).block < w.heap.size) := ⟨hus, by rw [add_block]; exact hx1⟩
      obtain ⟨au, cu, rfl, -, -, hcs⟩ := hro
      have CS : Hid (Cells w au xs) := hcs
      clear h3 hx hus hcs hwf hx1 hxs e2
      have BA : Hid (Below wr.heap.size wr (wr.alloc (Obj.cells #[.int .i64 0, .int .i64 0] 26))) := (Below.refl _ _).alloc (Nat.le_refl _) _
      obtain ⟨bv, hbv⟩ : ∃ b, wr.heap.size = b := ⟨_, rfl⟩
      have BV : Hid (Bv (wr.alloc (Obj.cells #[.int .i64 0, .int .i64 0] 26)) bv (vv xs 0 0) (vv xs 0 1)) := by unfold Hid Bv; rw [← hbv, heap_alloc_new]; rfl
      have YB : Hid (w.heap.size ≤ bv ∧ wr.heap.size = bv) := by rw [← hbv]; exact ⟨BR.out.size, rfl⟩
      go_upto_region 10 with fail
      (try rw [hbv])
      generalize (wr.alloc (Obj.cells #[.int .i64 0, .int .i64 0] 26)) = wa at *
      have BR1 : Hid (Below w.heap.size w wa) := BR.out.trans (BA.out.mono BR.out.size)
      clear BR hbv
      go_upto_block 2 with fail
      go_cut [12] from 28 to 211 (fun v12 V => ∃ A B, Bv V bv A B ∧ (Lit.int .i64 B).wf = true ∧ Kp bv wa V)
      case first =>
        go_wp2_with fail
        go_loopw [12] (fun v12 W => TvI xs bv wa v12 W) (fun v12 _ => 2 - (intOf v12).toNat)
        case atStart => exact ⟨0, Nat.zero_le _, by omega, rfl, BV.out, Kp.refl _ _⟩
        case round =>
          obtain ⟨j, hj, hj3, rfl, hv, hk⟩ := hrel
          have VV : Hid (Bv wr bv (vv xs j 0) (vv xs j 1)) := hv
          have KV : Hid (Kp bv wa wr) := hk
          have q0 : wr.cell? (x.add i) = some (.slice au xs.length cu) := by
            have h1 : wa.cell? (x.add i) = some (.slice au xs.length cu) := by rw [BR1.out.cell (p := x.add i) US.out.2]; exact US.out.1
            rw [World.cell?_of_block (hk.block (x.add i).block (Nat.lt_of_lt_of_le US.out.2 BR1.out.size) (by have := US.out.2; have := YB.out; omega))]; exact h1
          clear hv hk BV
          by_cases hgo : j < xs.length ∧ j < 2
          case pos =>
            as_aux_lemma =>
              obtain ⟨g1, g2⟩ := hgo
              have g1i : (j : Int) < (xs.length : Nat) := by omega
              have g2i : (j : Int) < 2 := by omega
              obtain ⟨xj, hxj⟩ : ∃ xj, xs[j]? = some xj := ⟨_, List.getElem?_eq_getElem g1⟩
              obtain ⟨a, rfl, ha, hc⟩ := CS.out (by rintro rfl; simp at g1)
              have q1 : wr.cell? (a.add j) = some (.int .i64 xj) := by
                have h1 : wa.cell? (a.add j) = some (.int .i64 xj) := by rw [BR1.out.cell (p := a.add j) (by rw [add_block]; exact ha)]; exact hc j xj hxj
                rw [World.cell?_of_block (KV.out.block (a.add j).block (by rw [add_block]; exact Nat.lt_of_lt_of_le ha BR1.out.size) (by rw [add_block]; have := YB.out; omega))]; exact h1
              obtain ⟨s1, s2, u0, s3⟩ := VV.out.set g2 hxj
              have SS : Hid (Bv (wr.setCell ⟨bv, j, none⟩ (.int .i64 xj)) bv (vv xs (j + 1) 0) (vv xs (j + 1) 1) ∧ Kp bv wa (wr.setCell ⟨bv, j, none⟩ (.int .i64 xj))) := ⟨s1, KV.out.trans (Kp.set wr j _)⟩
              clear s1 hc hxj ha
              go_wp2
              go_round
              case rel => exact ⟨j + 1, by omega, by omega, by go_num, SS.out.1, SS.out.2⟩
              case measure => simp [intOf]; omega
          case neg =>
            have DD : (¬ (j : Int) < (xs.length : Nat)) ∨ ((j : Int) < (xs.length : Nat) ∧ ¬ (j : Int) < 2) := by omega
            clear hgo
            rcases DD with dd | ⟨dd1, dd2⟩
            all_goals
              go_wp2_with fail
              go_meet
              case rel => exact ⟨_, _, VV.out, vv_wf WF.out j 1, KV.out⟩
      case rest =>
      as_aux_lemma =>
        obtain ⟨A, B', hv, hwB, hk⟩ := hcut
        have VV : Hid (Bv wc bv A B') := hv
        have WB : Hid ((Lit.int .i64 B').wf = true) := hwB
        have B2 : Hid (Below w.heap.size w wc) := hk.below BR1.out BR1.out.size YB.out.1
        have TS2 : Hid (TpS w.heap.size z u6 vt T wc) := TS.out.below (hk.below BA.out BA.out.size (by rw [YB.out.2]; exact Nat.le_refl _))
        clear hv hwB hk BA BV BR1 TS US CS WF
        obtain ⟨v0, v1⟩ := VV.out.cells
        obtain ⟨e0, he0⟩ : ∃ e : Int, (if T.fails then 7 else 0) = e := ⟨_, rfl⟩
        have E0 : Hid ((if T.fails then (7 : Int) else 0) = e0) := he0
        have SIS := stop_is T
        clear he0
        go_upto_region 15 with fail
        go_cut [66] from 28 to 211 (fun v66 V => v66 = .bool T.fails ∧ V = wc)
        case first =>
          by_cases h0 : 0 ≤ stop T
          · by_cases h1 : stop T ≤ (T.steps : Int)
            · have e : Hid (T.fails = true) := by unfold Hid; rw [← SIS, decide_eq_true h0, decide_eq_true h1]; rfl
              clear SIS
              go_wp2_with fail
              go_meet
              case rel => exact ⟨by rw [e.out], rfl⟩
            · have e : Hid (T.fails = false) := by unfold Hid; rw [← SIS, decide_eq_true h0, decide_eq_false h1]; rfl
              clear SIS
              go_wp2_with fail
              go_meet
              case rel => exact ⟨by rw [e.out], rfl⟩
          · have e : Hid (T.fails = false) := by unfold Hid; rw [← SIS, decide_eq_false h0]; rfl
            clear SIS
            go_wp2_with fail
            go_meet
            case rel => exact ⟨by rw [e.out], rfl⟩
        case rest =>
        as_aux_lemma =>
          clear SIS
          obtain ⟨rfl, hV⟩ := hcut
          obtain rfl := hV.symm
          go_upto_if 66 with fail
          go_cut [13] from 28 to 211 (fun v13 V => v13 = .int .i64 e0 ∧ V = wc)
          case first =>
            cases hf : T.fails
            case true =>
              have e : Hid (e0 = 7) := by unfold Hid; rw [← E0.out, hf]; rfl
              clear hf
              go_wp2_with fail
              go_meet
              case rel => exact ⟨by rw [e.out], rfl⟩
            case false =>
              have e : Hid (e0 = 0) := by unfold Hid; rw [← E0.out, hf]; rfl
              clear hf
              go_wp2_with fail
              go_meet
              case rel => exact ⟨by rw [e.out], rfl⟩
          case rest =>
          as_aux_lemma =>
            obtain ⟨rfl, hV⟩ := hcut
            obtain rfl := hV.symm
            by_cases hA : A = 0 ∨ A = 1 ∨ A = 2 ∨ A = 3 ∨ A = 4 ∨ A = 5
            case neg =>
              have z0 : (A == 0) = false := beq_eq_false_iff_ne.2 (by omega)
              have z1 : (A == 1) = false := beq_eq_false_iff_ne.2 (by omega)
              have z2 : (A == 2) = false := beq_eq_false_iff_ne.2 (by omega)
              have z3 : (A == 3) = false := beq_eq_false_iff_ne.2 (by omega)
              have z4 : (A == 4) = false := beq_eq_false_iff_ne.2 (by omega)
              have z5 : (A == 5) = false := beq_eq_false_iff_ne.2 (by omega)
              clear hA
              go_wp2
              go_round
              case rel => exact ⟨i + 1, T, vt, by omega, by omega, by go_num, rfl, rfl, rfl, by have := SI.out; omega, TS2.out, B2.out⟩
              case measure => simp [intOf]; omega
            case pos =>
            go_upto_block 4 with fail
            go_cut [6, 7, 8, 9, 13, 14, 15, 16] from 28 to 211 (fun v6 v7 v8 v9 v13 v14 v15 v16 V => SwI w.heap.size z bv A B' i w v6 v7 v8 v9 v13 v14 v15 v16 V)
            case first =>
              obtain ⟨pa, ca, rfl⟩ := TS2.out.a.len
              have PA : pa = none ∨ ∃ g, pa = some ⟨g, 0, none⟩ := by
                rcases TS2.out.a.2 with ⟨h1, h2⟩ | ⟨g, cap, cur, h1, h2, h3, h4, h5, h6, h7⟩
                · injection h1 with e1 e2 e3; exact .inl e1
                · injection h1 with e1 e2 e3; exact .inr ⟨g, e1⟩
              have ca1 : T.b.length ≤ ca := by
                rcases TS2.out.a.2 with ⟨h1, h2⟩ | ⟨g, cap, cur, h1, h2, h3, h4, h5, h6, h7⟩
                · injection h1 with e1 e2 e3; omega
                · injection h1 with e1 e2 e3; omega
              have ST : Hid (T.steps ≤ 1000000) := by have := SI.out; have := IL.out; unfold Hid; omega
              have TB := TS2.out.l
              have TSS := TS2.out.s
              have bl := BL.out
              obtain ⟨bA, hbA⟩ : ∃ b, (A == 0 || A == 1) = b := ⟨_, rfl⟩
              have HBA : Hid ((A == 0 || A == 1) = bA) := hbA
              have HA : Hid (A = 0 ∨ A = 1 ∨ A = 2 ∨ A = 3 ∨ A = 4 ∨ A = 5) := hA
              clear hbA hA
              go_upto_if 69 with fail
              go_cut [68, 69] from 28 to 211 (fun v68 v69 V => v68 = .int .i64 A ∧ v69 = .bool bA ∧ V = wc)
              case first =>
                by_cases z0 : A = 0
                · have zz : bA = true := by rw [← HBA.out, z0]; rfl
                  subst z0
                  subst zz
                  go_wp2_with fail
                  go_meet
                  case rel => exact ⟨rfl, rfl, rfl⟩
                have z0b : (A == 0) = false := beq_eq_false_iff_ne.2 z0
                by_cases z1 : A = 1
                · have zz : bA = true := by rw [← HBA.out, z1]; rfl
                  subst z1
                  subst zz
                  go_wp2_with fail
                  go_meet
                  case rel => exact ⟨rfl, rfl, rfl⟩
                have z1b : (A == 1) = false := beq_eq_false_iff_ne.2 z1
                have zz : bA = false := by rw [← HBA.out, z0b, z1b]; rfl
                subst zz
                go_wp2_with fail
                go_meet
                case rel => exact ⟨rfl, rfl, rfl⟩
              case rest =>
              obtain ⟨rfl, rfl, hV⟩ := hcut
              obtain rfl := hV.symm
              cases bA
              case true =>
                as_aux_lemma =>
                  have HA4 : Hid (A < 4) := by
                    have h := HBA.out
                    unfold Hid
                    rcases HA.out with h1 | h1 | h1 | h1 | h1 | h1
                    · omega
                    · omega
                    · omega
                    · omega
                    · rw [h1] at h; cases h
                    · rw [h1] at h; cases h
                  clear HBA HA
                  cases hf : T.fails
                  case true =>
                    have e07 : e0 = 7 := by rw [← E0.out, hf]; rfl
                    have F : Hid (T.appF b = 7 ∧ T.app b = T ∧ T.appN b = 0) := by
                      have e : T.appF b = 7 := by unfold TpV.appF; rw [hf]; rfl
                      unfold Hid TpV.app TpV.appN; rw [e]; exact ⟨rfl, rfl, rfl⟩
                    subst e07
                    clear hf
                    go_wp2_with fail
                    refine (tappend_any w.heap.size z vt _ T b wc TS2.out.t (B.out.below B2.out) TB ST.out TS2.out.b).mono ?_
                    rintro e w2 ⟨r, vt2, rfl, er, tp, ts⟩
                    rw [F.out.1] at er
                    rw [F.out.2.1] at tp
                    rw [F.out.2.2]
                    have TP : Hid (Tp w2 w.heap.size z vt2 T ∧ Er r 7) := ⟨tp, er⟩
                    clear tp er
                    obtain ⟨oa, da, ba⟩ := TS2.out.call ts
                    have VV2 : Hid (Bv w2 bv A B') := TS2.out.bv ts VV.out
                    have OA : Hid (Ob w2 w.heap.size (.slice pa T.b.length ca) T.b ∧ (∀ b, (Value.slice pa T.b.length ca).ownBlock = some b → ¬ vt2.ownBlock = some b) ∧ w.heap.size ≤ w2.heap.size) := ⟨oa, da, ba⟩
                    have B3 : Hid (Below w.heap.size w w2) := B2.out.trans (ts.low TS2.out.t.o B2.out.size TS2.out.t.z (Nat.le_refl _))
                    clear oa da ba ts
                    go_wp2_with fail
                    go_meet
                    case rel => exact ⟨T, vt2, 7, 0, T.steps, rfl, rfl, rfl, rfl, TP.out.2, rfl, rfl, by simp, SI.out, ⟨TP.out.1, OA.out.1, OA.out.2.1, TB, TSS, OA.out.2.2⟩, VV2.out, B3.out⟩
                  case false =>
                    have e00 : e0 = 0 := by rw [← E0.out, hf]; rfl
                    subst e00
                    by_cases hg : 6000 < T.b.length + b.length
                    case pos =>
                      have F : Hid (T.appF b = 4 ∧ T.app b = T ∧ T.appN b = 0) := by
                        have e : T.appF b = 4 := by unfold TpV.appF; rw [hf, if_neg (by decide), if_pos hg]
                        unfold Hid TpV.app TpV.appN; rw [e]; exact ⟨rfl, rfl, rfl⟩
                      have hgi : (6000 : Int) < (T.b.length : Nat) + (b.length : Nat) := by omega
                      clear hf
                      go_wp2_with fail
                      refine (tappend_any w.heap.size z vt _ T b wc TS2.out.t (B.out.below B2.out) TB ST.out TS2.out.b).mono ?_
                      rintro e w2 ⟨r, vt2, rfl, er, tp, ts⟩
                      rw [F.out.1] at er
                      rw [F.out.2.1] at tp
                      rw [F.out.2.2]
                      have TP : Hid (Tp w2 w.heap.size z vt2 T ∧ Er r 4) := ⟨tp, er⟩
                      clear tp er
                      obtain ⟨oa, da, ba⟩ := TS2.out.call ts
                      have VV2 : Hid (Bv w2 bv A B') := TS2.out.bv ts VV.out
                      have OA : Hid (Ob w2 w.heap.size (.slice pa T.b.length ca) T.b ∧ (∀ b, (Value.slice pa T.b.length ca).ownBlock = some b → ¬ vt2.ownBlock = some b) ∧ w.heap.size ≤ w2.heap.size) := ⟨oa, da, ba⟩
                      have B3 : Hid (Below w.heap.size w w2) := B2.out.trans (ts.low TS2.out.t.o B2.out.size TS2.out.t.z (Nat.le_refl _))
                      clear oa da ba ts
                      go_wp2_with fail
                      go_meet
                      case rel => exact ⟨T, vt2, 4, 0, T.steps, rfl, rfl, rfl, rfl, TP.out.2, rfl, rfl, by simp, SI.out, ⟨TP.out.1, OA.out.1, OA.out.2.1, TB, TSS, OA.out.2.2⟩, VV2.out, B3.out⟩
                    case neg =>
                      have F : Hid (T.appF b = 0 ∧ T.app b = { T with b := T.b ++ b, steps := T.steps + 1 } ∧ T.appN b = T.b.length + b.length) := by
                        have e : T.appF b = 0 := by unfold TpV.appF; rw [hf, if_neg (by decide), if_neg hg]
                        unfold Hid TpV.app TpV.appN; rw [e]; exact ⟨rfl, rfl, rfl⟩
                      have hgi : ¬ (6000 : Int) < (T.b.length : Nat) + (b.length : Nat) := by omega
                      clear hf
                      go_wp2_with fail
                      refine (tappend_any w.heap.size z vt _ T b wc TS2.out.t (B.out.below B2.out) TB ST.out TS2.out.b).mono ?_
                      rintro e w2 ⟨r, vt2, rfl, er, tp, ts⟩
                      rw [F.out.1] at er
                      rw [F.out.2.1] at tp
                      rw [F.out.2.2]
                      obtain ⟨m, hm⟩ : ∃ m, T.b.length + b.length = m := ⟨_, rfl⟩
                      have M : Hid (T.b.length + b.length = m) := hm
                      rw [hm]
                      have TP : Hid (Tp w2 w.heap.size z vt2 { T with b := T.b ++ b, steps := T.steps + 1 } ∧ Er r 0) := ⟨tp, er⟩
                      clear tp er hm
                      obtain ⟨oa, da, ba⟩ := TS2.out.call ts
                      have VV2 : Hid (Bv w2 bv A B') := TS2.out.bv ts VV.out
                      have OA : Hid (Ob w2 w.heap.size (.slice pa T.b.length ca) T.b ∧ (∀ b, (Value.slice pa T.b.length ca).ownBlock = some b → ¬ vt2.ownBlock = some b) ∧ w.heap.size ≤ w2.heap.size) := ⟨oa, da, ba⟩
                      have B3 : Hid (Below w.heap.size w w2) := B2.out.trans (ts.low TS2.out.t.o B2.out.size TS2.out.t.z (Nat.le_refl _))
                      clear oa da ba ts
                      go_wp2_with (at_builtin; refine app_bytes2 _ rfl _ _ rfl w.heap.size _ T.b rfl OA.out.1 _ b rfl (B.out.below B3.out) (by omega) OA.out.2.2 ?_)
                      intro va3 w3 o3 g3 l3
                      obtain ⟨tp3, vv3, da3⟩ := grow OA.out.1 OA.out.2.1 TP.out.1 VV2.out g3 l3
                      have B4 : Hid (Below w.heap.size w w3) := B3.out.grown g3 B3.out.size (fun k hk => (OA.out.1.block k hk).1)
                      have O3 : Hid (TpS w.heap.size z va3 vt2 { T with b := T.b ++ b, steps := T.steps + 1 } w3 ∧ Bv w3 bv A B') := ⟨⟨tp3, o3, da3, by show (T.b ++ b).length ≤ 6000; rw [List.length_append]; omega, by show T.safe ≤ (T.b ++ b).length; rw [List.length_append]; omega, Nat.le_trans OA.out.2.2 g3.size⟩, vv3⟩
                      have LN : Hid ((T.b ++ b).length = m) := by unfold Hid; rw [List.length_append]; exact M.out
                      obtain ⟨pa3, ca3, rfl⟩ := o3.len
                      rw [LN.out] at O3 ⊢
                      clear o3 g3 l3 tp3 vv3 da3
                      go_wp2_with fail
                      go_meet
                      case rel => exact ⟨{ T with b := T.b ++ b, steps := T.steps + 1 }, vt2, 0, m, T.steps, rfl, rfl, rfl, rfl, TP.out.2, rfl, rfl, if_pos ⟨rfl, HA4.out⟩, SI.out, O3.out.1, O3.out.2, B4.out⟩
              case false =>
              have hA2 : A = 2 ∨ A = 3 ∨ A = 4 ∨ A = 5 := by
                have h := HBA.out
                rcases HA.out with h1 | h1 | h1 | h1 | h1 | h1
                · rw [h1] at h; cases h
                · rw [h1] at h; cases h
                · omega
                · omega
                · omega
                · omega
              clear HBA HA
              rcases hA2 with rfl | rfl | rfl | rfl
              ·
                as_aux_lemma =>
                  cases hf : T.fails
                  case true =>
                    have e07 : e0 = 7 := by rw [← E0.out, hf]; rfl
                    have F : Hid (T.syncF = 7 ∧ T.sync = T) := by unfold Hid TpV.syncF TpV.sync; rw [hf]; exact ⟨rfl, rfl⟩
                    subst e07
                    clear hf
                    go_wp2_with fail
                    refine (tsync_any w.heap.size z vt T wc TS2.out.t ST.out).mono ?_
                    rintro e w2 ⟨r, rfl, er, tp, ts⟩
                    rw [F.out.1] at er
                    rw [F.out.2] at tp
                    have TP : Hid (Tp w2 w.heap.size z vt T ∧ Er r 7) := ⟨tp, er⟩
                    clear tp er
                    obtain ⟨oa, da, ba⟩ := TS2.out.call ts
                    have VV2 : Hid (Bv w2 bv 2 B') := TS2.out.bv ts VV.out
                    have OA : Hid (Ob w2 w.heap.size (.slice pa T.b.length ca) T.b ∧ (∀ b, (Value.slice pa T.b.length ca).ownBlock = some b → ¬ vt.ownBlock = some b) ∧ w.heap.size ≤ w2.heap.size) := ⟨oa, da, ba⟩
                    have B3 : Hid (Below w.heap.size w w2) := B2.out.trans (ts.low TS2.out.t.o B2.out.size TS2.out.t.z (Nat.le_refl _))
                    clear oa da ba ts
                    go_wp2_with fail
                    go_meet
                    case rel => exact ⟨T, vt, 7, 0, T.steps, rfl, rfl, rfl, rfl, TP.out.2, rfl, rfl, by simp, SI.out, ⟨TP.out.1, OA.out.1, OA.out.2.1, TB, TSS, OA.out.2.2⟩, VV2.out, B3.out⟩
                  case false =>
                    have e00 : e0 = 0 := by rw [← E0.out, hf]; rfl
                    have F : Hid (T.syncF = 0 ∧ T.sync = { T with safe := T.b.length, steps := T.steps + 1 }) := by unfold Hid TpV.syncF TpV.sync; rw [hf]; exact ⟨rfl, rfl⟩
                    subst e00
                    clear hf
                    go_wp2_with fail
                    refine (tsync_any w.heap.size z vt T wc TS2.out.t ST.out).mono ?_
                    rintro e w2 ⟨r, rfl, er, tp, ts⟩
                    rw [F.out.1] at er
                    rw [F.out.2] at tp
                    have TP : Hid (Tp w2 w.heap.size z vt { T with safe := T.b.length, steps := T.steps + 1 } ∧ Er r 0) := ⟨tp, er⟩
                    clear tp er
                    obtain ⟨oa, da, ba⟩ := TS2.out.call ts
                    have VV2 : Hid (Bv w2 bv 2 B') := TS2.out.bv ts VV.out
                    have OA : Hid (Ob w2 w.heap.size (.slice pa T.b.length ca) T.b ∧ (∀ b, (Value.slice pa T.b.length ca).ownBlock = some b → ¬ vt.ownBlock = some b) ∧ w.heap.size ≤ w2.heap.size) := ⟨oa, da, ba⟩
                    have B3 : Hid (Below w.heap.size w w2) := B2.out.trans (ts.low TS2.out.t.o B2.out.size TS2.out.t.z (Nat.le_refl _))
                    clear oa da ba ts
                    go_wp2_with fail
                    go_meet
                    case rel => exact ⟨{ T with safe := T.b.length, steps := T.steps + 1 }, vt, 0, 0, T.steps, rfl, rfl, rfl, rfl, TP.out.2, rfl, rfl, by simp, SI.out, ⟨TP.out.1, OA.out.1, OA.out.2.1, TB, Nat.le_refl _, OA.out.2.2⟩, VV2.out, B3.out⟩
              ·
                as_aux_lemma =>
                  cases hf : T.fails
                  case true =>
                    have e07 : e0 = 7 := by rw [← E0.out, hf]; rfl
                    have F : Hid (T.cutF B' = 7 ∧ T.cut B' = T) := by
                      have e : T.cutF B' = 7 := by unfold TpV.cutF; rw [hf]; rfl
                      unfold Hid TpV.cut; rw [e]; exact ⟨rfl, rfl⟩
                    subst e07
                    clear hf
                    go_wp2_with fail
                    refine (tcut_any w.heap.size z vt T B' wc TS2.out.t ST.out).mono ?_
                    rintro e w2 ⟨r, vt2, rfl, er, tp, ts⟩
                    rw [F.out.1] at er
                    rw [F.out.2] at tp
                    have TP : Hid (Tp w2 w.heap.size z vt2 T ∧ Er r 7) := ⟨tp, er⟩
                    clear tp er
                    obtain ⟨oa, da, ba⟩ := TS2.out.call ts
                    have VV2 : Hid (Bv w2 bv 3 B') := TS2.out.bv ts VV.out
                    have OA : Hid (Ob w2 w.heap.size (.slice pa T.b.length ca) T.b ∧ (∀ b, (Value.slice pa T.b.length ca).ownBlock = some b → ¬ vt2.ownBlock = some b) ∧ w.heap.size ≤ w2.heap.size) := ⟨oa, da, ba⟩
                    have B3 : Hid (Below w.heap.size w w2) := B2.out.trans (ts.low TS2.out.t.o B2.out.size TS2.out.t.z (Nat.le_refl _))
                    clear oa da ba ts
                    go_wp2_with fail
                    go_meet
                    case rel => exact ⟨T, vt2, 7, 0, T.steps, rfl, rfl, rfl, rfl, TP.out.2, rfl, rfl, by simp, SI.out, ⟨TP.out.1, OA.out.1, OA.out.2.1, TB, TSS, OA.out.2.2⟩, VV2.out, B3.out⟩
                  case false =>
                    have e00 : e0 = 0 := by rw [← E0.out, hf]; rfl
                    subst e00
                    by_cases hg : B' < 0 ∨ (T.b.length : Int) < B'
                    case pos =>
                      have F : Hid (T.cutF B' = 1 ∧ T.cut B' = T) := by
                        have e : T.cutF B' = 1 := by unfold TpV.cutF; rw [hf, if_neg (by decide), if_pos hg]
                        unfold Hid TpV.cut; rw [e]; exact ⟨rfl, rfl⟩
                      have HG : B' < 0 ∨ (¬ B' < 0 ∧ (T.b.length : Int) < B') := by omega
                      clear hf hg
                      rcases HG with hg | ⟨hg1, hg⟩
                      all_goals
                        go_wp2_with fail
                        refine (tcut_any w.heap.size z vt T B' wc TS2.out.t ST.out).mono ?_
                        rintro e w2 ⟨r, vt2, rfl, er, tp, ts⟩
                        rw [F.out.1] at er
                        rw [F.out.2] at tp
                        have TP : Hid (Tp w2 w.heap.size z vt2 T ∧ Er r 1) := ⟨tp, er⟩
                        clear tp er
                        obtain ⟨oa, da, ba⟩ := TS2.out.call ts
                        have VV2 : Hid (Bv w2 bv 3 B') := TS2.out.bv ts VV.out
                        have OA : Hid (Ob w2 w.heap.size (.slice pa T.b.length ca) T.b ∧ (∀ b, (Value.slice pa T.b.length ca).ownBlock = some b → ¬ vt2.ownBlock = some b) ∧ w.heap.size ≤ w2.heap.size) := ⟨oa, da, ba⟩
                        have B3 : Hid (Below w.heap.size w w2) := B2.out.trans (ts.low TS2.out.t.o B2.out.size TS2.out.t.z (Nat.le_refl _))
                        clear oa da ba ts
                        go_wp2_with fail
                        go_meet
                        case rel => exact ⟨T, vt2, 1, 0, T.steps, rfl, rfl, rfl, rfl, TP.out.2, rfl, rfl, by simp, SI.out, ⟨TP.out.1, OA.out.1, OA.out.2.1, TB, TSS, OA.out.2.2⟩, VV2.out, B3.out⟩
                    case neg =>
                      obtain ⟨m, rfl⟩ : ∃ m : Nat, B' = (m : Nat) := ⟨B'.toNat, by omega⟩
                      have F : Hid (T.cutF (m : Nat) = 0 ∧ T.cut (m : Nat) = { T with b := T.b.take m, safe := min T.safe m, steps := T.steps + 1 }) := by
                        have e : T.cutF (m : Nat) = 0 := by unfold TpV.cutF; rw [hf, if_neg (by decide), if_neg hg]
                        unfold Hid TpV.cut; rw [e]; exact ⟨rfl, rfl⟩
                      have hm : m ≤ T.b.length := by omega
                      have g1 : ¬ ((m : Int) < 0) := by omega
                      have g2 : ¬ ((T.b.length : Int) < (m : Nat)) := by omega
                      have g3 : (m : Int) ≤ (ca : Nat) := by omega
                      clear hf hg
                      go_wp2_with fail
                      refine (tcut_any w.heap.size z vt T (m : Nat) wc TS2.out.t ST.out).mono ?_
                      rintro e w2 ⟨r, vt2, rfl, er, tp, ts⟩
                      rw [F.out.1] at er
                      rw [F.out.2] at tp
                      have TP : Hid (Tp w2 w.heap.size z vt2 { T with b := T.b.take m, safe := min T.safe m, steps := T.steps + 1 } ∧ Er r 0) := ⟨tp, er⟩
                      clear tp er
                      obtain ⟨oa, da, ba⟩ := TS2.out.call ts
                      have VV2 : Hid (Bv w2 bv 3 (m : Nat)) := TS2.out.bv ts VV.out
                      have OA : Hid (Ob w2 w.heap.size (.slice pa T.b.length ca) T.b ∧ (∀ b, (Value.slice pa T.b.length ca).ownBlock = some b → ¬ vt2.ownBlock = some b) ∧ w.heap.size ≤ w2.heap.size) := ⟨oa, da, ba⟩
                      have B3 : Hid (Below w.heap.size w w2) := B2.out.trans (ts.low TS2.out.t.o B2.out.size TS2.out.t.z (Nat.le_refl _))
                      clear oa da ba ts
                      have OT : Hid (Ob w2 w.heap.size (.slice pa m ca) (T.b.take m) ∧ (∀ b, (Value.slice pa m ca).ownBlock = some b → ¬ vt2.ownBlock = some b)) := ⟨OA.out.1.take hm, fun b hb => OA.out.2.1 b (by cases pa <;> exact hb)⟩
                      obtain ⟨w20, w21⟩ := VV2.out.cells
                      have lt : Hid ((T.b.take m).length ≤ 6000 ∧ min T.safe m ≤ (T.b.take m).length) := by unfold Hid; rw [List.length_take]; omega
                      clear v0 v1
                      by_cases hs : m < T.safe
                      case pos =>
                        have hsi : (m : Int) < (T.safe : Nat) := by omega
                        have hmin : Hid (min T.safe m = m) := by unfold Hid; omega
                        rcases PA with rfl | ⟨ga, rfl⟩
                        all_goals
                          go_wp2_with fail
                          go_meet
                          case rel => exact ⟨{ T with b := T.b.take m, safe := min T.safe m, steps := T.steps + 1 }, vt2, 0, 0, T.steps, by rw [hmin.out], rfl, rfl, rfl, TP.out.2, rfl, rfl, by simp, SI.out, ⟨TP.out.1, OT.out.1, OT.out.2, lt.out.1, lt.out.2, OA.out.2.2⟩, VV2.out, B3.out⟩
                      case neg =>
                        have hsi : ¬ (m : Int) < (T.safe : Nat) := by omega
                        have hmin : Hid (min T.safe m = T.safe) := by unfold Hid; omega
                        rcases PA with rfl | ⟨ga, rfl⟩
                        all_goals
                          go_wp2_with fail
                          go_meet
                          case rel => exact ⟨{ T with b := T.b.take m, safe := min T.safe m, steps := T.steps + 1 }, vt2, 0, 0, T.steps, by rw [hmin.out], rfl, rfl, rfl, TP.out.2, rfl, rfl, by simp, SI.out, ⟨TP.out.1, OT.out.1, OT.out.2, lt.out.1, lt.out.2, OA.out.2.2⟩, VV2.out, B3.out⟩
              ·
                as_aux_lemma =>
                  go_wp2_with fail
                  refine (tcrash_any w.heap.size z vt T B' wc TS2.out.t TB TSS WB.out).mono ?_
                  rintro e w2 ⟨r, vt2, rfl, tp, ts⟩
                  obtain ⟨m, hm⟩ : ∃ m, T.kept B' = m := ⟨_, rfl⟩
                  unfold TpV.crash at tp
                  rw [hm] at tp
                  have TP : Hid (Tp w2 w.heap.size z vt2 ⟨T.b.take m, m, 0, -1⟩) := tp
                  have hml : m ≤ T.b.length := by rw [← hm]; unfold TpV.kept; omega
                  unfold TpV.kept at hm
                  clear tp
                  obtain ⟨oa, da, ba⟩ := TS2.out.call ts
                  have VV2 : Hid (Bv w2 bv 4 B') := TS2.out.bv ts VV.out
                  have OA : Hid (Ob w2 w.heap.size (.slice pa T.b.length ca) T.b ∧ (∀ b, (Value.slice pa T.b.length ca).ownBlock = some b → ¬ vt2.ownBlock = some b) ∧ w.heap.size ≤ w2.heap.size) := ⟨oa, da, ba⟩
                  have B3 : Hid (Below w.heap.size w w2) := B2.out.trans (ts.low TS2.out.t.o B2.out.size TS2.out.t.z (Nat.le_refl _))
                  clear oa da ba ts
                  have OT : Hid (Ob w2 w.heap.size (.slice pa m ca) (T.b.take m) ∧ (∀ b, (Value.slice pa m ca).ownBlock = some b → ¬ vt2.ownBlock = some b)) := ⟨OA.out.1.take hml, fun b hb => OA.out.2.1 b (by cases pa <;> exact hb)⟩
                  obtain ⟨w20, w21⟩ := VV2.out.cells
                  have lt : Hid ((T.b.take m).length ≤ 6000 ∧ m ≤ (T.b.take m).length) := by unfold Hid; rw [List.length_take]; omega
                  have mc : (m : Int) ≤ (ca : Nat) := by omega
                  have wd : IntKind.i64.wrap ((T.b.length : Int) - (T.safe : Int)) = (T.b.length : Int) - (T.safe : Int) := by rw [IntKind.wrap_i64]; omega
                  clear v0 v1
                  have D : (B' < 0 ∧ m = T.safe) ∨ (¬ B' < 0 ∧ (T.b.length : Int) - (T.safe : Nat) < B' ∧ m = T.b.length) ∨ (¬ B' < 0 ∧ ¬ (T.b.length : Int) - (T.safe : Nat) < B' ∧ (m : Int) = (T.safe : Nat) + B') := by omega
                  rcases D with ⟨d1, d2⟩ | ⟨d1, d2, d3⟩ | ⟨d1, d2, d3⟩
                  · have d4 : ¬ ((T.b.length : Int) - (T.safe : Nat) < 0) := by omega
                    have d5 : Hid (m = T.safe) := d2
                    subst d2
                    clear hm
                    rcases PA with rfl | ⟨ga, rfl⟩
                    all_goals
                      go_wp2_with fail
                      go_meet
                      case rel => exact ⟨(⟨T.b.take T.safe, T.safe, 0, -1⟩ : TpV), vt2, 0, 0, 0, rfl, rfl, rfl, rfl, Er.nil, rfl, rfl, by simp, Nat.zero_le _, ⟨TP.out, OT.out.1, OT.out.2, lt.out.1, lt.out.2, OA.out.2.2⟩, VV2.out, B3.out⟩
                  · have e1 : (T.safe : Int) + ((T.b.length : Int) - (T.safe : Int)) = (m : Nat) := by omega
                    clear hm d3
                    rcases PA with rfl | ⟨ga, rfl⟩
                    all_goals
                      go_wp2_with fail
                      go_meet
                      case rel => exact ⟨(⟨T.b.take m, m, 0, -1⟩ : TpV), vt2, 0, 0, 0, rfl, rfl, rfl, rfl, Er.nil, rfl, rfl, by simp, Nat.zero_le _, ⟨TP.out, OT.out.1, OT.out.2, lt.out.1, lt.out.2, OA.out.2.2⟩, VV2.out, B3.out⟩
                  · have e1 : (T.safe : Int) + B' = (m : Nat) := by omega
                    have wm : (m : Int) ≤ 6000 := by omega
                    clear hm d3
                    rcases PA with rfl | ⟨ga, rfl⟩
                    all_goals
                      go_wp2_with fail
                      go_meet
                      case rel => exact ⟨(⟨T.b.take m, m, 0, -1⟩ : TpV), vt2, 0, 0, 0, rfl, rfl, rfl, rfl, Er.nil, rfl, rfl, by simp, Nat.zero_le _, ⟨TP.out, OT.out.1, OT.out.2, lt.out.1, lt.out.2, OA.out.2.2⟩, VV2.out, B3.out⟩
              ·
                as_aux_lemma =>
                  go_wp2_with fail
                  refine (tfail_any w.heap.size z vt T B' wc TS2.out.t).mono ?_
                  rintro e w2 ⟨r, rfl, tp, ts⟩
                  have TP : Hid (Tp w2 w.heap.size z vt { T with fail := B' }) := tp
                  clear tp
                  obtain ⟨oa, da, ba⟩ := TS2.out.call ts
                  have VV2 : Hid (Bv w2 bv 5 B') := TS2.out.bv ts VV.out
                  have OA : Hid (Ob w2 w.heap.size (.slice pa T.b.length ca) T.b ∧ (∀ b, (Value.slice pa T.b.length ca).ownBlock = some b → ¬ vt.ownBlock = some b) ∧ w.heap.size ≤ w2.heap.size) := ⟨oa, da, ba⟩
                  have B3 : Hid (Below w.heap.size w w2) := B2.out.trans (ts.low TS2.out.t.o B2.out.size TS2.out.t.z (Nat.le_refl _))
                  clear oa da ba ts
                  obtain ⟨w20, w21⟩ := VV2.out.cells
                  clear v0 v1
                  by_cases hg : B' < 0
                  case pos =>
                    have se : Hid (stop { T with fail := B' } = -1) := by unfold Hid stop; exact if_pos hg
                    go_wp2_with fail
                    go_meet
                    case rel => exact ⟨{ T with fail := B' }, vt, 0, 0, T.steps, rfl, rfl, by rw [se.out], rfl, Er.nil, rfl, rfl, by simp, SI.out, ⟨TP.out, OA.out.1, OA.out.2.1, TB, TSS, OA.out.2.2⟩, VV2.out, B3.out⟩
                  case neg =>
                    have se : Hid (stop { T with fail := B' } = B') := by unfold Hid stop; exact if_neg hg
                    go_wp2_with fail
                    go_meet
                    case rel => exact ⟨{ T with fail := B' }, vt, 0, 0, T.steps, rfl, rfl, by rw [se.out], rfl, Er.nil, rfl, rfl, by simp, SI.out, ⟨TP.out, OA.out.1, OA.out.2.1, TB, TSS, OA.out.2.2⟩, VV2.out, B3.out⟩
            case rest =>
            as_aux_lemma =>
              obtain ⟨T2, vt2, e, n, d, rfl, rfl, rfl, rfl, er, rfl, rfl, hd, hdi, hts, hvv, hbw⟩ := hcut
              have ER : Hid (Er u14 e) := er
              have HD : Hid ((if e = 0 ∧ A < 4 then d + 1 else d) = T2.steps ∧ d ≤ i) := ⟨hd, hdi⟩
              have TS3 : Hid (TpS w.heap.size z u6 vt2 T2 wc) := hts
              have VV3 : Hid (Bv wc bv A B') := hvv
              have B4 : Hid (Below w.heap.size w wc) := hbw
              obtain ⟨v0, v1⟩ := VV3.out.cells
              clear er hd hdi hts hvv hbw v1 TS2 VV B2 E0 hA
              obtain ⟨bd, hbd⟩ : ∃ bd : Bool, decide (e = 0 ∧ A < 4) = bd := ⟨_, rfl⟩
              have BD : Hid (decide (e = 0 ∧ A < 4) = bd) := hbd
              clear hbd
              go_upto_region 59 with fail
              go_cut [178] from 28 to 211 (fun v178 V => v178 = .bool bd ∧ V = wc)
              case first =>
                by_cases h0 : e = 0
                · subst h0
                  by_cases h1 : A < 4
                  · have q : Hid (bd = true) := by unfold Hid; rw [← BD.out]; exact decide_eq_true ⟨rfl, h1⟩
                    go_wp2_with fail
                    go_meet
                    case rel => exact ⟨by rw [q.out], rfl⟩
                  · have q : Hid (bd = false) := by unfold Hid; rw [← BD.out]; exact decide_eq_false (fun h => h1 h.2)
                    go_wp2_with fail
                    go_meet
                    case rel => exact ⟨by rw [q.out], rfl⟩
                · have h0b : (e == 0) = false := beq_eq_false_iff_ne.2 h0
                  have q : Hid (bd = false) := by unfold Hid; rw [← BD.out]; exact decide_eq_false (fun h => h0 h.1)
                  go_wp2_with fail
                  go_meet
                  case rel => exact ⟨by rw [q.out], rfl⟩
              case rest =>
              obtain ⟨rfl, hV⟩ := hcut
              obtain rfl := hV.symm
              have d60 : (d : Int) ≤ 60 := by have := HD.out.2; omega
              go_upto_if 178 with fail
              go_cut [8] from 28 to 211 (fun v8 V => v8 = .int .i64 (T2.steps : Nat) ∧ V = wc)
              case first =>
                cases bd
                case true =>
                  have q : Hid (T2.steps = d + 1) := by unfold Hid; rw [← HD.out.1, if_pos (of_decide_eq_true BD.out)]
                  go_wp2_with fail
                  go_meet
                  case rel => exact ⟨by rw [q.out]; rfl, rfl⟩
                case false =>
                  have q : Hid (T2.steps = d) := by unfold Hid; rw [← HD.out.1, if_neg (of_decide_eq_false BD.out)]
                  go_wp2_with fail
                  go_meet
                  case rel => exact ⟨by rw [q.out], rfl⟩
              case rest =>
              obtain ⟨rfl, hV⟩ := hcut
              obtain rfl := hV.symm
              have SI2 : Hid (T2.steps ≤ i + 1) := by have := HD.out; unfold Hid; rw [← this.1]; split <;> omega
              clear v0 BD
              go_wp2_with fail
              refine (er_same _ e wc ER.out (ET.out.below B4.out)).mono ?_
              rintro e' w4 ⟨rfl, b4⟩
              have B5 : Hid (Below w.heap.size w w4) := B4.out.trans (b4.mono B4.out.size)
              have TS4 : Hid (TpS w.heap.size z u6 vt2 T2 w4) := TS3.out.below b4
              clear b4 TS3 VV3
              go_wp2_with fail
              refine (tbytes_any w.heap.size z vt2 T2 w4 TS4.out.t TS4.out.l).mono ?_
              rintro e' w5 ⟨u, rfl, hu, b5⟩
              have B6 : Hid (Below w.heap.size w w5) := B5.out.trans (b5.mono B5.out.size)
              have TS5 : Hid (TpS w.heap.size z u6 vt2 T2 w5) := TS4.out.below b5
              have hu' := hu.by_
              obtain ⟨pu, cu, rfl, -⟩ := hu.by_
              obtain ⟨pa, ca, rfl⟩ := TS5.out.a.len
              obtain ⟨sx, hsx⟩ : ∃ s, (⟨T2.b.toArray⟩ : ByteArray) = s := ⟨_, rfl⟩
              have k1 : (convert 23 9 (.slice pu T2.b.length cu)).run Tryd.prog w5 = .ok (.string sx) w5 := by rw [← hsx]; exact hu'.conv
              have k2 : (convert 23 9 (.slice pa T2.b.length ca)).run Tryd.prog w5 = .ok (.string sx) w5 := by rw [← hsx]; exact TS5.out.a.by_.conv
              clear hu hu' b5 TS4 hsx
              go_wp2_with fail
              refine (tsafe_any w.heap.size z vt2 T2 w5 TS5.out.t).mono ?_
              rintro e' w6 ⟨rfl, hw6⟩
              obtain rfl := hw6.symm
              go_wp2_with fail
              refine (tsteps_any w.heap.size z vt2 T2 w5 TS5.out.t).mono ?_
              rintro e' w6 ⟨rfl, hw6⟩
              obtain rfl := hw6.symm
              clear k1 k2
              go_wp2
              go_round
              case rel => exact ⟨i + 1, T2, vt2, by omega, by omega, by go_num, rfl, rfl, rfl, SI2.out, TS5.out, B6.out⟩
              case measure => simp [intOf]; omega
  case rest =>
  as_aux_lemma =>
    obtain ⟨wl, hwl⟩ : ∃ wl, wl = wc := ⟨_, rfl⟩
    subst hwl
    have BW : Hid (Below w.heap.size w wl) := hcut
    clear hcut
    go_upto_block 5 with fail
    go_cut [20, 21] from 28 (fun v20 v21 V => ∃ k n xs, v21 = .int .i64 (n : Nat) ∧ Te.st b k = (n, xs) ∧ Te.fsz (b.drop n) = 0 ∧ Bla w V wl.heap.size v20 xs ∧ Below wl.heap.size wl V)
    case first =>
      go_wp2_with fail
      go_loopw [20, 21] (fun v20 v21 W => ∃ k n xs, v21 = .int .i64 (n : Nat) ∧ Te.st b k = (n, xs) ∧ Bla w W wl.heap.size v20 xs ∧ Below wl.heap.size wl W) (fun _ v21 _ => b.length - (intOf v21).toNat)
      case atStart => exact ⟨0, 0, [], rfl, rfl, ⟨[], Lb.nil _ _, rfl, fun i l h => by simp at h⟩, Below.refl _ _⟩
      case round =>
      obtain ⟨k, n, xs, rfl, hst, hg, hbw⟩ := hrel
      have ST : Hid (Te.st b k = (n, xs)) := hst
      have SL := Te.st_le b k
      rw [hst] at SL
      simp only at SL
      obtain ⟨hn, hx2⟩ := SL
      have G : Hid (Bla w wr wl.heap.size u20 xs) := hg
      have BC : Hid (Below wl.heap.size wl wr) := hbw
      have BR : Hid (Below w.heap.size w wr) := BW.out.trans (hbw.mono BW.out.size)
      have XL : Hid (xs.length ≤ 1000000) := by unfold Hid; omega
      clear hst hg hbw hx2
      by_cases h2 : n + 2 ≤ b.length
      case neg =>
        have h2i : ¬ (n : Int) + 2 ≤ (b.length : Nat) := by omega
        have F0 : Hid (Te.fsz (b.drop n) = 0) := Te.fsz_short _ (by rw [List.length_drop]; omega)
        go_wp2_with fail
        go_meet
        case rel => exact ⟨k, n, xs, rfl, ST.out, F0.out, G.out, BC.out⟩
      case pos =>
      have h2i : (n : Int) + 2 ≤ (b.length : Nat) := by omega
      obtain ⟨p, hp⟩ : ∃ p, b[n]? = some p := ⟨_, List.getElem?_eq_getElem (by omega)⟩
      obtain ⟨q, hq⟩ : ∃ q, b[n + 1]? = some q := ⟨_, List.getElem?_eq_getElem (by omega)⟩
      have F : Hid (Te.fsz (b.drop n) = if p.toNat * 256 + q.toNat + 2 ≤ (b.drop n).length then 2 + (p.toNat * 256 + q.toNat) else 0) := Te.fsz_is (b.drop n) p q (by rw [List.getElem?_drop]; exact hp) (by rw [List.getElem?_drop]; exact hq)
      have BY := B.out
      obtain ⟨ab, cb', e, -, -, hc⟩ := B.out.below BR.out
      injection e with e1 e2 e3
      subst e1 e3
      obtain ⟨x, rfl, hx, hc⟩ := hc (by rintro rfl; simp at h2)
      have c0 := hc n p hp
      have c1 : wr.cell? ⟨x.block, x.off + (n + 1), none⟩ = some (.int .u8 (q.toNat : Int)) := hc (n + 1) q hq
      have n1i : (n : Int) + 1 < (b.length : Nat) := by omega
      have n0i : (n : Int) < (b.length : Nat) := by omega
      have p0 := byteOf p
      have q0 := byteOf q
      obtain ⟨pn, hpn⟩ : ∃ n : Nat, p.toNat = n := ⟨_, rfl⟩
      obtain ⟨qn, hqn⟩ : ∃ n : Nat, q.toNat = n := ⟨_, rfl⟩
      rw [hpn] at c0 p0 F
      rw [hqn] at c1 q0 F
      clear hc hp hq hpn hqn e2 BY
      go_upto_region 68 with fail
      go_region
      have BR2 : Hid (Below w.heap.size w wr.drew ∧ Below wl.heap.size wl wr.drew) := ⟨BR.out.drew, BC.out.drew⟩
      have G2 : Hid (Bla w wr.drew wl.heap.size u20 xs) := G.out
      clear c0 c1 BR BC G
      generalize wr.drew = w2 at *
      obtain ⟨s, hs⟩ : ∃ s, pn * 256 + qn = s := ⟨_, rfl⟩
      have es : (pn : Int) * 256 + (qn : Nat) = (s : Nat) := by omega
      have s6 : s ≤ 65535 := by omega
      rw [hs] at F
      (try rw [es])
      clear hs
      by_cases h3 : n + 2 + s ≤ b.length
      case neg =>
        have F0 : Hid (Te.fsz (b.drop n) = 0) := by unfold Hid; rw [F.out, if_neg (by rw [List.length_drop]; omega)]
        have h3i : (b.length : Int) - (n : Nat) - 2 < (s : Nat) := by omega
        go_wp2_with fail
        go_meet
        case rel => exact ⟨k, n, xs, rfl, ST.out, F0.out, G2.out, BR2.out.2⟩
      case pos =>
      have h3i : ¬ (b.length : Int) - (n : Nat) - 2 < (s : Nat) := by omega
      have FS : Te.fsz (b.drop n) = s + 2 := by rw [F.out, if_pos (by rw [List.length_drop]; omega)]; omega
      have NX : Hid (Te.st b (k + 1) = (n + (s + 2), xs ++ [(b.drop (n + 2)).take s])) := by
        unfold Hid
        rw [Te.st_go ST.out (by rw [FS]; omega), FS]
        rfl
      have HP : Hid (By w (sliced (some x) (n + 2) (n + (s + 2)) cb 1) ((b.drop (n + 2)).take s)) := by
        have h := B.out.part (n := n + 2) (m := n + (s + 2)) (by omega) (by omega)
        rw [show n + (s + 2) - (n + 2) = s by omega] at h
        exact h
      obtain ⟨y, hy⟩ : ∃ y, (b.drop (n + 2)).take s = y := ⟨_, rfl⟩
      have YL : Hid (y.length = s) := by unfold Hid; rw [← hy, List.length_take, List.length_drop]; omega
      obtain ⟨n2, hn2⟩ : ∃ n2, n + 2 = n2 := ⟨_, rfl⟩
      obtain ⟨m, hm⟩ : ∃ m, n + (s + 2) = m := ⟨_, rfl⟩
      have NM : Hid (n < m ∧ m ≤ b.length) := ⟨by omega, by omega⟩
      rw [hy, hn2, hm] at HP
      rw [hy, hm] at NX
      have e2 : (n : Int) + 2 = (n2 : Nat) := by omega
      have em : (n2 : Int) + (s : Nat) = (m : Nat) := by omega
      have l2 : (n2 : Int) ≤ (m : Nat) := by omega
      have lm : (m : Int) ≤ (cb : Nat) := by omega
      have wm : (m : Int) ≤ 1048576 := by omega
      have ms : Hid (m - n2 = s) := by unfold Hid; omega
      clear FS F hy hn2 hm h3 n1i n0i h2i h2 hn
      by_cases hc2 : cb = n2
      case pos =>
        have HV : Hid (By w (.slice (some x) (m - n2) 0) y) := by have h := HP.out; subst hc2; unfold Hid; simpa [sliced] using h
        subst hc2
        obtain ⟨vs, q1, q2, q3⟩ := G2.out
        have B3 : Hid (Below wl.heap.size wl (w2.alloc (.cells #[.slice (some x) (m - cb) 0] 23))) := BR2.out.2.alloc BR2.out.2.size _
        have RC : Hid ((w2.alloc (.cells #[.slice (some x) (m - cb) 0] 23)).cell? ⟨w2.heap.size, 0, none⟩ = some (.slice (some x) (m - cb) 0)) := by unfold Hid; simp
        have Q1 : Hid (Lb (w2.alloc (.cells #[.slice (some x) (m - cb) 0] 23)) wl.heap.size u20 vs) := q1.alloc _
        have Q2 : Hid (vs.length = xs.length) := q2
        have Q3 : Hid (∀ (i : Nat) l, xs[i]? = some l → ∃ x, vs[i]? = some x ∧ By w x l) := q3
        clear q1 q2 q3
        go_wp2_with (at_builtin; refine app_lb _ rfl _ _ rfl wl.heap.size _ vs rfl Q1.out ⟨w2.heap.size, 0, none⟩ (some x) (m - cb) 0 rfl RC.out (by have := XL.out; rw [Q2.out]; omega) B3.out.size ?_)
        intro g cap w4 o4 g4 a4 l4
        have B4 : Hid (Below wl.heap.size wl w4) := B3.out.grown g4 B3.out.size (fun k hk => (Q1.out.block k hk).1)
        have G4 : Hid (Bla w w4 wl.heap.size (.slice (some ⟨g, 0, none⟩) (vs.length + 1) cap) (xs ++ [y])) := Bla.snoc (W := w2) Q2.out Q3.out HV.out o4
        clear o4 g4 a4 l4
        go_wp2
        go_round
        case rel => exact ⟨k + 1, m, _, by first | rfl | go_num, NX.out, G4.out, B4.out⟩
        case measure => have := NM.out; simp [intOf]; omega
      case neg =>
        have HV : Hid (By w (.slice (some (x.add n2)) (m - n2) (cb - n2)) y) := by have h := HP.out; unfold Hid; simpa [sliced, hc2] using h
        obtain ⟨vs, q1, q2, q3⟩ := G2.out
        have B3 : Hid (Below wl.heap.size wl (w2.alloc (.cells #[.slice (some (x.add n2)) (m - n2) (cb - n2)] 23))) := BR2.out.2.alloc BR2.out.2.size _
        have RC : Hid ((w2.alloc (.cells #[.slice (some (x.add n2)) (m - n2) (cb - n2)] 23)).cell? ⟨w2.heap.size, 0, none⟩ = some (.slice (some (x.add n2)) (m - n2) (cb - n2))) := by unfold Hid; simp
        have Q1 : Hid (Lb (w2.alloc (.cells #[.slice (some (x.add n2)) (m - n2) (cb - n2)] 23)) wl.heap.size u20 vs) := q1.alloc _
        have Q2 : Hid (vs.length = xs.length) := q2
        have Q3 : Hid (∀ (i : Nat) l, xs[i]? = some l → ∃ x, vs[i]? = some x ∧ By w x l) := q3
        clear q1 q2 q3
        go_wp2_with (at_builtin; refine app_lb _ rfl _ _ rfl wl.heap.size _ vs rfl Q1.out ⟨w2.heap.size, 0, none⟩ (some (x.add n2)) (m - n2) (cb - n2) rfl RC.out (by have := XL.out; rw [Q2.out]; omega) B3.out.size ?_)
        intro g cap w4 o4 g4 a4 l4
        have B4 : Hid (Below wl.heap.size wl w4) := B3.out.grown g4 B3.out.size (fun k hk => (Q1.out.block k hk).1)
        have G4 : Hid (Bla w w4 wl.heap.size (.slice (some ⟨g, 0, none⟩) (vs.length + 1) cap) (xs ++ [y])) := Bla.snoc (W := w2) Q2.out Q3.out HV.out o4
        clear o4 g4 a4 l4
        go_wp2
        go_round
        case rel => exact ⟨k + 1, m, _, by first | rfl | go_num, NX.out, G4.out, B4.out⟩
        case measure => have := NM.out; simp [intOf]; omega
    case rest =>
    as_aux_lemma =>
      obtain ⟨k, n, xs, rfl, hst, hen, hg, hbw⟩ := hcut
      have ST : Hid (Te.st b k = (n, xs) ∧ Te.fsz (b.drop n) = 0) := ⟨hst, hen⟩
      have B2 : Hid (Below w.heap.size w wc) := BW.out.trans (hbw.mono BW.out.size)
      have L2 : Hid (Bll wc u20 xs) := hg.bll B2.out
      obtain ⟨p20, q20, rfl, -, -, -⟩ := hg.bll B2.out
      clear hst hen hg hbw
      go_wp2_with fail
      refine (tframes_any _ b wc (B.out.below B2.out) (by have := BL.out; omega)).mono ?_
      rintro e w5 ⟨u5, k', n', xs', rfl, st5, en5, ls5, b5⟩
      have EQ := Te.st_uniq (b := b) (k := k) (m := k') (by rw [ST.out.1]; exact ST.out.2) (by rw [st5]; exact en5)
      rw [ST.out.1, st5] at EQ
      injection EQ with eq1 eq2
      subst eq1 eq2
      have B5 : Hid (Below w.heap.size w w5) := B2.out.trans (b5.mono B2.out.size)
      have L5 : Hid (Bll w5 (.slice p20 xs.length q20) xs) := L2.out.below b5
      have X5 : Hid (Bll w5 u5 xs) := ls5.bll
      obtain ⟨p5, q5, rfl, x51, x52, -⟩ := ls5.bll
      clear st5 en5 ls5 b5 L2
      obtain ⟨xl, hxl⟩ : ∃ xl, xs.length = xl := ⟨_, rfl⟩
      have XL : Hid (xs.length = xl) := hxl
      rw [hxl] at x51 L5 X5 ⊢
      clear hxl
      go_wp2_with fail
      go_loopw [25] (fun v25 W => ∃ j : Nat, j ≤ xl ∧ v25 = .int .i64 (j : Nat) ∧ ∃ q, W = w5.drewN q) (fun v25 _ => xl - (intOf v25).toNat)
      case atStart => exact ⟨0, Nat.zero_le _, rfl, 0, rfl⟩
      case round =>
      obtain ⟨j, hj, rfl, q, rfl⟩ := hrel
      by_cases hjx : j < xl
      case pos =>
        have hjxi : (j : Int) < (xl : Nat) := by omega
        obtain ⟨x, hx⟩ : ∃ x, xs[j]? = some x := ⟨_, List.getElem?_eq_getElem (by rw [XL.out]; exact hjx)⟩
        obtain ⟨pX, cX, e, -, -, hcX⟩ := X5.out
        injection e with e1 e2 e3
        subst e1 e3
        obtain ⟨yx, rfl, yxb, hyx⟩ := hcX (by intro h; rw [h] at hx; simp at hx)
        obtain ⟨vx, yx0, yX⟩ := hyx j x hx
        obtain ⟨pL, cL, e, -, -, hcL⟩ := L5.out
        injection e with e1' e2' e3'
        subst e1' e3'
        obtain ⟨yl, rfl, ylb, hyl⟩ := hcL (by intro h; rw [h] at hx; simp at hx)
        obtain ⟨vl, yl0, yL⟩ := hyl j x hx
        have YX : Hid (∀ n, By (w5.drewN n) vx x) := fun n => yX.below (_root_.Go.below_drewN (Below.refl _ _) n)
        have YL : Hid (∀ n, By (w5.drewN n) vl x) := fun n => yL.below (_root_.Go.below_drewN (Below.refl _ _) n)
        obtain ⟨px, cx, rfl, -⟩ := yX
        obtain ⟨pz, cz, rfl, -⟩ := yL
        obtain ⟨sx, hsx⟩ : ∃ s, (⟨x.toArray⟩ : ByteArray) = s := ⟨_, rfl⟩
        have kx : ∀ n, (convert 23 9 (.slice px x.length cx)).run Tryd.prog (w5.drewN n) = .ok (.string sx) (w5.drewN n) := fun n => by rw [← hsx]; exact (YX.out n).conv
        have kl : ∀ n, (convert 23 9 (.slice pz x.length cz)).run Tryd.prog (w5.drewN n) = .ok (.string sx) (w5.drewN n) := fun n => by rw [← hsx]; exact (YL.out n).conv
        clear hcX hcL hyx hyl hx hsx e2 e2'
        go_upto_region 78 with fail
        go_quiet (fail)
        rw [show (w5.drewN q).drewN nq = w5.drewN (q + nq) from World.drewN_drewN _ _ _]
        clear kx kl yx0 yl0
        go_wp2
        go_round
        case rel => exact ⟨j + 1, by omega, by go_num, q + nq, rfl⟩
        case measure => simp [intOf]; omega
      case neg =>
      as_aux_lemma =>
        have hjj : j = xl := by omega
        subst hjj
        have hjj2 : ¬ (j : Int) < (j : Nat) := by omega
        have BQ : Hid (Below w.heap.size w (w5.drewN q)) := _root_.Go.below_drewN B5.out _
        clear hj hjx
        generalize w5.drewN q = w6 at *
        go_wp2_with fail
        refine (tframe_any _ b w6 (B.out.below BQ.out) (by have := BL.out; omega)).mono ?_
        rintro e w7 ⟨u7, rfl, o7, b7⟩
        have B7 : Hid (Below w.heap.size w w7) := BQ.out.trans (b7.mono BQ.out.size)
        have hl7 : (Te.ofr b).length = b.length + 2 := Te.ofr_len b
        obtain ⟨g7, c7, hv7, hc7⟩ := o7.text (by rw [hl7]; omega)
        have Y7 : Hid (By w7 u7 (Te.ofr b)) := o7.by_
        subst hv7
        have c70 := hc7 0 (by rw [hl7]; omega)
        have c71 := hc7 1 (by rw [hl7]; omega)
        have e70 : (Te.ofr b)[0] = UInt8.ofNat (b.length / 256) := rfl
        have e71 : (Te.ofr b)[1] = UInt8.ofNat b.length := rfl
        rw [e70, Addr.add_lit, UInt8.toNat_ofNat'] at c70
        rw [e71, Addr.add_lit, UInt8.toNat_ofNat'] at c71
        simp only [Nat.zero_add] at c70 c71
        rw [hl7] at Y7 ⊢
        have cap7 : b.length + 2 ≤ c7 := by
          obtain ⟨a, c, e, h1, -⟩ := Y7.out
          injection e with e1 e2 e3
          rw [hl7] at h1
          omega
        have YB := Y7.out.back (n := 2) (by rw [hl7]; omega)
        rw [show (Te.ofr b).drop 2 = b from rfl] at YB
        obtain ⟨b0, hb0⟩ : ∃ n : Nat, b.length / 256 % 256 = n := ⟨_, rfl⟩
        obtain ⟨b1', hb1⟩ : ∃ n : Nat, b.length % 256 = n := ⟨_, rfl⟩
        have c70' : w7.cell? ⟨g7, 0, none⟩ = some (.int .u8 (b0 : Nat)) := by rw [← hb0]; exact c70
        have c71' : w7.cell? ⟨g7, 1, none⟩ = some (.int .u8 (b1' : Nat)) := by rw [← hb1]; exact c71
        have q0 : (b.length : Int) / 256 % 256 = (b0 : Nat) := by omega
        have q1 : (b.length : Int) % 256 = (b1' : Nat) := by omega
        have r0 : (b0 : Int) < 256 := by omega
        have r1 : (b1' : Int) < 256 := by omega
        have KB : Hid (∀ n, By (w7.drewN n) (.slice pb b.length cb) b) := fun n => (B.out.below B7.out).below (_root_.Go.below_drewN (Below.refl _ _) n)
        have KY : Hid (∀ n, By (w7.drewN n) (sliced (some ⟨g7, 0, none⟩) 2 (b.length + 2) c7 1) b) := fun n => YB.below (_root_.Go.below_drewN (Below.refl _ _) n)
        have bl := BL.out
        obtain ⟨sb, hsb⟩ : ∃ s, (⟨b.toArray⟩ : ByteArray) = s := ⟨_, rfl⟩
        have kb : ∀ n, (convert 23 9 (.slice pb b.length cb)).run Tryd.prog (w7.drewN n) = .ok (.string sb) (w7.drewN n) := fun n => by rw [← hsb]; exact (KB.out n).conv
        have ky : ∀ n, (convert 23 9 (sliced (some ⟨g7, 0, none⟩) 2 (b.length + 2) c7 1)).run Tryd.prog (w7.drewN n) = .ok (.string sb) (w7.drewN n) := fun n => by rw [← hsb]; unfold sliced; exact By.conv (by have := KY.out n; unfold sliced at this; exact this)
        clear c70 c71 YB hc7 o7 b7 hb0 hb1 hsb hl7 e70 e71
        by_cases hc2 : c7 = 2
        case pos =>
          subst hc2
          have hb00 : b.length = 0 := by omega
          rw [show sliced (some ⟨g7, 0, none⟩) 2 (b.length + 2) 2 1 = .slice (some ⟨g7, 0, none⟩) b.length 0 by simp [sliced]] at ky
          have kb2 := kb
          rw [hb00] at ky kb2
          clear hb00
          go_upto_region 81 with fail
          go_quiet (fail)
          go_wp2
          go_ret
          exact ⟨rfl, _root_.Go.below_drewN B7.out _⟩
        case neg =>
          rw [show sliced (some ⟨g7, 0, none⟩) 2 (b.length + 2) c7 1 = .slice (some ⟨g7, 2, none⟩) b.length (c7 - 2) by simp [sliced, hc2, Addr.add]] at ky
          go_upto_region 81 with fail
          go_quiet (fail)
          go_wp2
          go_ret
          exact ⟨rfl, _root_.Go.below_drewN B7.out _⟩
end Go.Proofs.YtgdeonofdgpokaaDoor.tapePlays

