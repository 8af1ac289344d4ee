/- The reference: Last (orders that count). · api.Event: records in memory. · Slices of api.Event that the call itself makes, by append. · What stays where one block turns: events. · A world's value: its five slices; its field. · A region that draws its order, in which calls that change memory stand in one order, and what else there is reads what they leave: it may be walked in an order of one's own. · A region that draws its order: what reads, and calls in one order, first, in an order of one's own; then what turns what was read, each the only one that may come. -/
import Derived.Test.YteieikgkmfglaaaGreatDoorZTurnPlays6
import Derived.Test.YteieikgkmfglaaaGreatDoorZTurnPlays2
import Derived.Laws.Closers25
import Derived.IntWalk
import Derived.BigRegion
import Derived.Deep.DeepCutAuto
import Derived.Test.YteieikgkmfglaaaGreatDoorZTurnPlays1
import Derived.OwnWalk
import Derived.Deep.AppendLies
import Derived.Test.YteieikgkmfglaaaGreatDoorZTurnPlays5
import Derived.StillTail
import Derived.Below
namespace Go.Proofs.YteieikgkmfglaaaGreatDoor
open Go.RowKit Go.Proofs.YteieikgkmfglaaaGreatDoor.So
set_option linter.unusedVariables false

theorem below_dn (w : World) (n : Nat) : Below w.heap.size w (w.drewN n) := ⟨rfl, rfl, rfl, Nat.le_refl _, fun _ _ => rfl⟩
def Rl1 (ks : List OrV) (w : World) (v3 v4 : Value) (W : World) : Prop := ∃ q : Nat, q ≤ ks.length ∧ v4 = .int .i64 (q : Nat) ∧ Oro W w.heap.size v3 (fs (kp ks q)) ∧ Below w.heap.size w W
def Rl2 (ks : List OrV) (o : OrV) (q : Nat) (wo : World) (v5 v6 : Value) (W : World) : Prop := ∃ (b : Bool) (j : Nat), v5 = .bool b ∧ v6 = .int .i64 (j : Nat) ∧ q < j ∧ j ≤ ks.length ∧ (b = true ↔ ∀ (k : Nat) x, q < k → k < j → ks[k]? = some x → ¬ (¬ o.what = 3 ∧ ¬ x.what = 3 ∧ x.player = o.player ∧ x.unit = o.unit)) ∧ ∃ n, W = wo.drewN n
def Rl3 (U : List T) (u3 : Value) (w : World) (v7 v8 : Value) (W : World) : Prop := ∃ (q : Nat) (S : List T), q ≤ U.length ∧ v8 = .int .i64 (q : Nat) ∧ S.Perm (U.take q) ∧ S.Pairwise lt ∧ Oro W w.heap.size v7 (fs S) ∧ Oro W w.heap.size u3 (fs U) ∧ Below w.heap.size w W
def Rl4 (S : List T) (x : T) (wo : World) (v9 : Value) (W : World) : Prop := ∃ (S1 S2 : List T), v9 = .int .i64 (S1.length : Nat) ∧ S1 ++ S2 = S ∧ (∀ y ∈ S2, klt x.1 y.1) ∧ Below wo.heap.size wo W
/-- a part of a list, from its beginning. -/
theorem Orl.front {w : World} {a : Option Addr} {c n L : Nat} {ks : List OrV} (h : Orl w (.slice a L c) ks) (hn : n ≤ ks.length) : Orl w (.slice a n c) (ks.take n) := by
  obtain ⟨a', c', e, h1, h2, h3⟩ := h
  injection e with e1 e2 e3
  subst e1 e3
  refine ⟨a, c, by rw [List.length_take, Nat.min_eq_left hn], by rw [List.length_take]; omega, h2, fun hne => ?_⟩
  obtain ⟨x, hx, hx1, hx2⟩ := h3 (by rintro rfl; simp at hne)
  exact ⟨x, hx, hx1, fun i k hk => hx2 i k (by rw [List.getElem?_take] at hk; split at hk; exact hk; cases hk)⟩
/-- .. and from a place on. -/
theorem or_elem : Tryz.prog.elem 48 = 89 := by
  have hu : Tryz.prog.underlying 48 = some (.slice 89) := Tryz.underlying48
  simp [Program.elem, hu]
theorem Orl.back {w : World} {v : Value} {n : Nat} {ks : List OrV} (h : Orl w v ks) (hn : n ≤ ks.length) : ∃ v', Orl w v' (ks.drop n) ∧ ∀ W, (Instr.slice 48 v (some (.int .i64 (n : Nat))) none none).run Tryz.prog W = .ok v' W := by
  obtain ⟨a, c, rfl, h1, h2, h3⟩ := h
  obtain ⟨i0, hi, hz0, hz1, hz2⟩ := info_parts info_or
  have hu : Tryz.prog.underlying 48 = some (.slice 89) := Tryz.underlying48
  have he := or_elem
  have run : ∀ W, (Instr.slice 48 (.slice a ks.length c) (some (.int .i64 (n : Nat))) none none).run Tryz.prog W = .ok (sliced a n ks.length c 4) W := fun W => by
    refine (run_slice_l (P := Tryz.prog) W 48 a ks.length c (by rw [he]; exact hu) .i64 n (by omega) (by omega)).trans ?_
    rw [he]
    simp [sizeOf, typeInfo, hi, hz1]
  refine ⟨_, ?_, run⟩
  unfold sliced
  refine ⟨_, _, by rw [List.length_drop], by rw [List.length_drop]; omega, by omega, fun hne => ?_⟩
  have hnl : n < ks.length := by
    rcases Nat.lt_or_ge n ks.length with h | h
    · exact h
    · exact absurd (List.drop_eq_nil_of_le h) hne
  obtain ⟨x, rfl, hx1, hx2⟩ := h3 (by rintro rfl; simp at hnl)
  refine ⟨x.add (n * 4), ?_, by rw [add_block]; exact hx1, fun i k hk => ?_⟩
  · simp
    intro hc
    omega
  · rw [List.getElem?_drop] at hk
    have := hx2 (n + i) k hk
    have e : (x.add (n * 4)).add (i * 4) = x.add ((n + i) * 4) := by
      unfold Addr.add
      split <;> split <;> split <;> simp_all <;> omega
    rw [e]
    exact this
theorem Orl.sl {w : World} {a : Option Addr} {c n L : Nat} {ks : List OrV} (h : Orl w (.slice a L c) ks) (hn : n ≤ ks.length) : Orl w (sliced a n L c 4) (ks.drop n) := by
  obtain ⟨a', c', e, h1, h2, h3⟩ := h
  injection e with e1 e2 e3
  subst e1 e3 e2
  unfold sliced
  refine ⟨_, _, by rw [List.length_drop], by rw [List.length_drop]; omega, by omega, fun hne => ?_⟩
  have hnl : n < ks.length := by
    rcases Nat.lt_or_ge n ks.length with h | h
    · exact h
    · exact absurd (List.drop_eq_nil_of_le h) hne
  obtain ⟨x, rfl, hx1, hx2⟩ := h3 (by rintro rfl; simp at hnl)
  refine ⟨x.add (n * 4), ?_, by rw [add_block]; exact hx1, fun i k hk => ?_⟩
  · simp
    intro hc
    omega
  · rw [List.getElem?_drop] at hk
    have := hx2 (n + i) k hk
    have e : (x.add (n * 4)).add (i * 4) = x.add ((n + i) * 4) := by
      unfold Addr.add
      split <;> split <;> split <;> simp_all <;> omega
    rw [e]
    exact this
set_option maxRecDepth 100000 in
set_option maxHeartbeats 16000000 in
theorem ref_last (v : Value) (ks : List OrV) (w : World) (h : Orl w v ks) (hl : ks.length ≤ 60) :
    Calls Tryz.prog 46 #[v] w fun e w' => ∃ u out, e = .returned u ∧ LastSays ks out ∧ Oro w' w.heap.size u out ∧ Below w.heap.size w w' := by
  have K0 : Hid (Orl w v ks) := h
  obtain ⟨pa, pc, rfl, c1, c2, -⟩ := h
  go_enter Tryz.func46, Tryz.ntmps46
  go_wp2_with fail
  go_loopw [3, 4] (fun v3 v4 W => Rl1 ks w v3 v4 W) (fun _ v4 _ => ks.length - (intOf v4).toNat)
  case atStart => exact ⟨0, Nat.zero_le _, rfl, Oro.nil _ _, Below.refl _ _⟩
  case round =>
    obtain ⟨q, hq, rfl, hko, hb⟩ := hrel
    have OQ : Hid (Oro wr w.heap.size u3 (fs (kp ks q))) := hko
    have BQ : Hid (Below w.heap.size w wr) := hb
    clear hko hb
    generalize wr = wo at *
    by_cases hql : q = ks.length
    · subst hql
      obtain ⟨U, hU⟩ : ∃ U, kp ks ks.length = U := ⟨_, rfl⟩
      have HU : Hid (kp ks ks.length = U) := hU
      have UT : Hid (U.Pairwise (fun x y => x.2 < y.2)) := by unfold Hid; rw [← hU]; exact kp_tags _
      have UL : U.length ≤ 60 := by rw [← hU]; exact Nat.le_trans (kp_len _) hl
      rw [hU] at OQ
      clear hU
      obtain ⟨xa, xc, rfl⟩ := OQ.out.len
      have eUl : (fs U).length = U.length := by simp [fs]
      rw [eUl] at OQ ⊢
      clear eUl
      generalize huu : Value.slice xa U.length xc = u3 at *
      subst huu
      go_wp2_with fail
      go_loopw [7, 8] (fun v7 v8 W => Rl3 U (.slice xa U.length xc) w v7 v8 W) (fun _ v8 _ => U.length - (intOf v8).toNat)
      case atStart => exact ⟨0, [], Nat.zero_le _, rfl, by simp, List.Pairwise.nil, Oro.nil _ _, OQ.out, BQ.out⟩
      case round =>
        obtain ⟨q, S, hq, rfl, hp, hs, ho7, ho3, hb⟩ := hrel
        have HS : Hid (S.Perm (U.take q) ∧ S.Pairwise lt) := ⟨hp, hs⟩
        have OS : Hid (Oro wr w.heap.size u7 (fs S)) := ho7
        have OU : Hid (Oro wr w.heap.size (.slice xa U.length xc) (fs U)) := ho3
        have BS : Hid (Below w.heap.size w wr) := hb
        clear hp hs ho7 ho3 hb
        generalize wr = wo2 at *
        by_cases hqU : q = U.length
        · have LSY : Hid (LastSays ks (fs S)) := ⟨S, by have h := HS.out.1; rw [hqU, List.take_length, ← HU.out] at h; exact h, HS.out.2, rfl⟩
          subst hqU
          go_wp2
          go_ret
          exact ⟨_, _, rfl, LSY.out, OS.out, BS.out⟩
        · have hqk : q < U.length := by omega
          have hqi : ((q : Nat) : Int) < (U.length : Nat) := by omega
          obtain ⟨x, hx⟩ : ∃ x, U[q]? = some x := ⟨_, List.getElem?_eq_getElem hqk⟩
          have UX : Hid (U[q]? = some x) := hx
          have NX : Hid (U.take (q + 1) = U.take q ++ [x]) := by
            obtain ⟨hi, e⟩ := List.getElem?_eq_some_iff.1 hx
            unfold Hid
            rw [List.take_succ_eq_append_getElem hi, e]
          have TG : Hid (∀ y ∈ S, y.2 < x.2) := fun y hy => by
            have h1 := HS.out.1.mem_iff.1 hy
            have h2 := UT.out
            rw [← List.take_append_drop q U, List.pairwise_append] at h2
            refine h2.2.2 y h1 x ?_
            have : (U.drop q)[0]? = some x := by rw [List.getElem?_drop]; exact hx
            exact List.mem_of_getElem? this
          have SL : Hid (S.length ≤ 60) := by have h1 := HS.out.1.length_eq; rw [List.length_take] at h1; unfold Hid; omega
          obtain ⟨a7, c7, rfl⟩ := OS.out.len
          have eSl : (fs S).length = S.length := by simp [fs]
          rw [eSl] at OS ⊢
          clear eSl
          obtain ⟨xu, rfl⟩ : ∃ xu, xa = some xu := by
            obtain ⟨a', c', e, -, -, h3⟩ := OU.out.l
            injection e with e1 e2 e3
            subst e1
            obtain ⟨z, e9, -, -⟩ := h3 (by intro h; have := congrArg List.length h; simp [fs] at this; rw [this] at hqk; simp at hqk)
            exact ⟨z, e9⟩
          clear hx
          have sl60 : S.length ≤ 60 := SL.out
          go_wp2_with fail
          go_loopw [9] (fun v9 W => Rl4 S x wo2 v9 W) (fun v9 _ => (intOf v9).toNat)
          case atStart => exact ⟨S, [], rfl, by simp, by simp, Below.refl _ _⟩
          case round =>
            obtain ⟨S1, S2, rfl, h12, hk2, hb7⟩ := hrel
            generalize wr = w6 at *
            rcases List.eq_nil_or_concat S1 with h0 | ⟨S1', y, h0⟩
            · subst h0
              have hlast : ∀ y, ([] : List T).getLast? = some y → ¬ klt x.1 y.1 := fun y h => by simp at h
              simp only [List.length_nil]
              go_upto_region 18 with fail
              go_quiet (fail)
              have D6 : Hid (Below wo2.heap.size wo2 (w6.drewN nq)) := hb7.trans ((below_dn w6 nq).mono hb7.size)
              generalize w6.drewN nq = w7 at *
              have O7 : Hid (Oro w7 w.heap.size (.slice a7 S.length c7) (fs S)) := OS.out.below D6.out
              have U7 : Hid (Oro w7 w.heap.size (.slice (some xu) U.length xc) (fs U)) := OU.out.below D6.out
              have D7 : Hid (Below w.heap.size w w7) := BS.out.trans (D6.out.mono BS.out.size)
              clear hb7
              obtain ⟨S1, hS1⟩ : ∃ S1 : List T, [] = S1 := ⟨_, rfl⟩
              have hk0 : ((0 : Nat) : Int) = ((S1.length : Nat) : Int) := by rw [← hS1]; rfl
              rw [hk0]
              rw [hS1] at h12 hlast
              clear hk0 hS1
              have S12 : Hid (S1 ++ S2 = S) := h12
              have PW : Hid ((S1 ++ x :: S2).Pairwise lt) := put_place (by rw [h12]; exact HS.out.2) (fun y hy => TG.out y (by rw [← h12]; exact hy)) hk2 hlast
              have PM : Hid ((S1 ++ x :: S2).Perm (U.take (q + 1))) := by
                unfold Hid
                rw [NX.out]
                refine List.perm_middle.trans ?_
                rw [h12]
                exact ((HS.out.1.cons x).trans (List.perm_append_singleton x _).symm)
              obtain ⟨m, hm⟩ : ∃ m, S.length = m := ⟨_, rfl⟩
              obtain ⟨k, hk⟩ : ∃ k, S1.length = k := ⟨_, rfl⟩
              have hkm : k ≤ m := by rw [← hk, ← hm, ← h12]; simp
              have FR : Hid (Orl w7 (.slice a7 k c7) (fs S1)) := by
                have h := (O7.out.l).front (n := k) (by simp [fs]; omega)
                have e : (fs S).take k = fs S1 := by rw [← h12, ← hk]; simp [fs]
                rw [e] at h
                exact h
              have BKV : Hid (∀ W, Below w7.heap.size w7 W → Orl W (sliced a7 k m c7 4) (fs S2)) := fun W hW => by
                have h := Orl.sl ((O7.out.l).below hW) (n := k) (by simp [fs]; omega)
                have e : (fs S).drop k = fs S2 := by rw [← h12, ← hk]; simp [fs]
                rw [e, hm] at h
                exact h
              have ml : (fs S).length = m := by simp [fs, hm]
              have km' : ((k : Nat) : Int) ≤ (m : Nat) := by omega
              have kc7 : ((k : Nat) : Int) ≤ (c7 : Nat) := by
                obtain ⟨a', c', e, h1, -, -⟩ := O7.out.l
                injection e with e1 e2 e3
                subst e3
                simp [fs] at h1
                omega
              have LM : Hid (m ≤ 60 ∧ k ≤ m ∧ S1.length = k) := ⟨by rw [← hm]; exact SL.out, hkm, hk⟩
              simp only [hk]
              have ml2 : S.length = m := hm
              simp only [ml2]
              clear h12 hlast hk2 hm hk ml ml2
              go_wp2_with (at_builtin; refine app_ors _ rfl _ _ rfl w7.heap.size _ [] rfl (Oro.nil _ _) _ (fs S1) rfl FR.out (by have := LM.out; simp [fs]; omega) (Nat.le_refl _) ?_)
              intro v10 w8 o8 g8 a8
              have B8 : Hid (Below w7.heap.size w7 w8) := (Below.refl _ _).grown g8 (Nat.le_refl _) (fun k hk => by cases hk)
              have O8 : Hid (Oro w8 w7.heap.size v10 (fs S1)) := by unfold Hid; simpa using o8
              obtain ⟨a10, c10, e10⟩ := O8.out.len
              rw [show (fs S1).length = S1.length by simp [fs]] at e10
              subst e10
              clear o8 g8 a8
              have U8 : Hid (Oro w8 w.heap.size (.slice (some xu) U.length xc) (fs U)) := U7.out.below B8.out
              obtain ⟨y0, y1, y2, y3⟩ : Orc w8 (xu.add (q * 4)) x.1 := by
                obtain ⟨a', c', e, -, -, h3⟩ := U8.out.l
                injection e with e1 e2 e3
                subst e1
                obtain ⟨z, e9, -, hz⟩ := h3 (by intro h; have h9 := UX.out; have h8 := congrArg List.length h; simp [fs] at h8; rw [h8] at h9; simp at h9)
                injection e9 with e9
                subst e9
                exact hz q x.1 (by have := UX.out; simp [fs, this])
              have OA : Hid (Oro (w8.alloc (Obj.cells #[.int .i64 x.1.player, .int .i64 x.1.unit, .int .i64 x.1.what, .int .i64 x.1.arg] 89)) w7.heap.size (.slice a10 S1.length c10) (fs S1)) := O8.out.alloc _
              have RC : Hid (Orc (w8.alloc (Obj.cells #[.int .i64 x.1.player, .int .i64 x.1.unit, .int .i64 x.1.what, .int .i64 x.1.arg] 89)) ⟨w8.heap.size, 0, none⟩ x.1) := Orc.mk' (w := w8) x.1 rfl
              have BB : Hid (Below w8.heap.size w8 (w8.alloc (Obj.cells #[.int .i64 x.1.player, .int .i64 x.1.unit, .int .i64 x.1.what, .int .i64 x.1.arg] 89))) := (Below.refl _ _).alloc (Nat.le_refl _) _
              have SB : Hid (w7.heap.size ≤ (w8.alloc (Obj.cells #[.int .i64 x.1.player, .int .i64 x.1.unit, .int .i64 x.1.what, .int .i64 x.1.arg] 89)).heap.size) := Nat.le_trans B8.out.size BB.out.size
              go_wp2_with (at_builtin; refine app_or _ rfl _ _ rfl w7.heap.size _ (fs S1) rfl OA.out w8.heap.size x.1 rfl RC.out (by have := LM.out; simp [fs]; omega) SB.out ?_)
              intro g cap w9 o9 g9 a9 l9
              have B9 : Hid (Below w7.heap.size w7 w9) := (B8.out.trans (BB.out.mono B8.out.size)).grown g9 SB.out (fun k hk => (O8.out.block k hk).1)
              have O9 : Hid (Oro w9 w7.heap.size (.slice (some ⟨g, 0, none⟩) (S1.length + 1) cap) (fs S1 ++ [x.1])) := by unfold Hid; simpa [fs] using o9
              have BK := BKV.out w9 B9.out
              clear o9 g9 a9 l9 y0 y1 y2 y3
              go_wp2_with (at_builtin; refine app_ors _ rfl _ _ rfl w7.heap.size _ (fs S1 ++ [x.1]) (by first | rfl | simp [fs]) (by first | exact O9.out | simpa [fs] using O9.out) _ (fs S2) rfl (by first | exact BK | simpa [sliced] using BK) (by have := LM.out; have h9 := congrArg List.length S12.out; have h8 := SL.out; simp [fs] at h9 ⊢; omega) B9.out.size ?_)
              all_goals
                intro v11 wa oa ga aa
                have BA : Hid (Below w7.heap.size w7 wa) := B9.out.grown ga B9.out.size (fun k hk => (O9.out.block k (by first | exact hk | simpa [fs] using hk)).1)
                have OAA : Hid (Oro wa w.heap.size v11 (fs (S1 ++ x :: S2))) := by
                  have h := oa.mono (base' := w.heap.size) (by have := D7.out.size; omega)
                  unfold Hid
                  simpa [fs] using h
                have UA : Hid (Oro wa w.heap.size (.slice (some xu) U.length xc) (fs U)) := U7.out.below BA.out
                have DA : Hid (Below w.heap.size w wa) := D7.out.trans (BA.out.mono D7.out.size)
                clear oa ga aa BK
                go_wp2
                go_round
                case rel => exact ⟨q + 1, S1 ++ x :: S2, by omega, by go_num, PM.out, PW.out, OAA.out, UA.out, DA.out⟩
                case measure => simp [intOf]; omega
            · subst h0
              have hmm : S1'.length + 1 + S2.length = S.length := by have := congrArg List.length h12; simp at this; omega
              obtain ⟨k', hk'⟩ : ∃ k, S1'.length = k := ⟨_, rfl⟩
              have hk1 : (S1'.concat y).length = k' + 1 := by rw [← hk']; simp
              have O6 : Hid (Oro w6 w.heap.size (.slice a7 S.length c7) (fs S)) := OS.out.below hb7
              have U6 : Hid (Oro w6 w.heap.size (.slice (some xu) U.length xc) (fs U)) := OU.out.below hb7
              have SY : Hid ((fs S)[k']? = some y.1) := by
                unfold Hid
                rw [← h12, ← hk']
                simp [fs]
              obtain ⟨xs7, rfl⟩ : ∃ xs, a7 = some xs := by
                obtain ⟨a', c', e, -, -, h3⟩ := O6.out.l
                injection e with e1 e2 e3
                subst e1
                obtain ⟨z, e9, -, -⟩ := h3 (by intro h; rw [h] at SY; have := SY.out; simp at this)
                exact ⟨z, e9⟩
              have CX : Hid (∀ W, Below w6.heap.size w6 W → Orc W (xs7.add (k' * 4)) y.1 ∧ Orc W (xu.add (q * 4)) x.1) := fun W hW => by
                refine ⟨?_, ?_⟩
                · obtain ⟨a', c', e, -, -, h3⟩ := (O6.out.below hW).l
                  injection e with e1 e2 e3
                  subst e1
                  obtain ⟨z, e9, -, hz⟩ := h3 (by intro h; rw [h] at SY; have := SY.out; simp at this)
                  injection e9 with e9
                  subst e9
                  exact hz k' y.1 SY.out
                · obtain ⟨a', c', e, -, -, h3⟩ := (U6.out.below hW).l
                  injection e with e1 e2 e3
                  subst e1
                  obtain ⟨z, e9, -, hz⟩ := h3 (by intro h; have h9 := UX.out; have := congrArg List.length h; simp [fs] at this; rw [this] at h9; simp at h9)
                  injection e9 with e9
                  subst e9
                  exact hz q x.1 (by have := UX.out; simp [fs, this])
              have CB : Hid (∀ W, Below w6.heap.size w6 W → Calls Tryz.prog 68 #[.agg #[.int .i64 y.1.player, .int .i64 y.1.unit, .int .i64 y.1.what, .int .i64 y.1.arg], .agg #[.int .i64 x.1.player, .int .i64 x.1.unit, .int .i64 x.1.what, .int .i64 x.1.arg]] W fun e w' => e = .returned (.bool (decide (klt x.1 y.1))) ∧ Below w6.heap.size w6 w') := fun W hW => (ref_behind y.1 x.1 W).mono fun e w' ⟨h1, h2⟩ => ⟨h1, hW.trans (h2.mono hW.size)⟩
              have kpos : (0 : Int) < ((k' : Nat) : Int) + 1 := by omega
              have kk1 : ((k' : Nat) : Int) + 1 - 1 = k' := by omega
              have kw : IntKind.i64.wrap ((k' : Nat) : Int) = k' := by rw [IntKind.wrap_i64]; omega
              have hki0 : ((k' : Nat) : Int) < (S.length : Int) := by omega
              have e1 : (((S1'.concat y).length : Nat) : Int) = (k' : Int) + 1 := by rw [hk1]; rfl
              obtain ⟨bb, hbb⟩ : ∃ b, decide (klt x.1 y.1) = b := ⟨_, rfl⟩
              have HBB : Hid (decide (klt x.1 y.1) = bb) := hbb
              rw [hbb] at CB
              have HB7 : Hid (Below wo2.heap.size wo2 w6) := hb7
              have H12 : Hid (S1'.concat y ++ S2 = S) := h12
              have HK2 : Hid (∀ z ∈ S2, klt x.1 z.1) := hk2
              have HKL : Hid (S1'.length = k') := hk'
              rw [e1]
              clear hbb hb7 h12 hk2 hk1 e1 hmm hk'
              go_upto_region 18 with fail
              refine wp_region_class 13 (fun W => Below w6.heap.size w6 W) (by kernel_rfl) (by kernel_rfl) (Below.refl _ _).drew ?_
              simp only [List.take_succ_cons, List.take_zero, List.drop_succ_cons, List.drop_zero]
              refine head_step (.int .i64 ((k' : Int) + 1)) (by go_simp) (fun W hW => by go_simp) ?_
              go_simp
              refine head_step (.bool true) (by go_simp) (fun W hW => by go_simp) ?_
              go_simp
              refine head_step (.bool true) (by go_simp) (fun W hW => by go_simp) ?_
              go_simp
              refine head_step (.slice (some xs7) S.length c7) (by go_simp) (fun W hW => by go_simp) ?_
              go_simp
              refine head_step (.int .i64 ((k' : Int) + 1)) (by go_simp) (fun W hW => by go_simp) ?_
              go_simp
              refine head_step (.int .i64 (k' : Int)) (by go_simp) (fun W hW => by go_simp) ?_
              go_simp
              refine head_step (.pointer (some (xs7.add (k' * 4)))) (by go_simp) (fun W hW => by go_simp) ?_
              go_simp
              refine head_step (.agg #[.int .i64 y.1.player, .int .i64 y.1.unit, .int .i64 y.1.what, .int .i64 y.1.arg]) (by go_simp) (fun W hW => by obtain ⟨⟨x0, x1, x2, x3⟩, -⟩ := CX.out W hW; go_simp) ?_
              go_simp
              refine head_step (.slice (some xu) U.length xc) (by go_simp) (fun W hW => by go_simp) ?_
              go_simp
              refine head_step (.int .i64 (q : Int)) (by go_simp) (fun W hW => by go_simp) ?_
              go_simp
              refine head_step (.pointer (some (xu.add (q * 4)))) (by go_simp) (fun W hW => by go_simp) ?_
              go_simp
              refine head_step (.agg #[.int .i64 x.1.player, .int .i64 x.1.unit, .int .i64 x.1.what, .int .i64 x.1.arg]) (by go_simp) (fun W hW => by obtain ⟨-, x0, x1, x2, x3⟩ := CX.out W hW; go_simp) ?_
              go_simp
              refine head_call (.bool bb) 68 #[.agg #[.int .i64 y.1.player, .int .i64 y.1.unit, .int .i64 y.1.what, .int .i64 y.1.arg], .agg #[.int .i64 x.1.player, .int .i64 x.1.unit, .int .i64 x.1.what, .int .i64 x.1.arg]] (by go_simp) (fun W hW => by go_simp) (fun W hW => CB.out W hW) ?_
              go_simp
              intro w7 hW
              have D6 : Hid (Below wo2.heap.size wo2 w7) := HB7.out.trans (hW.mono HB7.out.size)
              clear hW CX CB
              cases bb
              · have O7 : Hid (Oro w7 w.heap.size (.slice (some xs7) S.length c7) (fs S)) := OS.out.below D6.out
                have U7 : Hid (Oro w7 w.heap.size (.slice (some xu) U.length xc) (fs U)) := OU.out.below D6.out
                have D7 : Hid (Below w.heap.size w w7) := BS.out.trans (D6.out.mono BS.out.size)
                have hlast : ∀ z, (S1'.concat y).getLast? = some z → ¬ klt x.1 z.1 := fun z hz => by
                  simp at hz
                  subst hz
                  exact of_decide_eq_false HBB.out
                have h12 : S1'.concat y ++ S2 = S := H12.out
                have hk2 : ∀ z ∈ S2, klt x.1 z.1 := HK2.out
                have hS1l : (k' : Int) + 1 = (((S1'.concat y).length : Nat) : Int) := by have := HKL.out; simp; omega
                rw [hS1l]
                generalize S1'.concat y = S1 at *
                clear hS1l kk1 kw kpos hki0
                have S12 : Hid (S1 ++ S2 = S) := h12
                have PW : Hid ((S1 ++ x :: S2).Pairwise lt) := put_place (by rw [h12]; exact HS.out.2) (fun y hy => TG.out y (by rw [← h12]; exact hy)) hk2 hlast
                have PM : Hid ((S1 ++ x :: S2).Perm (U.take (q + 1))) := by
                  unfold Hid
                  rw [NX.out]
                  refine List.perm_middle.trans ?_
                  rw [h12]
                  exact ((HS.out.1.cons x).trans (List.perm_append_singleton x _).symm)
                obtain ⟨m, hm⟩ : ∃ m, S.length = m := ⟨_, rfl⟩
                obtain ⟨k, hk⟩ : ∃ k, S1.length = k := ⟨_, rfl⟩
                have hkm : k ≤ m := by rw [← hk, ← hm, ← h12]; simp
                have FR : Hid (Orl w7 (.slice (some xs7) k c7) (fs S1)) := by
                  have h := (O7.out.l).front (n := k) (by simp [fs]; omega)
                  have e : (fs S).take k = fs S1 := by rw [← h12, ← hk]; simp [fs]
                  rw [e] at h
                  exact h
                have BKV : Hid (∀ W, Below w7.heap.size w7 W → Orl W (sliced (some xs7) k m c7 4) (fs S2)) := fun W hW => by
                  have h := Orl.sl ((O7.out.l).below hW) (n := k) (by simp [fs]; omega)
                  have e : (fs S).drop k = fs S2 := by rw [← h12, ← hk]; simp [fs]
                  rw [e, hm] at h
                  exact h
                have ml : (fs S).length = m := by simp [fs, hm]
                have km' : ((k : Nat) : Int) ≤ (m : Nat) := by omega
                have kc7 : ((k : Nat) : Int) ≤ (c7 : Nat) := by
                  obtain ⟨a', c', e, h1, -, -⟩ := O7.out.l
                  injection e with e1 e2 e3
                  subst e3
                  simp [fs] at h1
                  omega
                have LM : Hid (m ≤ 60 ∧ k ≤ m ∧ S1.length = k) := ⟨by rw [← hm]; exact SL.out, hkm, hk⟩
                simp only [hk]
                have ml2 : S.length = m := hm
                simp only [ml2]
                clear h12 hlast hk2 hm hk ml ml2
                go_wp2_with (at_builtin; refine app_ors _ rfl _ _ rfl w7.heap.size _ [] rfl (Oro.nil _ _) _ (fs S1) rfl FR.out (by have := LM.out; simp [fs]; omega) (Nat.le_refl _) ?_)
                intro v10 w8 o8 g8 a8
                have B8 : Hid (Below w7.heap.size w7 w8) := (Below.refl _ _).grown g8 (Nat.le_refl _) (fun k hk => by cases hk)
                have O8 : Hid (Oro w8 w7.heap.size v10 (fs S1)) := by unfold Hid; simpa using o8
                obtain ⟨a10, c10, e10⟩ := O8.out.len
                rw [show (fs S1).length = S1.length by simp [fs]] at e10
                subst e10
                clear o8 g8 a8
                have U8 : Hid (Oro w8 w.heap.size (.slice (some xu) U.length xc) (fs U)) := U7.out.below B8.out
                obtain ⟨y0, y1, y2, y3⟩ : Orc w8 (xu.add (q * 4)) x.1 := by
                  obtain ⟨a', c', e, -, -, h3⟩ := U8.out.l
                  injection e with e1 e2 e3
                  subst e1
                  obtain ⟨z, e9, -, hz⟩ := h3 (by intro h; have h9 := UX.out; have h8 := congrArg List.length h; simp [fs] at h8; rw [h8] at h9; simp at h9)
                  injection e9 with e9
                  subst e9
                  exact hz q x.1 (by have := UX.out; simp [fs, this])
                have OA : Hid (Oro (w8.alloc (Obj.cells #[.int .i64 x.1.player, .int .i64 x.1.unit, .int .i64 x.1.what, .int .i64 x.1.arg] 89)) w7.heap.size (.slice a10 S1.length c10) (fs S1)) := O8.out.alloc _
                have RC : Hid (Orc (w8.alloc (Obj.cells #[.int .i64 x.1.player, .int .i64 x.1.unit, .int .i64 x.1.what, .int .i64 x.1.arg] 89)) ⟨w8.heap.size, 0, none⟩ x.1) := Orc.mk' (w := w8) x.1 rfl
                have BB : Hid (Below w8.heap.size w8 (w8.alloc (Obj.cells #[.int .i64 x.1.player, .int .i64 x.1.unit, .int .i64 x.1.what, .int .i64 x.1.arg] 89))) := (Below.refl _ _).alloc (Nat.le_refl _) _
                have SB : Hid (w7.heap.size ≤ (w8.alloc (Obj.cells #[.int .i64 x.1.player, .int .i64 x.1.unit, .int .i64 x.1.what, .int .i64 x.1.arg] 89)).heap.size) := Nat.le_trans B8.out.size BB.out.size
                go_wp2_with (at_builtin; refine app_or _ rfl _ _ rfl w7.heap.size _ (fs S1) rfl OA.out w8.heap.size x.1 rfl RC.out (by have := LM.out; simp [fs]; omega) SB.out ?_)
                intro g cap w9 o9 g9 a9 l9
                have B9 : Hid (Below w7.heap.size w7 w9) := (B8.out.trans (BB.out.mono B8.out.size)).grown g9 SB.out (fun k hk => (O8.out.block k hk).1)
                have O9 : Hid (Oro w9 w7.heap.size (.slice (some ⟨g, 0, none⟩) (S1.length + 1) cap) (fs S1 ++ [x.1])) := by unfold Hid; simpa [fs] using o9
                have BK := BKV.out w9 B9.out
                clear o9 g9 a9 l9 y0 y1 y2 y3
                go_wp2_with (at_builtin; refine app_ors _ rfl _ _ rfl w7.heap.size _ (fs S1 ++ [x.1]) (by first | rfl | simp [fs]) (by first | exact O9.out | simpa [fs] using O9.out) _ (fs S2) rfl (by first | exact BK | simpa [sliced] using BK) (by have := LM.out; have h9 := congrArg List.length S12.out; have h8 := SL.out; simp [fs] at h9 ⊢; omega) B9.out.size ?_)
                all_goals
                  intro v11 wa oa ga aa
                  have BA : Hid (Below w7.heap.size w7 wa) := B9.out.grown ga B9.out.size (fun k hk => (O9.out.block k (by first | exact hk | simpa [fs] using hk)).1)
                  have OAA : Hid (Oro wa w.heap.size v11 (fs (S1 ++ x :: S2))) := by
                    have h := oa.mono (base' := w.heap.size) (by have := D7.out.size; omega)
                    unfold Hid
                    simpa [fs] using h
                  have UA : Hid (Oro wa w.heap.size (.slice (some xu) U.length xc) (fs U)) := U7.out.below BA.out
                  have DA : Hid (Below w.heap.size w wa) := D7.out.trans (BA.out.mono D7.out.size)
                  clear oa ga aa BK
                  go_wp2
                  go_round
                  case rel => exact ⟨q + 1, S1 ++ x :: S2, by omega, by go_num, PM.out, PW.out, OAA.out, UA.out, DA.out⟩
                  case measure => simp [intOf]; omega
              · have KX : Hid (∀ z ∈ y :: S2, klt x.1 z.1) := fun z hz => by
                  rcases List.mem_cons.1 hz with rfl | hz
                  · exact of_decide_eq_true HBB.out
                  · exact HK2.out z hz
                have HJ : Hid (S1' ++ y :: S2 = S) := by have := H12.out; unfold Hid; rw [← this]; simp
                go_wp2
                go_roundw
                case rel => exact ⟨S1', y :: S2, by rw [HKL.out], HJ.out, KX.out, D6.out⟩
                case measure => have := HKL.out; simp [intOf]; try omega
    · have hqk : q < ks.length := by omega
      obtain ⟨o, ho⟩ : ∃ o, ks[q]? = some o := ⟨_, List.getElem?_eq_getElem hqk⟩
      have HO : Hid (ks[q]? = some o) := ho
      obtain ⟨a', c', e, -, -, h3⟩ := K0.out.below BQ.out
      injection e with e1 e2 e3
      subst e1 e3
      obtain ⟨y, rfl, hy1, hy⟩ := h3 (by rintro rfl; simp at hqk)
      have HY : Hid (∀ (i : Nat) k, ks[i]? = some k → Orc wo (y.add (i * 4)) k) := hy
      obtain ⟨r0, r1, r2, r3⟩ := hy q o ho
      clear hy h3 e2 ho
      have hqi : ((q : Nat) : Int) < (ks.length : Nat) := by omega
      have hqb : q + 1 ≤ ks.length := by omega
      have KL : Hid ((fs (kp ks q)).length ≤ 60) := by have h1 := kp_len (l := ks) q; unfold Hid; simp [fs]; omega
      go_wp2_with fail
      go_loopw [5, 6] (fun v5 v6 W => Rl2 ks o q wo v5 v6 W) (fun _ v6 _ => ks.length - (intOf v6).toNat)
      case atStart => exact ⟨true, q + 1, rfl, by go_num, by omega, hqb, ⟨fun _ k x h1 h2 => by omega, fun _ => rfl⟩, 0, rfl⟩
      case round =>
        obtain ⟨b, j, rfl, rfl, hqj, hj, hall, m, rfl⟩ := hrel
        have HA : Hid (b = true ↔ ∀ (k : Nat) x, q < k → k < j → ks[k]? = some x → ¬ (¬ o.what = 3 ∧ ¬ x.what = 3 ∧ x.player = o.player ∧ x.unit = o.unit)) := hall
        clear hall
        by_cases hjl : j = ks.length
        · subst hjl
          have DN : Hid (Below wo.heap.size wo (wo.drewN m)) := below_dn wo m
          generalize wo.drewN m = w5 at *
          have B5 : Hid (Below w.heap.size w w5) := BQ.out.trans (DN.out.mono BQ.out.size)
          have O5 : Hid (Oro w5 w.heap.size u3 (fs (kp ks q))) := OQ.out.below DN.out
          cases b
          · have NK : Hid (kp ks (q + 1) = kp ks q) := stays_no HO.out (fun h => by have := HA.out.2 h; cases this)
            clear r0 r1 r2 r3
            go_wp2
            go_round
            case rel => exact ⟨q + 1, by omega, by go_num, by rw [NK.out]; exact O5.out, B5.out⟩
            case measure => simp [intOf]; omega
          · have NK : Hid (kp ks (q + 1) = kp ks q ++ [(o, q)]) := stays_yes HO.out (HA.out.1 rfl)
            clear r0 r1 r2 r3
            obtain ⟨r0, r1, r2, r3⟩ := (HY.out q o HO.out).below DN.out (by rw [add_block]; exact hy1)
            have OA : Hid (Oro (w5.alloc (Obj.cells #[.int .i64 o.player, .int .i64 o.unit, .int .i64 o.what, .int .i64 o.arg] 89)) w.heap.size u3 (fs (kp ks q))) := O5.out.alloc _
            have RC : Hid (Orc (w5.alloc (Obj.cells #[.int .i64 o.player, .int .i64 o.unit, .int .i64 o.what, .int .i64 o.arg] 89)) ⟨w5.heap.size, 0, none⟩ o) := Orc.mk' (w := w5) o rfl
            have BB : Hid (Below w5.heap.size w5 (w5.alloc (Obj.cells #[.int .i64 o.player, .int .i64 o.unit, .int .i64 o.what, .int .i64 o.arg] 89))) := (Below.refl _ _).alloc (Nat.le_refl _) _
            have SB : Hid (w.heap.size ≤ (w5.alloc (Obj.cells #[.int .i64 o.player, .int .i64 o.unit, .int .i64 o.what, .int .i64 o.arg] 89)).heap.size) := Nat.le_trans B5.out.size BB.out.size
            go_wp2_with (at_builtin; refine app_or _ rfl _ _ rfl w.heap.size _ (fs (kp ks q)) rfl OA.out w5.heap.size o rfl RC.out (by have := KL.out; omega) SB.out ?_)
            intro g cap w7 o7 g7 a7 l7
            have B7 : Hid (Below w.heap.size w w7) := (B5.out.trans (BB.out.mono B5.out.size)).grown g7 SB.out (fun k hk => (O5.out.block k hk).1)
            have O7 : Hid (Oro w7 w.heap.size (.slice (some ⟨g, 0, none⟩) ((kp ks q).length + 1) cap) (fs (kp ks (q + 1)))) := by unfold Hid; rw [NK.out]; simpa [fs] using o7
            clear o7 g7 a7 l7 r0 r1 r2 r3
            go_wp2
            go_round
            case rel => exact ⟨q + 1, by omega, by go_num, O7.out, B7.out⟩
            case measure => simp [intOf]; omega
        · have hjk : j < ks.length := by omega
          have hji : ((j : Nat) : Int) < (ks.length : Nat) := by omega
          obtain ⟨x, hx⟩ : ∃ x, ks[j]? = some x := ⟨_, List.getElem?_eq_getElem hjk⟩
          obtain ⟨s0, s1, s2, s3⟩ := HY.out j x hx
          have HX : Hid (ks[j]? = some x) := hx
          have NX : Hid ((¬ (¬ o.what = 3 ∧ ¬ x.what = 3 ∧ x.player = o.player ∧ x.unit = o.unit)) → (b = true ↔ ∀ (k : Nat) z, q < k → k < j + 1 → ks[k]? = some z → ¬ (¬ o.what = 3 ∧ ¬ z.what = 3 ∧ z.player = o.player ∧ z.unit = o.unit))) := fun hd => ⟨fun hb k z h1 h2 hz => by
              by_cases e : k = j
              · subst e
                rw [HX.out] at hz
                obtain rfl := Option.some.inj hz
                exact hd
              · exact HA.out.1 hb k z h1 (by omega) hz, fun h => HA.out.2 (fun k z h1 h2 hz => h k z h1 (by omega) hz)⟩
          clear hx hjl
          by_cases g0 : o.what = 3
          · go_upto_region 9 with fail
            go_quiet (fail)
            go_wp2
            go_roundw
            case rel => exact ⟨b, j + 1, rfl, by go_num, by omega, by omega, NX.out (fun h => h.1 g0), m + nq, rfl⟩
            case measure => simp [intOf]; omega
          · by_cases g3 : x.what = 3
            · go_upto_region 9 with fail
              have g0b : (o.what != 3) = true := bne_iff_ne.2 g0
              go_quiet (fail)
              go_wp2
              go_roundw
              case rel => exact ⟨b, j + 1, rfl, by go_num, by omega, by omega, NX.out (fun h => h.2.1 g3), m + nq, rfl⟩
              case measure => simp [intOf]; omega
            · by_cases gp : x.player = o.player
              · by_cases gu : x.unit = o.unit
                · have FX : Hid (false = true ↔ ∀ (k : Nat) z, q < k → k < j + 1 → ks[k]? = some z → ¬ (¬ o.what = 3 ∧ ¬ z.what = 3 ∧ z.player = o.player ∧ z.unit = o.unit)) := ⟨fun h => (by cases h), fun h => absurd ⟨g0, g3, gp, gu⟩ (h j x (by omega) (by omega) HX.out)⟩
                  go_upto_region 9 with fail
                  have g0b : (o.what != 3) = true := bne_iff_ne.2 g0
                  have g3b : (x.what != 3) = true := bne_iff_ne.2 g3
                  go_quiet (fail)
                  go_wp2
                  go_roundw
                  case rel => exact ⟨false, j + 1, rfl, by go_num, by omega, by omega, FX.out, m + nq, rfl⟩
                  case measure => simp [intOf]; omega
                · have gub : (x.unit == o.unit) = false := beq_eq_false_iff_ne.2 gu
                  go_upto_region 9 with fail
                  have g0b : (o.what != 3) = true := bne_iff_ne.2 g0
                  have g3b : (x.what != 3) = true := bne_iff_ne.2 g3
                  go_quiet (fail)
                  go_wp2
                  go_roundw
                  case rel => exact ⟨b, j + 1, rfl, by go_num, by omega, by omega, NX.out (fun h => gu h.2.2.2), m + nq, rfl⟩
                  case measure => simp [intOf]; omega
              · have gpb : (x.player == o.player) = false := beq_eq_false_iff_ne.2 gp
                go_upto_region 9 with fail
                have g0b : (o.what != 3) = true := bne_iff_ne.2 g0
                have g3b : (x.what != 3) = true := bne_iff_ne.2 g3
                go_quiet (fail)
                go_wp2
                go_roundw
                case rel => exact ⟨b, j + 1, rfl, by go_num, by omega, by omega, NX.out (fun h => gp h.2.2.1), m + nq, rfl⟩
                case measure => simp [intOf]; omega
end Go.Proofs.YteieikgkmfglaaaGreatDoor

namespace Go.Proofs.YteieikgkmfglaaaGreatDoor
open Go.RowKit
set_option linter.unusedVariables false

structure EvV where
  what : Int
  unit : Int
  arg : Int
def EvV.val (k : EvV) : Value := .agg #[.int .i64 k.what, .int .i64 k.unit, .int .i64 k.arg]
/-- its cells, from an address on. -/
structure Evc (w : World) (y : Addr) (k : EvV) : Prop where
  c0 : w.cell? y = some (.int .i64 k.what)
  c1 : w.cell? ⟨y.block, y.off + 1, none⟩ = some (.int .i64 k.unit)
  c2 : w.cell? ⟨y.block, y.off + 2, none⟩ = some (.int .i64 k.arg)
theorem Evc.lt {w : World} {y : Addr} {k : EvV} (h : Evc w y k) : y.block < w.heap.size := cell_lt h.c0
theorem Evc.below {w w' : World} {y : Addr} {k : EvV} {B : Nat} (h : Evc w y k) (hb : Below B w w') (hy : y.block < B) : Evc w' y k :=
  ⟨by rw [hb.cell (p := y) hy]; exact h.c0, by rw [hb.cell (p := ⟨y.block, y.off + 1, none⟩) hy]; exact h.c1, by rw [hb.cell (p := ⟨y.block, y.off + 2, none⟩) hy]; exact h.c2⟩
/-- v is a slice of them. -/
def Evl (w : World) (v : Value) (ks : List EvV) : Prop := ∃ a c, v = .slice a ks.length c ∧ ks.length ≤ c ∧ c ≤ 9223372036854775807 ∧ (ks ≠ [] → ∃ x, a = some x ∧ x.block < w.heap.size ∧ ∀ (i : Nat) k, ks[i]? = some k → Evc w (x.add (i * 3)) k)
theorem Evl.below {w w' : World} {v : Value} {ks : List EvV} (h : Evl w v ks) (hb : Below w.heap.size w w') : Evl w' v ks := by
  obtain ⟨a, c, h1, h2, h3, h4⟩ := h
  refine ⟨a, c, h1, h2, h3, fun hn => ?_⟩
  obtain ⟨x, e, hx, hk⟩ := h4 hn
  exact ⟨x, e, Nat.lt_of_lt_of_le hx hb.size, fun i k hi => (hk i k hi).below hb (by rw [add_block]; exact hx)⟩
theorem Evc.mk' {w : World} {z : Nat} (k : EvV) (hz : w.heap.size = z) : Evc (w.alloc (.cells #[.int .i64 k.what, .int .i64 k.unit, .int .i64 k.arg] 73)) ⟨z, 0, none⟩ k := by
  subst hz
  constructor <;> simp
end Go.Proofs.YteieikgkmfglaaaGreatDoor

namespace Go.Proofs.YteieikgkmfglaaaGreatDoor
open Go.RowKit
set_option linter.unusedVariables false

theorem info_ev : (Tryz.prog.info? 73).map (fun i => (i.zero, i.size, i.bytes)) = some (some (.agg #[.int .i64 0, .int .i64 0, .int .i64 0]), 3, 24) := by kernel_rfl
def EvV.cs (k : EvV) : List Value := [.int .i64 k.what, .int .i64 k.unit, .int .i64 k.arg]
theorem flat_ev : ∀ (ks : List EvV) (i j : Nat) (k : EvV), ks[i]? = some k → j < 3 → (ks.flatMap EvV.cs)[i * 3 + j]? = k.cs[j]?
  | [], i, j, k, h, _ => by simp at h
  | x :: ks, 0, j, k, h, hj => by
    simp at h
    subst h
    rw [List.flatMap_cons, List.getElem?_append_left (by simp [EvV.cs]; omega)]
    simp
  | x :: ks, i + 1, j, k, h, hj => by
    rw [List.flatMap_cons, List.getElem?_append_right (by simp [EvV.cs]; omega)]
    have : (i + 1) * 3 + j - (EvV.cs x).length = i * 3 + j := by simp [EvV.cs]; omega
    rw [this]
    exact flat_ev ks i j k (by simpa using h) hj
/-- v is a slice of them, in a block of its own from base on. -/
def Evo (w : World) (base : Nat) (v : Value) (ks : List EvV) : Prop := w.ownsRow base 73 3 v ks.length (ks.flatMap EvV.cs)
theorem Evo.nil (w : World) (base : Nat) : Evo w base (.slice none 0 0) [] := World.ownsRow_nil _ _ _ _
theorem Evo.below {w w' : World} {base : Nat} {v : Value} {ks : List EvV} (h : Evo w base v ks) (hb : Below w.heap.size w w') : Evo w' base v ks :=
  World.ownsRow.kept h (row := none) ⟨hb.os, hb.tape, hb.output, hb.size, fun k hk _ => hb.block k hk⟩ (by cases v.ownBlock <;> simp)
theorem Evo.kept {w w' : World} {base : Nat} {v : Value} {ks : List EvV} {row : Option Nat} (h : Evo w base v ks) (hg : w.grownBy w' row) (hne : v.ownBlock = none ∨ v.ownBlock ≠ row) : Evo w' base v ks := World.ownsRow.kept h hg hne
theorem Evo.alloc {w : World} {base : Nat} {v : Value} {ks : List EvV} (h : Evo w base v ks) (o : Obj) : Evo (w.alloc o) base v ks := World.ownsRow.alloc h o
theorem Evo.block {w : World} {base : Nat} {v : Value} {ks : List EvV} (h : Evo w base v ks) : ∀ k, v.ownBlock = some k → base ≤ k ∧ k < w.heap.size := World.ownsRow.lt h
theorem Evo.mono {w : World} {base base' : Nat} {v : Value} {ks : List EvV} (h : Evo w base v ks) (hb : base' ≤ base) : Evo w base' v ks := by
  refine ⟨h.1, ?_⟩
  rcases h.2 with h1 | ⟨g, cap, cur, h1, h2, h3⟩
  · exact .inl h1
  · exact .inr ⟨g, cap, cur, h1, Nat.le_trans hb h2, h3⟩
theorem Evo.l {w : World} {base : Nat} {v : Value} {ks : List EvV} (h : Evo w base v ks) : Evl w v ks := by
  rcases h.2 with ⟨hv, h0⟩ | ⟨g, cap, cur, hv, hb, hg, h1, h2, h3, h4⟩
  · exact ⟨none, 0, by rw [hv, h0], by omega, by omega, fun hn => absurd (List.length_eq_zero_iff.1 h0) hn⟩
  · refine ⟨_, cap, hv, h1, by unfold maxLen at h2; omega, fun _ => ⟨_, rfl, lt_of_block hg, fun i k hi => ?_⟩⟩
    have hil : i < ks.length := (List.getElem?_eq_some_iff.1 hi).1
    have h5 : w.ownsRow base 73 3 (.slice (some ⟨g, 0, none⟩) ks.length cap) ks.length (ks.flatMap EvV.cs) := by rw [← hv]; exact h
    have hc : ∀ j u, j < 3 → k.cs[j]? = some u → w.cell? ⟨g, i * 3 + j, none⟩ = some u := fun j u hj hu => by
      rw [h5.cellAt (i * 3 + j) (by omega), flat_ev ks i j k hi hj, hu]
    rw [Addr.add_lit, Nat.zero_add]
    exact ⟨hc 0 _ (by decide) rfl, hc 1 _ (by decide) rfl, hc 2 _ (by decide) rfl⟩
theorem Evo.len {w : World} {base : Nat} {v : Value} {ks : List EvV} (h : Evo w base v ks) : ∃ a c, v = .slice a ks.length c := by
  obtain ⟨a, c, h1, -⟩ := h.l
  exact ⟨a, c, h1⟩

/-- one more. -/
theorem app_ev {ops : Array Oper} {rest : List Oper} {o : Oper} {a : Act} {Q : Exit → Act → World → Prop} (w : World) (hgd : o.guard = none) (s x : Operand)
    (ho : o.op = .call { callee := .builtin .append, args := #[s, x], argTypes := #[31, 31] }) (base : Nat) (v : Value) (ks : List EvV) (hs : a.eval s = v) (hown : Evo w base v ks)
    (b : Nat) (d : EvV) (hx : a.eval x = .slice (some ⟨b, 0, none⟩) 1 1) (hd : Evc w ⟨b, 0, none⟩ d) (hl : ks.length ≤ 1000000) (hbase : base ≤ w.heap.size)
    (h : ∀ g cap w', Evo w' base (.slice (some ⟨g, 0, none⟩) (ks.length + 1) cap) (ks ++ [d]) → w.grownBy w' v.ownBlock → (v.ownBlock = some g ∨ g = w.heap.size) → g < w'.heap.size → wpList Tryz.prog ops Q rest (a.put o.dst (.slice (some ⟨g, 0, none⟩) (ks.length + 1) cap)) w') :
    wpList Tryz.prog ops Q (o :: rest) a w := by
  obtain ⟨i0, hi, hz0, hz1, hz2⟩ := info_parts info_ev
  refine wpList_append_lies w hgd s x 31 ho base 73 i0 (.agg #[.int .i64 0, .int .i64 0, .int .i64 0]) 3 24 Tryz.underlying31 hi hz0 hz1 hz2 rfl (by decide) v ks.length _ hs hown ⟨b, 0, none⟩ 1 1 d.cs hx rfl ?_ ?_ (by decide) (by unfold maxLen; omega) (by omega) hbase _ rfl ?_
  · intro j u hj
    have hjn : j < 3 := (List.getElem?_eq_some_iff.1 hj).1
    rw [Addr.add_lit, Nat.zero_add]
    match j, hjn, hj with
    | 0, _, hj => simp [EvV.cs] at hj; subst hj; exact hd.c0
    | 1, _, hj => simp [EvV.cs] at hj; subst hj; exact hd.c1
    | 2, _, hj => simp [EvV.cs] at hj; subst hj; exact hd.c2
  · intro u hu
    simp [EvV.cs] at hu
    rcases hu with rfl | rfl | rfl <;> rfl
  · intro g cap w' h1 h2 h3 h4
    refine h g cap w' ?_ h2 h3 h4
    unfold Evo
    rw [List.length_append, List.flatMap_append]
    simpa using h1
end Go.Proofs.YteieikgkmfglaaaGreatDoor

namespace Go.Proofs.YteieikgkmfglaaaGreatDoor
open Go.RowKit
set_option linter.unusedVariables false

theorem Evo.kp9 {w w' : World} {base z : Nat} {v : Value} {ks : List EvV} (h : Evo w base v ks) (k : Kp z w w') (hz : z < base) : Evo w' base v ks := owns_kp h k hz
end Go.Proofs.YteieikgkmfglaaaGreatDoor

namespace Go.Proofs.YteieikgkmfglaaaGreatDoor
open Go.RowKit
set_option linter.unusedVariables false

theorem wl_shape9 {w : World} {v : Value} {X : WV} (h : Wl w v X) : ∃ p1 q1 p2 q2 p3 q3 p4 q4 p5 q5, v = .agg #[.int .i64 X.turn, .int .i64 X.next, .int .i64 X.wide, .int .i64 X.high, .slice p1 X.gs.length q1, .slice p2 X.os.length q2, .slice p3 X.gold.length q3, .slice p4 X.us.length q4, .slice p5 X.qs.length q5] := by
  obtain ⟨u1, u2, u3, u4, u5, rfl, ⟨p1, q1, rfl, -⟩, ⟨p2, q2, rfl, -⟩, ⟨p3, q3, rfl, -⟩, ⟨p4, q4, rfl, -⟩, ⟨p5, q5, rfl, -⟩⟩ := h
  exact ⟨_, _, _, _, _, _, _, _, _, _, rfl⟩
theorem fl_of {w : World} {X : WV} {u1 u2 u3 u4 u5 : Value} (h : Wl w (.agg #[.int .i64 X.turn, .int .i64 X.next, .int .i64 X.wide, .int .i64 X.high, u1, u2, u3, u4, u5]) X) : Fl w (.agg #[.int .i64 X.wide, .int .i64 X.high, u1, u2]) X.wide X.high X.gs X.os :=
  ⟨u1, u2, rfl, h.slices.1, h.slices.2.1⟩
end Go.Proofs.YteieikgkmfglaaaGreatDoor

namespace Go.Proofs.YteieikgkmfglaaaGreatDoor
open Go Go.RowKit
set_option linter.unusedVariables false

section
variable {P : Program} {ops : Array Oper} {md : Region.Mode} {C : World → Prop} {Q : Exit → Act → World → Prop}

/-- the operation gives v in each of the worlds C, and turns nothing. -/
def YieldsS (P : Program) (ops : Array Oper) (C : World → Prop) (o : Oper) (v : Value) (a : Act) : Prop :=
  Region.wanted o (yielded ops a.tmps) = true ∧ ∀ W, C W → (execOp a.eval o).run P W = .ok (.value v) W
/-- the operation goes on, to a world of C. -/
def StepS (P : Program) (ops : Array Oper) (C : World → Prop) (o : Oper) (K : Act → World → Prop) (a : Act) (W : World) : Prop :=
  Region.wanted o (yielded ops a.tmps) = true ∧
   ((∃ v W', (execOp a.eval o).run P W = .ok (.value v) W' ∧ C W' ∧ K (a.put o.dst v) W') ∨ (∃ W', (execOp a.eval o).run P W = .ok .skip W' ∧ C W' ∧ K (a.put o.dst undef) W') ∨
    ∃ f args, (execOp a.eval o).run P W = .ok (.enter f args) W ∧ Calls P f args W (fun e w' => ∃ v, e = .returned v ∧ C w' ∧ K (a.put o.dst v) w'))
theorem StepS.mono {o : Oper} {K K' : Act → World → Prop} {a : Act} {W : World} (h : ∀ a W, C W → K a W → K' a W) (hh : StepS P ops C o K a W) : StepS P ops C o K' a W := by
  obtain ⟨h1, h2⟩ := hh
  refine ⟨h1, ?_⟩
  rcases h2 with ⟨v, W', e, hc, hk⟩ | ⟨W', e, hc, hk⟩ | ⟨f, args, e, hc⟩
  · exact .inl ⟨v, W', e, hc, h _ _ hc hk⟩
  · exact .inr (.inl ⟨W', e, hc, h _ _ hc hk⟩)
  · exact .inr (.inr ⟨f, args, e, hc.mono fun e w' ⟨v, he, hw, hk⟩ => ⟨v, he, hw, h _ _ hw hk⟩⟩)
theorem YieldsS.step {o : Oper} {v : Value} {K : Act → World → Prop} {a : Act} {W : World} (hy : YieldsS P ops C o v a) (hC : C W) (h : K (a.put o.dst v) W) : StepS P ops C o K a W :=
  ⟨hy.1, .inl ⟨v, W, hy.2 W hC, hC, h⟩⟩
theorem StepS.put {oi oj : Oper} {v : Value} (hap : oi.apart ops oj = true)
    (hsi : ∀ cs b, oi.op ≠ .select cs b) (hsj : ∀ cs b, oj.op ≠ .select cs b) {K : Act → World → Prop} {a : Act} {W : World}
    (hy : YieldsS P ops C oi v a) (h : StepS P ops C oj K (a.put oi.dst v) W) :
    StepS P ops C oj (fun a' w' => YieldsS P ops C oi v a' ∧ K (a'.put oi.dst v) w') a W := by
  obtain ⟨h1, h2, h3⟩ := Oper.apart_spec hap
  have keep : ∀ u, YieldsS P ops C oi v (a.put oj.dst u) := fun u => by
    unfold YieldsS at *
    rw [execOp_put oi hsi a oj.dst u h3, wanted_put oi a oj.dst u h3]
    exact hy
  unfold StepS at *
  rw [wanted_put oj a oi.dst v h1, execOp_put oj hsj a oi.dst v h1] at h
  obtain ⟨hw, h⟩ := h
  refine ⟨hw, ?_⟩
  rcases h with ⟨u, W', e, hc, hk⟩ | ⟨W', e, hc, hk⟩ | ⟨f, args, e, hc⟩
  · exact .inl ⟨u, W', e, hc, keep u, by rw [← Act.put_comm a v u h2]; exact hk⟩
  · exact .inr (.inl ⟨W', e, hc, keep _, by rw [← Act.put_comm a v _ h2]; exact hk⟩)
  · exact .inr (.inr ⟨f, args, e, hc.mono fun e w' ⟨u, he, hw, hk⟩ => ⟨u, he, hw, keep u, by rw [← Act.put_comm a v u h2]; exact hk⟩⟩)
def wpAnyS (P : Program) (md : Region.Mode) (ops : Array Oper) (C : World → Prop) (Q : Exit → Act → World → Prop) : Nat → Array Bool → Act → World → Prop
  | 0, listed, a, W => Region.ready md ops listed = [] ∧ Q .normal a W
  | f + 1, listed, a, W => Region.ready md ops listed ≠ [] ∧ ∀ i ∈ Region.ready md ops listed, ∃ o, ops[i]? = some o ∧ StepS P ops C o (wpAnyS P md ops C Q f (listed.setIfInBounds i true)) a W
theorem wpAny_of_S : ∀ (f : Nat) (listed : Array Bool) (a : Act) (W : World), wpAnyS P md ops C Q f listed a W → wpAny P md ops Q f listed a W
  | 0, listed, a, W, h => h
  | f + 1, listed, a, W, h => by
    refine ⟨fun h0 => absurd h0 h.1, fun i hi => ?_⟩
    obtain ⟨o, ho, hs⟩ := h.2 i hi
    unfold wpOp
    simp only [ho]
    obtain ⟨hw, hs⟩ := hs
    rw [if_pos hw]
    refine .inl ?_
    unfold Oper.wp
    rcases hs with ⟨v, W', e, -, hk⟩ | ⟨W', e, -, hk⟩ | ⟨g, args, e, hc⟩
    · rw [e]; exact wpAny_of_S f _ _ _ hk
    · rw [e]; exact wpAny_of_S f _ _ _ hk
    · rw [e]
      exact hc.mono fun e w' ⟨v, he, _, hk⟩ => by subst he; exact wpAny_of_S f _ _ _ hk
theorem wpAnyS_first {i : Nat} {oi : Oper} {v : Value} (hi : ops[i]? = some oi) (hsel : ∀ (j : Nat) (o : Oper) cs b, ops[j]? = some o → o.op ≠ .select cs b) :
    ∀ (f : Nat) (listed : Array Bool) (a : Act) (W : World),
      (∀ j oj, ops[j]? = some oj → j ≠ i → listed.getD j true = false → (∀ e ∈ oj.after, Region.binds md e = true → e.on ≠ i) → oi.apart ops oj = true) →
      i ∈ Region.ready md ops listed → YieldsS P ops C oi v a → C W →
      wpAnyS P md ops C Q f (listed.setIfInBounds i true) (a.put oi.dst v) W → wpAnyS P md ops C Q (f + 1) listed a W := by
  intro f
  induction f with
  | zero =>
    intro listed a W _ hr hy hC H
    refine ⟨fun h => (by rw [h] at hr; cases hr), fun j hj => ?_⟩
    by_cases hji : j = i
    · subst hji; exact ⟨oi, hi, hy.step hC H⟩
    · have := ready_mono hj hji
      rw [H.1] at this
      cases this
  | succ f ih =>
    intro listed a W hfree hr hy hC H
    refine ⟨fun h => (by rw [h] at hr; cases hr), fun j hj => ?_⟩
    by_cases hji : j = i
    · subst hji; exact ⟨oi, hi, hy.step hC H⟩
    · obtain ⟨o', ho', h1⟩ := H.2 j (ready_mono hj hji)
      obtain ⟨hjun, oj, hoj, hall⟩ := mem_ready.1 hj
      obtain rfl : o' = oj := Option.some.inj (ho'.symm.trans hoj)
      have hnot : ∀ e ∈ o'.after, Region.binds md e = true → e.on ≠ i := fun e he hb heq => by
        have h1 := hall e he hb
        have h0 := (mem_ready.1 hr).1
        rw [heq, getD_both h0] at h1
        cases h1
      have h2 := StepS.put (hfree j o' hoj hji hjun hnot) (fun cs b => hsel i oi cs b hi) (fun cs b => hsel j o' cs b hoj) hy h1
      have hfree' : ∀ k ok, ops[k]? = some ok → k ≠ i → (listed.setIfInBounds j true).getD k true = false →
          (∀ e ∈ ok.after, Region.binds md e = true → e.on ≠ i) → oi.apart ops ok = true := fun k ok hk hki hun hno => by
        refine hfree k ok hk hki ?_ hno
        by_cases hjk : j = k
        · subst hjk; exact hjun
        · rw [getD_set_ne true hjk] at hun; exact hun
      refine ⟨o', hoj, h2.mono fun a' W' hC' h3 => ih (listed.setIfInBounds j true) a' W' hfree' (ready_mono hr (Ne.symm hji)) h3.1 hC' ?_⟩
      rw [Array.setIfInBounds_comm _ _ hji]
      exact h3.2
/-- an order of one's own: those marked true read, and may come at any time; of the others each is the only one that may come. -/
def wpSched (P : Program) (ops : Array Oper) (C : World → Prop) (Q : Exit → Act → World → Prop) : List (Bool × Nat) → Act → World → Prop
  | [], a, W => Q .normal a W
  | (true, i) :: r, a, W => ∃ o v, ops[i]? = some o ∧ YieldsS P ops C o v a ∧ wpSched P ops C Q r (a.put o.dst v) W
  | (false, i) :: r, a, W => ∃ o, ops[i]? = some o ∧ StepS P ops C o (wpSched P ops C Q r) a W
def schedB (md : Region.Mode) (ops : Array Oper) : List (Bool × Nat) → Array Bool → Bool
  | [], listed => (Region.ready md ops listed).isEmpty
  | (true, i) :: r, listed => (Region.ready md ops listed).contains i && (Region.free md ops listed i && schedB md ops r (listed.setIfInBounds i true))
  | (false, i) :: r, listed => decide (Region.ready md ops listed = [i]) && schedB md ops r (listed.setIfInBounds i true)
theorem wpAnyS_of_sched (hsel : Region.noSelect ops = true) : ∀ (s : List (Bool × Nat)) (listed : Array Bool) (a : Act) (W : World), schedB md ops s listed = true → C W → wpSched P ops C Q s a W → wpAnyS P md ops C Q s.length listed a W
  | [], listed, a, W, hB, hC, h => ⟨by simpa [schedB] using hB, h⟩
  | (true, i) :: r, listed, a, W, hB, hC, h => by
    simp only [schedB, Bool.and_eq_true] at hB
    obtain ⟨hr, hf, hB⟩ := hB
    obtain ⟨o, v, ho, hy, hk⟩ := h
    have hr' : i ∈ Region.ready md ops listed := by simpa using hr
    exact wpAnyS_first ho (Region.noSelect_spec hsel) r.length listed a W (Region.free_spec ho hf) hr' hy hC (wpAnyS_of_sched hsel r _ _ _ hB hC hk)
  | (false, i) :: r, listed, a, W, hB, hC, h => by
    simp only [schedB, Bool.and_eq_true, decide_eq_true_eq] at hB
    obtain ⟨hr, hB⟩ := hB
    obtain ⟨o, ho, hs⟩ := h
    refine ⟨fun h => (by rw [hr] at h; cases h), fun j hj => ?_⟩
    rw [hr] at hj
    obtain rfl : j = i := by simpa using hj
    exact ⟨o, ho, hs.mono fun a' W' hC' hk => wpAnyS_of_sched hsel r _ _ _ hB hC' hk⟩
theorem wp_region_sched {id : Nat} {a : Act} {w : World} (s : List (Bool × Nat)) (C : World → Prop) (hm : P.follows .mixedOrders = true) (hs : Region.noSelect ops = true) (hl : s.length = ops.size) (hB : schedB .any ops s (Array.replicate ops.size false) = true)
    (hC : C { w with drawn := w.drawn + 1 }) (h : wpSched P ops C Q s a { w with drawn := w.drawn + 1 }) : (Code.region id ops true).wp P Q a w := by
  refine wp_region_any hm ?_
  rw [← hl]
  exact wpAny_of_S _ _ _ _ (wpAnyS_of_sched hs s _ a _ (by rw [hl]; exact hB) hC h)
theorem sched_read {i : Nat} {r : List (Bool × Nat)} {o : Oper} {a : Act} {W : World} (ho : ops[i]? = some o) (v : Value) (hw : Region.wanted o (yielded ops a.tmps) = true) (hr : ∀ W, C W → (execOp a.eval o).run P W = .ok (.value v) W) (h : wpSched P ops C Q r (a.put o.dst v) W) : wpSched P ops C Q ((true, i) :: r) a W :=
  ⟨o, v, ho, ⟨hw, hr⟩, h⟩
theorem sched_call {i : Nat} {r : List (Bool × Nat)} {o : Oper} {a : Act} {W : World} (ho : ops[i]? = some o) (f : FuncId) (args : Array Value) (hw : Region.wanted o (yielded ops a.tmps) = true) (hr : (execOp a.eval o).run P W = .ok (.enter f args) W)
    (hc : Calls P f args W (fun e w' => ∃ v, e = .returned v ∧ C w' ∧ wpSched P ops C Q r (a.put o.dst v) w')) : wpSched P ops C Q ((false, i) :: r) a W :=
  ⟨o, ho, hw, .inr (.inr ⟨f, args, hr, hc⟩)⟩
theorem sched_value {i : Nat} {r : List (Bool × Nat)} {o : Oper} {a : Act} {W : World} (ho : ops[i]? = some o) (v : Value) (W' : World) (hw : Region.wanted o (yielded ops a.tmps) = true) (hr : (execOp a.eval o).run P W = .ok (.value v) W') (hC : C W') (h : wpSched P ops C Q r (a.put o.dst v) W') : wpSched P ops C Q ((false, i) :: r) a W :=
  ⟨o, ho, hw, .inl ⟨v, W', hr, hC, h⟩⟩
theorem sched_skip {i : Nat} {r : List (Bool × Nat)} {o : Oper} {a : Act} {W : World} (ho : ops[i]? = some o) (W' : World) (hw : Region.wanted o (yielded ops a.tmps) = true) (hr : (execOp a.eval o).run P W = .ok .skip W') (hC : C W') (h : wpSched P ops C Q r (a.put o.dst undef) W') : wpSched P ops C Q ((false, i) :: r) a W :=
  ⟨o, ho, hw, .inr (.inl ⟨W', hr, hC, h⟩)⟩
end
end Go.Proofs.YteieikgkmfglaaaGreatDoor

namespace Go.Proofs.YteieikgkmfglaaaGreatDoor
open Go Go.RowKit
set_option linter.unusedVariables false

section
variable {P : Program} {ops : Array Oper} {md : Region.Mode} {C : World → Prop} {Q : Exit → Act → World → Prop} {L : Array Bool → Act → World → Prop}

def wpAnyT (P : Program) (md : Region.Mode) (ops : Array Oper) (C : World → Prop) (L : Array Bool → Act → World → Prop) : Nat → Array Bool → Act → World → Prop
  | 0, listed, a, W => L listed a W
  | f + 1, listed, a, W => Region.ready md ops listed ≠ [] ∧ ∀ i ∈ Region.ready md ops listed, ∃ o, ops[i]? = some o ∧ StepS P ops C o (wpAnyT P md ops C L f (listed.setIfInBounds i true)) a W
theorem wpAny_of_T {g : Nat} (hL : ∀ listed a W, L listed a W → wpAny P md ops Q g listed a W) : ∀ (f : Nat) (listed : Array Bool) (a : Act) (W : World), wpAnyT P md ops C L f listed a W → wpAny P md ops Q (f + g) listed a W
  | 0, listed, a, W, h => by rw [Nat.zero_add]; exact hL _ _ _ h
  | f + 1, listed, a, W, h => by
    rw [show f + 1 + g = (f + g) + 1 by omega]
    refine ⟨fun h0 => absurd h0 h.1, fun i hi => ?_⟩
    obtain ⟨o, ho, hs⟩ := h.2 i hi
    unfold wpOp
    simp only [ho]
    obtain ⟨hw, hs⟩ := hs
    rw [if_pos hw]
    refine .inl ?_
    unfold Oper.wp
    rcases hs with ⟨v, W', e, -, hk⟩ | ⟨W', e, -, hk⟩ | ⟨k, args, e, hc⟩
    · rw [e]; exact wpAny_of_T hL f _ _ _ hk
    · rw [e]; exact wpAny_of_T hL f _ _ _ hk
    · rw [e]
      exact hc.mono fun e w' ⟨v, he, _, hk⟩ => by subst he; exact wpAny_of_T hL f _ _ _ hk
theorem unset_of {l H : Array Bool} {i : Nat} (h0 : l.getD i true = false) (e : l.setIfInBounds i true = H) : l = H.setIfInBounds i false := by
  subst e
  apply Array.ext_getElem?
  intro k
  by_cases hk : i = k
  · subst hk
    rcases Nat.lt_or_ge i l.size with hl | hl
    · simp [Array.getD, hl] at h0
      simp [hl, h0]
    · simp [Array.getD, Nat.not_lt.2 hl] at h0
  · simp [hk]
/-- what is listed has all that it waits for. -/
def Clos (md : Region.Mode) (ops : Array Oper) (listed : Array Bool) : Prop := ∀ (j : Nat) (oj : Oper), ops[j]? = some oj → listed.getD j false = true → ∀ e ∈ oj.after, Region.binds md e = true → listed.getD e.on false = true
theorem Clos.set {i : Nat} {listed : Array Bool} (inv : Clos md ops listed) (hi : i ∈ Region.ready md ops listed) : Clos md ops (listed.setIfInBounds i true) := by
  obtain ⟨_, oi, hoi, hall⟩ := mem_ready.1 hi
  intro j oj hj hl e he hb
  by_cases hij : i = j
  · subst hij
    have : oj = oi := Option.some.inj (hj.symm.trans hoi)
    subst this
    exact getD_set_true (hall e he hb)
  · rw [getD_set_ne false hij] at hl
    exact getD_set_true (inv j oj hj hl e he hb)
/-- one that is listed waits for i. -/
def waits (md : Region.Mode) (ops : Array Oper) (H0 : Array Bool) (i : Nat) : Bool := (List.range ops.size).any fun j => H0.getD j false && (decide (j ≠ i) && match ops[j]? with | some o => o.after.any fun e => Region.binds md e && decide (e.on = i) | none => false)
theorem waits_spec {H0 : Array Bool} {i : Nat} (h : waits md ops H0 i = true) : ∃ j o, ops[j]? = some o ∧ j ≠ i ∧ H0.getD j false = true ∧ ∃ e ∈ o.after, Region.binds md e = true ∧ e.on = i := by
  unfold waits at h
  obtain ⟨j, -, hj⟩ := List.any_eq_true.1 h
  simp only [Bool.and_eq_true, decide_eq_true_eq] at hj
  obtain ⟨h1, h2, h3⟩ := hj
  cases ho : ops[j]? with
  | none => rw [ho] at h3; cases h3
  | some o =>
    rw [ho] at h3
    obtain ⟨k, hk, he⟩ := Array.any_eq_true.1 h3
    simp only [Bool.and_eq_true, decide_eq_true_eq] at he
    exact ⟨j, o, ho, h2, h1, o.after[k], Array.getElem_mem hk, he.1, he.2⟩
theorem wpAnyT_first {i : Nat} {oi : Oper} {v : Value} {H0 : Array Bool} (hi : ops[i]? = some oi) (hsel : ∀ (j : Nat) (o : Oper) cs b, ops[j]? = some o → o.op ≠ .select cs b)
    (hH : waits md ops H0 i = true ∨ Region.ready md ops (H0.setIfInBounds i false) = [i]) (hLH : ∀ listed a W, L listed a W → listed = H0) :
    ∀ (f : Nat) (listed : Array Bool) (a : Act) (W : World), Clos md ops listed →
      (∀ j oj, ops[j]? = some oj → j ≠ i → listed.getD j true = false → (∀ e ∈ oj.after, Region.binds md e = true → e.on ≠ i) → oi.apart ops oj = true) →
      i ∈ Region.ready md ops listed → YieldsS P ops C oi v a → C W →
      wpAnyT P md ops C L f (listed.setIfInBounds i true) (a.put oi.dst v) W → wpAnyT P md ops C L (f + 1) listed a W := by
  intro f
  induction f with
  | zero =>
    intro listed a W inv _ hr hy hC H
    refine ⟨fun h => (by rw [h] at hr; cases hr), fun j hj => ?_⟩
    by_cases hji : j = i
    · subst hji; exact ⟨oi, hi, hy.step hC H⟩
    · rcases hH with hH | hH
      · obtain ⟨k, ok, hk, hki, hkl, e, he, hb, heq⟩ := waits_spec hH
        rw [← hLH _ _ _ H, getD_set_ne false (Ne.symm hki)] at hkl
        have h1 := inv k ok hk hkl e he hb
        rw [heq, getD_both (mem_ready.1 hr).1] at h1
        cases h1
      · have e := unset_of (mem_ready.1 hr).1 (hLH _ _ _ H)
        rw [e, hH] at hj
        exact absurd (by simpa using hj) hji
  | succ f ih =>
    intro listed a W inv hfree hr hy hC H
    refine ⟨fun h => (by rw [h] at hr; cases hr), fun j hj => ?_⟩
    by_cases hji : j = i
    · subst hji; exact ⟨oi, hi, hy.step hC H⟩
    · obtain ⟨o', ho', h1⟩ := H.2 j (ready_mono hj hji)
      obtain ⟨hjun, oj, hoj, hall⟩ := mem_ready.1 hj
      obtain rfl : o' = oj := Option.some.inj (ho'.symm.trans hoj)
      have hnot : ∀ e ∈ o'.after, Region.binds md e = true → e.on ≠ i := fun e he hb heq => by
        have h1 := hall e he hb
        have h0 := (mem_ready.1 hr).1
        rw [heq, getD_both h0] at h1
        cases h1
      have h2 := StepS.put (hfree j o' hoj hji hjun hnot) (fun cs b => hsel i oi cs b hi) (fun cs b => hsel j o' cs b hoj) hy h1
      have hfree' : ∀ k ok, ops[k]? = some ok → k ≠ i → (listed.setIfInBounds j true).getD k true = false →
          (∀ e ∈ ok.after, Region.binds md e = true → e.on ≠ i) → oi.apart ops ok = true := fun k ok hk hki hun hno => by
        refine hfree k ok hk hki ?_ hno
        by_cases hjk : j = k
        · subst hjk; exact hjun
        · rw [getD_set_ne true hjk] at hun; exact hun
      refine ⟨o', hoj, h2.mono fun a' W' hC' h3 => ih (listed.setIfInBounds j true) a' W' (inv.set hj) hfree' (ready_mono hr (Ne.symm hji)) h3.1 hC' ?_⟩
      rw [Array.setIfInBounds_comm _ _ hji]
      exact h3.2
/-- the head, in an order of one's own; K behind it. -/
def wpHeadT (P : Program) (ops : Array Oper) (C : World → Prop) (K : Act → World → Prop) : List (Bool × Nat) → Act → World → Prop
  | [], a, W => K a W
  | (true, i) :: r, a, W => ∃ o v, ops[i]? = some o ∧ YieldsS P ops C o v a ∧ wpHeadT P ops C K r (a.put o.dst v) W
  | (false, i) :: r, a, W => ∃ o, ops[i]? = some o ∧ StepS P ops C o (wpHeadT P ops C K r) a W
def headB (md : Region.Mode) (ops : Array Oper) (H0 : Array Bool) : List (Bool × Nat) → Array Bool → Bool
  | [], listed => decide (listed = H0)
  | (true, i) :: r, listed => (Region.ready md ops listed).contains i && (Region.free md ops listed i && ((waits md ops H0 i || decide (Region.ready md ops (H0.setIfInBounds i false) = [i])) && headB md ops H0 r (listed.setIfInBounds i true)))
  | (false, i) :: r, listed => decide (Region.ready md ops listed = [i]) && headB md ops H0 r (listed.setIfInBounds i true)
theorem wpAnyT_of_head {K : Act → World → Prop} {H0 : Array Bool} (hsel : Region.noSelect ops = true) : ∀ (s : List (Bool × Nat)) (listed : Array Bool) (a : Act) (W : World), Clos md ops listed → headB md ops H0 s listed = true → C W → wpHeadT P ops C K s a W → wpAnyT P md ops C (fun l a W => l = H0 ∧ K a W) s.length listed a W
  | [], listed, a, W, inv, hB, hC, h => ⟨of_decide_eq_true hB, h⟩
  | (true, i) :: r, listed, a, W, inv, hB, hC, h => by
    simp only [headB, Bool.and_eq_true, Bool.or_eq_true, decide_eq_true_eq] at hB
    obtain ⟨hr, hf, hH, hB⟩ := hB
    obtain ⟨o, v, ho, hy, hk⟩ := h
    have hr' : i ∈ Region.ready md ops listed := by simpa using hr
    exact wpAnyT_first ho (Region.noSelect_spec hsel) hH (fun _ _ _ h => h.1) r.length listed a W inv (Region.free_spec ho hf) hr' hy hC (wpAnyT_of_head hsel r _ _ _ (inv.set hr') hB hC hk)
  | (false, i) :: r, listed, a, W, inv, hB, hC, h => by
    simp only [headB, Bool.and_eq_true, decide_eq_true_eq] at hB
    obtain ⟨hr, hB⟩ := hB
    obtain ⟨o, ho, hs⟩ := h
    refine ⟨fun h => (by rw [hr] at h; cases h), fun j hj => ?_⟩
    have hr' : i ∈ Region.ready md ops listed := by rw [hr]; simp
    rw [hr] at hj
    obtain rfl : j = i := by simpa using hj
    exact ⟨o, ho, hs.mono fun a' W' hC' hk => wpAnyT_of_head hsel r _ _ _ (inv.set hr') hB hC' hk⟩
def listedBy (n : Nat) (s : List (Bool × Nat)) : Array Bool := s.foldl (fun l p => l.setIfInBounds p.2 true) (Array.replicate n false)
/-- the region: its head s, in the worlds C; its tail t. -/
theorem wp_region_two {id : Nat} {a : Act} {w : World} (s t : List (Bool × Nat)) (C : World → Prop) (hm : P.follows .mixedOrders = true) (hs : Region.noSelect ops = true) (hl : s.length + t.length = ops.size) (hB : headB .any ops (listedBy ops.size s) s (Array.replicate ops.size false) = true)
    (hT : schedB .any ops t (listedBy ops.size s) = true)
    (hC : C { w with drawn := w.drawn + 1 }) (h : wpHeadT P ops C (wpSched P ops (fun _ => True) Q t) s a { w with drawn := w.drawn + 1 }) : (Code.region id ops true).wp P Q a w := by
  refine wp_region_any hm ?_
  rw [← hl]
  refine wpAny_of_T (g := t.length) (fun listed a W hh => ?_) _ _ _ _ (wpAnyT_of_head (H0 := listedBy ops.size s) hs s _ a _ (fun j oj _ hj => by rw [getD_replicate_false] at hj; cases hj) (by rw [hl]; exact hB) hC h)
  obtain ⟨rfl, hk⟩ := hh
  exact wpAny_of_S _ _ _ _ (wpAnyS_of_sched hs t _ a W hT trivial hk)
theorem headT_read {K : Act → World → Prop} {i : Nat} {r : List (Bool × Nat)} {o : Oper} {a : Act} {W : World} (ho : ops[i]? = some o) (v : Value) (hw : Region.wanted o (yielded ops a.tmps) = true) (hr : ∀ W, C W → (execOp a.eval o).run P W = .ok (.value v) W) (h : wpHeadT P ops C K r (a.put o.dst v) W) : wpHeadT P ops C K ((true, i) :: r) a W :=
  ⟨o, v, ho, ⟨hw, hr⟩, h⟩
theorem headT_call {K : Act → World → Prop} {i : Nat} {r : List (Bool × Nat)} {o : Oper} {a : Act} {W : World} (ho : ops[i]? = some o) (f : FuncId) (args : Array Value) (hw : Region.wanted o (yielded ops a.tmps) = true) (hr : (execOp a.eval o).run P W = .ok (.enter f args) W)
    (hc : Calls P f args W (fun e w' => ∃ v, e = .returned v ∧ C w' ∧ wpHeadT P ops C K r (a.put o.dst v) w')) : wpHeadT P ops C K ((false, i) :: r) a W :=
  ⟨o, ho, hw, .inr (.inr ⟨f, args, hr, hc⟩)⟩
theorem exec_append {o : Oper} {a : Act} {w w' : World} {v' : Value} (s x : Operand) (t tx : TypeId) (ho : o.op = .call { callee := .builtin .append, args := #[s, x], argTypes := #[t, tx] }) (v xv : Value) (hs : a.eval s = v) (hx : a.eval x = xv)
    (hr : (Builtin.append_ #[t, tx] o.type #[v, xv]).run P w = .ok v' w') : (execOp a.eval o).run P w = .ok (.value v') w' := by
  unfold execOp
  simp only [ho, resolve, invoke, builtin, Sem.run_bind, Sem.run_pure, Result.andThen_ok, List.map_toArray, List.map_cons, List.map_nil, hs, hx, hr]
theorem headT_value {K : Act → World → Prop} {i : Nat} {r : List (Bool × Nat)} {o : Oper} {a : Act} {W : World} (ho : ops[i]? = some o) (v : Value) (W' : World) (hw : Region.wanted o (yielded ops a.tmps) = true) (hr : (execOp a.eval o).run P W = .ok (.value v) W') (hC : C W') (h : wpHeadT P ops C K r (a.put o.dst v) W') : wpHeadT P ops C K ((false, i) :: r) a W :=
  ⟨o, ho, hw, .inl ⟨v, W', hr, hC, h⟩⟩
end
end Go.Proofs.YteieikgkmfglaaaGreatDoor

