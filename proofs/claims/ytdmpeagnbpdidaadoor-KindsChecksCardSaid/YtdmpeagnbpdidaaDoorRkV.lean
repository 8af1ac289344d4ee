/- The reference: what units are worth. -/
import Derived.Test.YtdmpeagnbpdidaaDoorRkL
import Derived.Test.YtdmpeagnbpdidaaDoorKwC
import Derived.StillTailTactics
namespace Go.Proofs.YtdmpeagnbpdidaaDoor
open Go.RowKit
set_option linter.unusedVariables false

theorem any_next_bad {ks : List KV} {us : List UnV} {n : Nat} {u : UnV} (h : us[n]? = some u) : (us.take (n + 1)).any (unBad ks) = ((us.take n).any (unBad ks) || unBad ks u) := by
  obtain ⟨hi, e⟩ := List.getElem?_eq_some_iff.1 h
  rw [List.take_succ_eq_append_getElem hi, List.any_append, e]
  simp
theorem worthOf_take {ks : List KV} {us : List UnV} {n : Nat} (h : (us.take n).any (unBad ks) = false) (hk : ∀ k ∈ ks, 0 ≤ k.n5 ∧ k.n5 ≤ 1000 ∧ 0 < k.n0) (hn : n ≤ us.length) (j : Int) : 0 ≤ worthOf ks (us.take n) j ∧ worthOf ks (us.take n) j ≤ 1000 * n := by
  have := worthOf_bound hk h j n (by rw [List.length_take]; omega)
  rwa [List.take_take, Nat.min_self] at this

/-- what the reference says of some units. -/
def RefW (R : Int) (ks : List KV) (us : List UnV) (w : World) (r : Value) (n : Int) : Prop :=
  (R ≠ 0 ∧ Ro w r [] ∧ n = R) ∨ (R = 0 ∧ 40 < us.length ∧ Ro w r [] ∧ n = 4) ∨ (R = 0 ∧ us.length ≤ 40 ∧ us.any (unBad ks) = true ∧ Ro w r [] ∧ n = 1) ∨ (R = 0 ∧ us.length ≤ 40 ∧ us.any (unBad ks) = false ∧ Ro w r (worths ks us) ∧ n = 0)

set_option maxRecDepth 100000 in
set_option maxHeartbeats 16000000 in
theorem ref_worth (v : Value) (ks : List KV) (y : Value) (us : List UnV) (w : World) (h : Kl w v ks) (hb : ∀ k ∈ ks, k.b.size ≤ 9223372036854775807) (hu : Unl w y us) :
    Calls Tryd.prog 11 #[v, y] w fun e w' => ∃ (r : Value) (n : Int), e = .returned (.tuple #[r, .int .i64 n]) ∧ Below w.heap.size w w' ∧ RefW (Kd.kindsFault (ks.map KV.k)) ks us w' r n := by
  have K0 : Hid (Kl w v ks) := h
  have U0 : Hid (Unl w y us) := hu
  have CA : Hid (Calls Tryd.prog 5 #[v] w fun e w' => e = .returned (.int .i64 (Kd.kindsFault (ks.map KV.k))) ∧ Below w.heap.size w w') := ref_kinds v ks w h hb
  have KR : Hid (Kd.kindsFault (ks.map KV.k) = 0 → ks.length ≤ 8 ∧ ∀ k ∈ ks, 0 ≤ k.n5 ∧ k.n5 ≤ 1000 ∧ 0 < k.n0 ∧ k.n0 ≤ 1000) := kinds_right
  generalize Kd.kindsFault (ks.map KV.k) = R at *
  have RN : Hid (∀ W : World, Ro W (.slice none 0 0) []) := fun W => ⟨none, 0, rfl, Nat.le_refl _, by omega, fun h => absurd rfl h⟩
  clear hb
  obtain ⟨a, c, rfl, c1, c2, -⟩ := h
  obtain ⟨au, cu, rfl, cu1, cu2, -⟩ := hu
  go_enter Tryd.func11, Tryd.ntmps11
  go_wp2_with fail
  refine CA.out.mono ?_
  rintro e w2 ⟨rfl, b1⟩
  have B2 : Hid (Below w.heap.size w w2) := b1
  clear CA b1
  by_cases h0 : R = 0
  · have H0 : Hid (R = 0) := h0
    rw [h0]
    clear h0
    by_cases h40 : 40 < us.length
    · have h40' : (40 : Int) < (us.length : Int) := by omega
      go_wp2
      go_ret2
      exact ⟨_, _, rfl, B2, .inr (.inl ⟨H0, h40, RN.out _, rfl⟩)⟩
    · have h40' : ¬ (40 : Int) < (us.length : Int) := by omega
      have hl40 : us.length ≤ 40 := by omega
      have KR2 : Hid (ks.length ≤ 8 ∧ ∀ k ∈ ks, 0 ≤ k.n5 ∧ k.n5 ≤ 1000 ∧ 0 < k.n0 ∧ k.n0 ≤ 1000) := KR.out H0.out
      have hm := makeI4 w2
      have hl0 : w.heap.size ≤ w2.heap.size := B2.out.size
      have BB : Hid (Below w2.heap.size w2 (w2.alloc (Obj.cells #[.int .i64 0, .int .i64 0, .int .i64 0, .int .i64 0] 3))) := (Below.refl _ _).alloc (Nat.le_refl _) _
      have BK : Hid (Bk (w2.alloc (Obj.cells #[.int .i64 0, .int .i64 0, .int .i64 0, .int .i64 0] 3)) w2.heap.size (worths ks []) #[]) := by
        unfold Hid Bk
        rw [World.alloc_heap_new]
        rfl
      clear KR
      go_wp2_with fail
      go_loopw [8] (fun j W' => ∃ n : Nat, n ≤ us.length ∧ j = .int .i64 (n : Nat) ∧ (us.take n).any (unBad ks) = false ∧ Bk W' w2.heap.size (worths ks (us.take n)) #[] ∧ Below w2.heap.size w2 W') (fun j _ => us.length - (intOf j).toNat)
      case atStart => exact ⟨0, Nat.zero_le _, rfl, by simp, BK, BB⟩
      case round =>
        obtain ⟨n, hn, rfl, han, hbk, hbb⟩ := hrel
        have An : Hid ((us.take n).any (unBad ks) = false) := han
        have Bk1 : Hid (Bk wr w2.heap.size (worths ks (us.take n)) #[]) := hbk
        have Bb1 : Hid (Below w2.heap.size w2 wr) := hbb
        have Bw : Hid (Below w.heap.size w wr) := B2.out.trans (hbb.mono hl0)
        clear hbk hbb han
        by_cases hne : n = us.length
        · subst hne
          go_wp2
          go_ret2
          have HA : us.any (unBad ks) = false := by have := An.out; rwa [List.take_of_length_le (Nat.le_refl _)] at this
          refine ⟨_, _, rfl, Bw, .inr (.inr (.inr ⟨H0, hl40, HA, ?_, rfl⟩))⟩
          have := Bk1.out.ro (c := 4) (by simp [worths]) (by omega)
          rw [List.take_of_length_le (Nat.le_refl _)] at this
          exact this
        · have hnl : n < us.length := by omega
          have hnl' : (n : Int) < (us.length : Int) := by omega
          obtain ⟨u, hu⟩ : ∃ u, us[n]? = some u := ⟨_, List.getElem?_eq_getElem hnl⟩
          have A2 : Hid ((us.take (n + 1)).any (unBad ks) = unBad ks u) := by
            unfold Hid
            rw [any_next_bad hu, An.out]
            rfl
          have AT : Hid (unBad ks u = true → us.any (unBad ks) = true) := fun h => List.any_eq_true.2 ⟨u, List.mem_of_getElem? hu, h⟩
          have Uc := U0.out.below Bw.out
          obtain ⟨au', cu', e, -, -, hux⟩ := Uc
          injection e with e1 e2 e3
          subst e1 e3
          obtain ⟨xu, rfl, hxu1, hxu⟩ := hux (by rintro rfl; simp at hnl)
          have UC := hxu n u hu
          have Hu : Hid (us[n]? = some u) := hu
          obtain ⟨u0, u1, u2, u3, u4, u5, u6, u7⟩ := UC
          have Hs1 : Hid (w2.heap.size < wr.heap.size) := Bk1.out.lt
          clear hux hxu hu e2 hxu1
          obtain ⟨id, player, kind, at_, life, load, task, goal⟩ := u
          simp only at u0 u1 u2 u3 u4 u5 u6 u7
          go_upto_region 11 with fail
          have b3 : Below wr.heap.size wr (wr.alloc (Obj.cells #[.int .i64 id, .int .i64 player, .int .i64 kind, .int .i64 at_, .int .i64 life, .int .i64 load, .int .i64 task, .int .i64 goal] 62)) := (Below.refl _ _).alloc (Nat.le_refl _) _
          have X3 := Unc.mk' (w := wr) ⟨id, player, kind, at_, life, load, task, goal⟩ rfl
          simp only at X3
          clear u0 u1 u2 u3 u4 u5 u6 u7
          generalize wr.alloc (Obj.cells #[.int .i64 id, .int .i64 player, .int .i64 kind, .int .i64 at_, .int .i64 life, .int .i64 load, .int .i64 task, .int .i64 goal] 62) = w3 at *
          have B3 : Hid (Below wr.heap.size wr w3) := b3
          have Bw3 : Hid (Below w.heap.size w w3) := Bw.out.trans (b3.mono Bw.out.size)
          have x1 : w3.cell? ⟨wr.heap.size, 1, none⟩ = some (.int .i64 player) := X3.c1
          have x2 : w3.cell? ⟨wr.heap.size, 2, none⟩ = some (.int .i64 kind) := X3.c2
          have x4 : w3.cell? ⟨wr.heap.size, 4, none⟩ = some (.int .i64 life) := X3.c4
          have Bk3 : Hid (Bk w3 w2.heap.size (worths ks (us.take n)) #[]) := Bk1.out.low b3 Hs1.out
          have Bb3 : Hid (Below w2.heap.size w2 w3) := Bb1.out.trans (b3.mono Bb1.out.size)
          clear X3 b3
          by_cases h1 : player < 0
          · have E : Hid (unBad ks ⟨id, player, kind, at_, life, load, task, goal⟩ = true) := by
              unfold Hid unBad
              split
              · rfl
              · exact decide_eq_true (by simp only; omega)
            go_quiet (fail)
            go_wp2
            go_ret2
            exact ⟨_, _, rfl, bdn Bw3.out _, .inr (.inr (.inl ⟨H0, hl40, AT.out E.out, RN.out _, rfl⟩))⟩
          · by_cases h2 : 3 < player
            · have E : Hid (unBad ks ⟨id, player, kind, at_, life, load, task, goal⟩ = true) := by
                unfold Hid unBad
                split
                · rfl
                · exact decide_eq_true (by simp only; omega)
              go_quiet (fail)
              go_wp2
              go_ret2
              exact ⟨_, _, rfl, bdn Bw3.out _, .inr (.inr (.inl ⟨H0, hl40, AT.out E.out, RN.out _, rfl⟩))⟩
            · by_cases h3 : kind < 0
              · have E : Hid (unBad ks ⟨id, player, kind, at_, life, load, task, goal⟩ = true) := by
                  unfold Hid unBad
                  rw [show kindAt ks kind = none by unfold kindAt; rw [if_pos h3]]
                go_quiet (fail)
                go_wp2
                go_ret2
                exact ⟨_, _, rfl, bdn Bw3.out _, .inr (.inr (.inl ⟨H0, hl40, AT.out E.out, RN.out _, rfl⟩))⟩
              · by_cases h4 : (ks.length : Int) ≤ kind
                · have E : Hid (unBad ks ⟨id, player, kind, at_, life, load, task, goal⟩ = true) := by
                    unfold Hid unBad
                    rw [show kindAt ks kind = none by unfold kindAt; rw [if_neg h3]; exact List.getElem?_eq_none (by omega)]
                  go_quiet (fail)
                  go_wp2
                  go_ret2
                  exact ⟨_, _, rfl, bdn Bw3.out _, .inr (.inr (.inl ⟨H0, hl40, AT.out E.out, RN.out _, rfl⟩))⟩
                · by_cases h5 : life < 0
                  · have E : Hid (unBad ks ⟨id, player, kind, at_, life, load, task, goal⟩ = true) := by
                      unfold Hid unBad
                      split
                      · rfl
                      · exact decide_eq_true (by simp only; omega)
                    go_quiet (fail)
                    go_wp2
                    go_ret2
                    exact ⟨_, _, rfl, bdn Bw3.out _, .inr (.inr (.inl ⟨H0, hl40, AT.out E.out, RN.out _, rfl⟩))⟩
                  · obtain ⟨i, rfl⟩ : ∃ i : Nat, kind = i := ⟨kind.toNat, by omega⟩
                    have hil : i < ks.length := by omega
                    have hil' : (i : Int) < (ks.length : Int) := by omega
                    obtain ⟨k, hk⟩ : ∃ k, ks[i]? = some k := ⟨_, List.getElem?_eq_getElem hil⟩
                    have Kk := K0.out.below Bw3.out
                    obtain ⟨a', c', e, -, -, hkx⟩ := Kk
                    injection e with e1 e2 e3
                    subst e1 e3
                    obtain ⟨xk, rfl, hxk1, hxk⟩ := hkx (by rintro rfl; simp at hil)
                    have KC := hxk i k hk
                    have k1 : w3.cell? ⟨(xk.add (i * 11)).block, (xk.add (i * 11)).off + 1, none⟩ = some (.int .i64 k.n0) := KC.c1
                    have KC' : Hid (Kc w3 (xk.add (i * 11)) k) := KC
                    have Hk : Hid (ks[i]? = some k) := hk
                    clear hkx hxk KC e2 hxk1 hk
                    by_cases h6 : k.n0 < life
                    · have E : Hid (unBad ks ⟨id, player, i, at_, life, load, task, goal⟩ = true) := by
                        unfold Hid unBad
                        rw [kindAt_nat, Hk.out]
                        exact decide_eq_true (by simp only; omega)
                      go_quiet (fail)
                      go_wp2
                      go_ret2
                      exact ⟨_, _, rfl, bdn Bw3.out _, .inr (.inr (.inl ⟨H0, hl40, AT.out E.out, RN.out _, rfl⟩))⟩
                    · have E : Hid (unBad ks ⟨id, player, i, at_, life, load, task, goal⟩ = false) := by
                        unfold Hid unBad
                        rw [kindAt_nat, Hk.out]
                        exact decide_eq_false (by simp only; omega)
                      have kb := KR2.out.2 k (List.mem_of_getElem? Hk.out)
                      have WB := worthOf_take An.out (fun k hk => ⟨(KR2.out.2 k hk).1, (KR2.out.2 k hk).2.1, (KR2.out.2 k hk).2.2.1⟩) hn player
                      have WN : Hid (∀ j, worthOf ks (us.take (n + 1)) j = if player = j then worthOf ks (us.take n) j + worthOne ks ⟨id, player, i, at_, life, load, task, goal⟩ else worthOf ks (us.take n) j) := worthOf_next Hu.out
                      have hwo : worthOne ks ⟨id, player, i, at_, life, load, task, goal⟩ = (k.n5 * life).tdiv k.n0 := by
                        unfold worthOne
                        rw [kindAt_nat, Hk.out]
                      obtain ⟨p, rfl⟩ : ∃ p : Nat, player = p := ⟨player.toNat, by omega⟩
                      have hp4 : p < 4 := by omega
                      have hp4' : (p : Int) < 4 := by omega
                      have Wd : Hid ((worths ks (us.take n))[p]? = some (worthOf ks (us.take n) p)) := by
                        unfold Hid worths
                        match p, hp4 with
                        | 0, _ => rfl
                        | 1, _ => rfl
                        | 2, _ => rfl
                        | 3, _ => rfl
                      have Ws : Hid ((worths ks (us.take n)).set p (worthOf ks (us.take n) p + worthOne ks ⟨id, p, i, at_, life, load, task, goal⟩) = worths ks (us.take (n + 1))) := by
                        unfold Hid worths
                        rw [WN.out 0, WN.out 1, WN.out 2, WN.out 3]
                        match p, hp4 with
                        | 0, _ => rfl
                        | 1, _ => rfl
                        | 2, _ => rfl
                        | 3, _ => rfl
                      have PL := part_le kb.1 kb.2.1 (show 0 ≤ life by omega) (show life ≤ k.n0 by omega) kb.2.2.1
                      have ML : 0 ≤ k.n5 * life ∧ k.n5 * life ≤ 1000000 := ⟨Int.mul_nonneg kb.1 (by omega), by
                        have : k.n5 * life ≤ 1000 * 1000 := Int.mul_le_mul kb.2.1 (by omega) (by omega) (by decide)
                        omega⟩
                      obtain ⟨hm1, hm2⟩ := ML
                      obtain ⟨hq1, hq2⟩ := PL
                      obtain ⟨hb1, hb2⟩ := WB
                      obtain ⟨g1, g2, g3, g4⟩ := kb
                      rw [hwo] at Ws
                      generalize worthOf ks (us.take n) p = sm at *
                      have kn5 : w3.cell? ⟨(xk.add (i * 11)).block, (xk.add (i * 11)).off + 6, none⟩ = some (.int .i64 k.n5) := KC'.out.c6
                      have hlife : 0 ≤ life := by omega
                      have hlm : life ≤ k.n0 := by omega
                      clear hwo WN KC' Hk
                      generalize k.n5 = n5 at *
                      generalize k.n0 = n0 at *
                      obtain ⟨m, em⟩ : ∃ m, n5 * life = m := ⟨_, rfl⟩
                      rw [em] at hm1 hm2 hq1 hq2 Ws
                      obtain ⟨qq, eq⟩ : ∃ qq, m.tdiv n0 = qq := ⟨_, rfl⟩
                      rw [eq] at hq1 hq2 Ws
                      have y0 : w3.cell? ⟨w2.heap.size, p, none⟩ = some (.int .i64 sm) := Bk3.out.cell Wd.out
                      have y1 : w3.frozen? ⟨w2.heap.size, p, none⟩ = false := Bk3.out.thaw p
                      have hn0 : n0 ≠ 0 := by omega
                      have hsm : sm ≤ 1000000 := by omega
                      go_quiet (fail)
                      have Bk4 : Hid (Bk (w3.drewN nq) w2.heap.size (worths ks (us.take n)) #[]) := Bk3.out.drewN _
                      have Bb4 : Hid (Below w2.heap.size w2 (w3.drewN nq)) := bdn Bb3.out _
                      have z1 : (w3.drewN nq).cell? ⟨wr.heap.size, 1, none⟩ = some (.int .i64 (p : Nat)) := x1
                      have z2 : (w3.drewN nq).cell? ⟨wr.heap.size, 2, none⟩ = some (.int .i64 (i : Nat)) := x2
                      have z4 : (w3.drewN nq).cell? ⟨wr.heap.size, 4, none⟩ = some (.int .i64 life) := x4
                      have z5 : (w3.drewN nq).cell? ⟨(xk.add (i * 11)).block, (xk.add (i * 11)).off + 1, none⟩ = some (.int .i64 n0) := k1
                      have z6 : (w3.drewN nq).cell? ⟨(xk.add (i * 11)).block, (xk.add (i * 11)).off + 6, none⟩ = some (.int .i64 n5) := kn5
                      have z7 : (w3.drewN nq).cell? ⟨w2.heap.size, p, none⟩ = some (.int .i64 sm) := y0
                      have z8 : (w3.drewN nq).frozen? ⟨w2.heap.size, p, none⟩ = false := y1
                      clear x1 x2 x4 k1 kn5 y0 y1
                      generalize w3.drewN nq = w4 at *
                      go_upto_region 13 with fail
                      have d1 : World.cell? { w4 with drawn := w4.drawn + 1 } ⟨wr.heap.size, 1, none⟩ = some (.int .i64 (p : Nat)) := z1
                      have d2 : World.cell? { w4 with drawn := w4.drawn + 1 } ⟨wr.heap.size, 2, none⟩ = some (.int .i64 (i : Nat)) := z2
                      have d4 : World.cell? { w4 with drawn := w4.drawn + 1 } ⟨wr.heap.size, 4, none⟩ = some (.int .i64 life) := z4
                      have d5 : World.cell? { w4 with drawn := w4.drawn + 1 } ⟨(xk.add (i * 11)).block, (xk.add (i * 11)).off + 1, none⟩ = some (.int .i64 n0) := z5
                      have d6 : World.cell? { w4 with drawn := w4.drawn + 1 } ⟨(xk.add (i * 11)).block, (xk.add (i * 11)).off + 6, none⟩ = some (.int .i64 n5) := z6
                      have d7 : World.cell? { w4 with drawn := w4.drawn + 1 } ⟨w2.heap.size, p, none⟩ = some (.int .i64 sm) := z7
                      have d8 : World.frozen? { w4 with drawn := w4.drawn + 1 } ⟨w2.heap.size, p, none⟩ = false := z8
                      go_still_tail 26, (by kernel_rfl)
                      all_goals
                        go_wp2
                        refine ⟨⟨n + 1, by omega, by go_num, by rw [A2.out, E.out], ?_, ?_⟩, by simp [intOf]; omega⟩
                        · have := Bk4.out.set p (sm + qq) (by simpa [worths] using hp4)
                          rw [Ws.out] at this
                          exact this
                        · exact ((Bb4.out.setCell (p := ⟨w2.heap.size, p, none⟩) (Nat.le_refl _) _).drew)
  · have H0 : Hid (R ≠ 0) := h0
    clear KR
    go_wp2
    go_ret2
    exact ⟨_, _, rfl, B2, .inl ⟨H0, RN.out _, rfl⟩⟩
end Go.Proofs.YtdmpeagnbpdidaaDoor
