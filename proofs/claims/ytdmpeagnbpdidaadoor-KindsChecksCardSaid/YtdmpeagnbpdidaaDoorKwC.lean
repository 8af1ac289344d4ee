/- The program's kinds: what units are worth. -/
import Derived.Test.YtdmpeagnbpdidaaDoorKwA
import Derived.Test.YtdmpeagnbpdidaaDoorKwB
import Derived.Test.YtdmpeagnbpdidaaDoorBk
import Derived.RangeFuncRecord
namespace Go.Proofs.YtdmpeagnbpdidaaDoor
open Go.RowKit
set_option linter.unusedVariables false

theorem eworth1 : ∀ args w, (callFunc 25 args).run Tryd.prog w = .ok (.enter 25 args) w := by
  intro args w
  go_simp
theorem makeI4 (w : World) : (Instr.makeSlice 36 (.int .i64 4) (.int .i64 4)).run Tryd.prog w = .ok (.slice (some ⟨w.heap.size, 0, none⟩) 4 4) (w.alloc (.cells #[.int .i64 0, .int .i64 0, .int .i64 0, .int .i64 0] 3)) := by kernel_rfl
theorem kgo_nums : ∀ {l acc : List Kd.K}, Kd.kindsGo acc l = 0 → ∀ k ∈ l, Kd.numsFault k.nums = 0
  | [], _, _, k, hk => by simp at hk
  | x :: l, acc, h, k, hk => by
    unfold Kd.kindsGo at h
    split at h
    · rename_i h0
      rcases List.mem_cons.1 hk with rfl | hk
      · unfold Kd.kindFault at h0
        split at h0
        · split at h0
          · omega
          · exact h0
        · omega
      · exact kgo_nums h k hk
    · rename_i h0
      exact absurd h h0
/-- kinds that are right. -/
theorem kinds_right {ks : List KV} (h : Kd.kindsFault (ks.map KV.k) = 0) : ks.length ≤ 8 ∧ ∀ k ∈ ks, 0 ≤ k.n5 ∧ k.n5 ≤ 1000 ∧ 0 < k.n0 ∧ k.n0 ≤ 1000 := by
  unfold Kd.kindsFault at h
  split at h
  · omega
  · rename_i h8
    refine ⟨by simpa using h8, fun k hk => ?_⟩
    have := kgo_nums h k.k (List.mem_map.2 ⟨k, hk, rfl⟩)
    unfold Kd.numsFault at this
    split at this
    · omega
    · rename_i h1
      rw [Bool.not_eq_true, List.any_eq_false] at h1
      have a := h1 k.n0 (by simp [KV.k])
      have b := h1 k.n5 (by simp [KV.k])
      simp only [decide_eq_true_eq] at a b
      split at this
      · omega
      · rename_i h2
        have : (k.k.nums).getD 0 0 = k.n0 := rfl
        omega

set_option maxRecDepth 100000 in
set_option maxHeartbeats 4000000 in
theorem worth_any (v : Value) (ks : List KV) (y : Value) (us : List UnV) (w : World) (h : Kl w v ks) (hb : ∀ k ∈ ks, k.b.size ≤ 9223372036854775807) (hu : Unl w y us) :
    Calls Tryd.prog 12 #[v, y] w fun e w' => ∃ (r u : Value), e = .returned (.tuple #[r, u]) ∧ Below w.heap.size w w' ∧
      ((Kd.kindsFault (ks.map KV.k) ≠ 0 ∧ Ro w' r [] ∧ Er u (Kd.kindsFault (ks.map KV.k))) ∨
       (Kd.kindsFault (ks.map KV.k) = 0 ∧ 40 < us.length ∧ Ro w' r [] ∧ Er u 4) ∨
       (Kd.kindsFault (ks.map KV.k) = 0 ∧ us.length ≤ 40 ∧ us.any (unBad ks) = true ∧ Ro w' r [] ∧ Er u 1) ∨
       (Kd.kindsFault (ks.map KV.k) = 0 ∧ us.length ≤ 40 ∧ us.any (unBad ks) = false ∧ Ro w' r (worths ks us) ∧ Er u 0)) := by
  have K0 : Hid (Kl w v ks) := h
  have U0 : Hid (Unl w y us) := hu
  have CA : Hid (∀ W, Below w.heap.size w W → Calls Tryd.prog 7 #[v] W fun e w' => ∃ u, e = .returned u ∧ Er u (Kd.kindsFault (ks.map KV.k)) ∧ Below W.heap.size W w') := fun W hW => kcheck_any v ks W (h.below hW) hb
  have KR : Hid (Kd.kindsFault (ks.map KV.k) = 0 → ks.length ≤ 8 ∧ ∀ k ∈ ks, 0 ≤ k.n5 ∧ k.n5 ≤ 1000 ∧ 0 < k.n0 ∧ k.n0 ≤ 1000) := kinds_right
  generalize Kd.kindsFault (ks.map KV.k) = R at *
  have Rn : ∀ W : World, Ro W (.slice none 0 0) [] := fun W => ⟨none, 0, rfl, Nat.le_refl _, by omega, fun h => absurd rfl h⟩
  have RN : Hid (∀ W : World, Ro W (.slice none 0 0) []) := Rn
  clear hb Rn
  obtain ⟨a, c, rfl, c1, c2, -⟩ := h
  obtain ⟨au, cu, rfl, cu1, cu2, -⟩ := hu
  go_enter Tryd.func12, Tryd.ntmps12
  go_wp2_with fail
  have B0 : Below w.heap.size w (w.alloc (Obj.cells #[.slice a ks.length c] 22)) := (Below.refl _ _).alloc (Nat.le_refl _) _
  have hc0 : (w.alloc (Obj.cells #[.slice a ks.length c] 22)).cell? ⟨w.heap.size, 0, none⟩ = some (.slice a ks.length c) := by simp
  have hz0 : w.heap.size < (w.alloc (Obj.cells #[.slice a ks.length c] 22)).heap.size := by simp
  refine (CA.out _ B0).mono ?_
  rintro e w1 ⟨u, rfl, hu, b1⟩
  have B1 : Hid (Below w.heap.size w w1) := B0.trans (b1.mono B0.size)
  have hc1 : w1.cell? ⟨w.heap.size, 0, none⟩ = some (.slice a ks.length c) := by rw [b1.cell (p := ⟨w.heap.size, 0, none⟩) hz0]; exact hc0
  clear CA b1 B0 hc0 hz0
  rcases hu with ⟨h0, rfl⟩ | ⟨h0, rfl⟩
  · have H0 : Hid (R = 0) := h0
    clear h0
    by_cases h40 : 40 < us.length
    · have h40' : (40 : Int) < (us.length : Int) := by omega
      go_wp2
      go_ret2
      exact ⟨_, _, rfl, B1, .inr (.inl ⟨H0, h40, RN.out _, Er.no (by decide)⟩)⟩
    · have h40' : ¬ (40 : Int) < (us.length : Int) := by omega
      have hl40 : us.length ≤ 40 := by omega
      go_wp2_with fail
      have hl1 := cell_lt hc1
      refine (hasu_any 25 eworth1 _ _ us (unBad ks) _ (U0.out.below B1.out) ?_).mono ?_
      · intro W hW k
        exact wrong_any _ ks k w.heap.size W (K0.out.below (B1.out.trans (hW.mono B1.out.size))) (by rw [hW.cell (p := ⟨w.heap.size, 0, none⟩) hl1]; exact hc1)
      · rintro e w2 ⟨rfl, b2⟩
        have B2 : Hid (Below w.heap.size w w2) := B1.out.trans (b2.mono B1.out.size)
        have hc2 : w2.cell? ⟨w.heap.size, 0, none⟩ = some (.slice a ks.length c) := by rw [b2.cell (p := ⟨w.heap.size, 0, none⟩) hl1]; exact hc1
        clear b2 hc1 hl1
        cases hA : us.any (unBad ks) with
        | true =>
          have HA : Hid (us.any (unBad ks) = true) := hA
          clear hA
          go_wp2
          go_ret2
          exact ⟨_, _, rfl, B2, .inr (.inr (.inl ⟨H0, hl40, HA, RN.out _, Er.no (by decide)⟩))⟩
        | false =>
          have HA : Hid (us.any (unBad ks) = false) := hA
          clear hA
          have KR2 : Hid (ks.length ≤ 8 ∧ ∀ k ∈ ks, 0 ≤ k.n5 ∧ k.n5 ≤ 1000 ∧ 0 < k.n0 ∧ k.n0 ≤ 1000) := KR.out H0.out
          have hm := makeI4 w2
          have hlt : w.heap.size < w2.heap.size := cell_lt hc2
          have hl0 : w.heap.size ≤ w2.heap.size := by omega
          have BB : Hid (Below w2.heap.size w2 (w2.alloc (Obj.cells #[.int .i64 0, .int .i64 0, .int .i64 0, .int .i64 0] 3))) := (Below.refl _ _).alloc (Nat.le_refl _) _
          have BK : Hid (Bk (w2.alloc (Obj.cells #[.int .i64 0, .int .i64 0, .int .i64 0, .int .i64 0] 3)) w2.heap.size (worths ks []) #[]) := by
            unfold Hid Bk
            rw [World.alloc_heap_new]
            rfl
          have HC : Hid (w2.cell? ⟨w.heap.size, 0, none⟩ = some (.slice a ks.length c)) := hc2
          clear hc2 KR RN
          go_wp2_with fail
          go_loopw [29] (fun j W' => ∃ n : Nat, n ≤ us.length ∧ j = .int .i64 (n : Nat) ∧ Bk W' w2.heap.size (worths ks (us.take n)) #[] ∧ Below w2.heap.size w2 W') (fun j _ => us.length - (intOf j).toNat)
          case atStart => exact ⟨0, Nat.zero_le _, rfl, BK, BB⟩
          case round =>
            obtain ⟨n, hn, rfl, hbk, hbb⟩ := hrel
            have Bk1 : Hid (Bk wr w2.heap.size (worths ks (us.take n)) #[]) := hbk
            have Bb1 : Hid (Below w2.heap.size w2 wr) := hbb
            have Bw : Hid (Below w.heap.size w wr) := B2.out.trans (hbb.mono hl0)
            clear hbk hbb
            by_cases hne : n = us.length
            · subst hne
              go_wp2
              go_ret2
              refine ⟨_, _, rfl, Bw, .inr (.inr (.inr ⟨H0, hl40, HA, ?_, Er.nil⟩))⟩
              have := Bk1.out.ro (c := 4) (by simp [worths]) (by omega)
              rw [List.take_of_length_le (Nat.le_refl _)] at this
              exact this
            · have hnl : n < us.length := by omega
              have hnl' : (n : Int) < (us.length : Int) := by omega
              obtain ⟨u, hu⟩ : ∃ u, us[n]? = some u := ⟨_, List.getElem?_eq_getElem hnl⟩
              have hbad : unBad ks u = false := by
                have := HA.out
                rw [List.any_eq_false] at this
                simpa using this u (List.mem_of_getElem? hu)
              obtain ⟨i, k, hki, hk, hp0, hp3, hl0', hlm, hwo⟩ := unBad_kind hbad
              have kb := KR2.out.2 k (List.mem_of_getElem? hk)
              have hil : i < ks.length := (List.getElem?_eq_some_iff.1 hk).1
              have WB := worthOf_bound (fun k hk => ⟨(KR2.out.2 k hk).1, (KR2.out.2 k hk).2.1, (KR2.out.2 k hk).2.2.1⟩) HA.out u.player n hn
              have WN : Hid (∀ j, worthOf ks (us.take (n + 1)) j = if u.player = j then worthOf ks (us.take n) j + worthOne ks u else worthOf ks (us.take n) j) := worthOf_next hu
              obtain ⟨p, hpp⟩ : ∃ p : Nat, u.player = p := ⟨u.player.toNat, by omega⟩
              have hp4 : p < 4 := by omega
              have Wd : Hid ((worths ks (us.take n))[p]? = some (worthOf ks (us.take n) u.player)) := by
                unfold Hid worths
                rw [hpp]
                match p, hp4 with
                | 0, _ => rfl
                | 1, _ => rfl
                | 2, _ => rfl
                | 3, _ => rfl
              have Ws : Hid ((worths ks (us.take n)).set p (worthOf ks (us.take n) u.player + worthOne ks u) = worths ks (us.take (n + 1))) := by
                unfold Hid worths
                rw [WN.out 0, WN.out 1, WN.out 2, WN.out 3, hpp]
                match p, hp4 with
                | 0, _ => rfl
                | 1, _ => rfl
                | 2, _ => rfl
                | 3, _ => rfl
              have PL := part_le kb.1 kb.2.1 hl0' hlm kb.2.2.1
              have ML : 0 ≤ k.n5 * u.life ∧ k.n5 * u.life ≤ 1000000 := ⟨Int.mul_nonneg kb.1 hl0', by
                have : k.n5 * u.life ≤ 1000 * 1000 := Int.mul_le_mul kb.2.1 (by omega) hl0' (by decide)
                omega⟩
              obtain ⟨hm1, hm2⟩ := ML
              obtain ⟨hq1, hq2⟩ := PL
              obtain ⟨hb1, hb2⟩ := WB
              rw [hwo] at Ws
              generalize worthOf ks (us.take n) u.player = sm at *
              have Uc := U0.out.below Bw.out
              obtain ⟨au', cu', e, -, -, hux⟩ := Uc
              injection e with e1 e2 e3
              subst e1 e3
              obtain ⟨xu, rfl, hxu1, hxu⟩ := hux (by rintro rfl; simp at hnl)
              have UC := hxu n u hu
              have Kk := K0.out.below Bw.out
              obtain ⟨a', c', e, -, -, hkx⟩ := Kk
              injection e with e1 e2 e3
              subst e1 e3
              obtain ⟨xk, rfl, hxk1, hxk⟩ := hkx (by rintro rfl; simp at hil)
              have KC := hxk i k hk
              have hcl : wr.cell? ⟨w.heap.size, 0, none⟩ = some (.slice (some xk) ks.length c) := by rw [Bb1.out.cell (p := ⟨w.heap.size, 0, none⟩) hlt]; exact HC.out
              have hil' : (i : Int) < (ks.length : Int) := by omega
              clear hxu hux hkx hxk hu hk hbad hwo WN e2 hnl hn
              have hs := Bk1.out.lt
              obtain ⟨id, player, kind, at_, life, load, task, goal⟩ := u
              obtain ⟨kb', n0, n1, n2, n3, n4, n5, n6, n7, kf, kt⟩ := k
              simp only at hki hpp hl0' hlm kb hm1 hm2 hq1 hq2 Ws Wd
              subst hki hpp
              obtain ⟨g1, g2, g3, g4⟩ := kb
              obtain ⟨m, em⟩ : ∃ m, n5 * life = m := ⟨_, rfl⟩
              rw [em] at hm1 hm2 hq1 hq2 Ws
              obtain ⟨qq, eq⟩ : ∃ qq, m.tdiv n0 = qq := ⟨_, rfl⟩
              rw [eq] at hq1 hq2 Ws
              have Em : Hid (n5 * life = m) := em
              have Eq : Hid (m.tdiv n0 = qq) := eq
              have KC' : Hid (Kc wr (xk.add (i * 11)) ⟨kb', n0, n1, n2, n3, n4, n5, n6, n7, kf, kt⟩) := KC
              have hcl' : Hid (wr.cell? ⟨w.heap.size, 0, none⟩ = some (.slice (some xk) ks.length c)) := hcl
              obtain ⟨u0, u1, u2, u3, u4, u5, u6, u7⟩ := UC
              simp only at u0 u1 u2 u3 u4 u5 u6 u7
              have Hs1 : Hid (w2.heap.size < wr.heap.size) := hs
              have Hxk : Hid (xk.block < wr.heap.size) := hxk1
              clear em eq KC hcl hs hxk1
              go_upto_region 13 with fail
              have b3 : Below wr.heap.size wr (wr.alloc (Obj.cells #[.int .i64 id, .int .i64 (p : Nat), .int .i64 (i : Nat), .int .i64 at_, .int .i64 life, .int .i64 load, .int .i64 task, .int .i64 goal] 62)) := (Below.refl _ _).alloc (Nat.le_refl _) _
              have X3 := Unc.mk' (w := wr) ⟨id, (p : Nat), (i : Nat), at_, life, load, task, goal⟩ rfl
              simp only at X3
              clear u0 u1 u2 u3 u4 u5 u6 u7
              generalize wr.alloc (Obj.cells #[.int .i64 id, .int .i64 (p : Nat), .int .i64 (i : Nat), .int .i64 at_, .int .i64 life, .int .i64 load, .int .i64 task, .int .i64 goal] 62) = w3 at *
              have B3 : Hid (Below wr.heap.size wr w3) := b3
              have hcl : w3.cell? ⟨w.heap.size, 0, none⟩ = some (.slice (some xk) ks.length c) := by rw [b3.cell (p := ⟨w.heap.size, 0, none⟩) (cell_lt hcl'.out)]; exact hcl'.out
              have KC := KC'.out.below b3 (by rw [add_block]; exact Hxk.out)
              obtain ⟨k0, k1, k2, k3, k4, k5, k6, k7, k8, k9, k10⟩ := KC
              simp only at k0 k1 k2 k3 k4 k5 k6 k7 k8 k9 k10
              have x1 : w3.cell? ⟨wr.heap.size, 1, none⟩ = some (.int .i64 (p : Nat)) := X3.c1
              have x2 : w3.cell? ⟨wr.heap.size, 2, none⟩ = some (.int .i64 (i : Nat)) := X3.c2
              have x4 : w3.cell? ⟨wr.heap.size, 4, none⟩ = some (.int .i64 life) := X3.c4
              have Y3 : Hid (wr.heap.size < w3.heap.size ∧ w3.cell? ⟨wr.heap.size, 1, none⟩ = some (.int .i64 (p : Nat)) ∧ w3.cell? ⟨wr.heap.size, 4, none⟩ = some (.int .i64 life)) := ⟨X3.lt, x1, x4⟩
              clear X3 b3
              go_upto_region 14 with fail
              have b4 : Below w3.heap.size w3 (w3.alloc (Obj.cells #[.string kb', .int .i64 n0, .int .i64 n1, .int .i64 n2, .int .i64 n3, .int .i64 n4, .int .i64 n5, .int .i64 n6, .int .i64 n7, .bool kf, .bool kt] 31)) := (Below.refl _ _).alloc (Nat.le_refl _) _
              have X4 := Kc.mk' (w := w3) ⟨kb', n0, n1, n2, n3, n4, n5, n6, n7, kf, kt⟩ rfl
              simp only at X4
              clear k0 k1 k2 k3 k4 k5 k6 k7 k8 k9 k10 x1 x2 x4 hcl
              generalize w3.alloc (Obj.cells #[.string kb', .int .i64 n0, .int .i64 n1, .int .i64 n2, .int .i64 n3, .int .i64 n4, .int .i64 n5, .int .i64 n6, .int .i64 n7, .bool kf, .bool kt] 31) = w4 at *
              have B4 : Hid (Below wr.heap.size wr w4) := B3.out.trans (b4.mono B3.out.size)
              have x1 : w4.cell? ⟨wr.heap.size, 1, none⟩ = some (.int .i64 (p : Nat)) := by rw [b4.cell (p := ⟨wr.heap.size, 1, none⟩) Y3.out.1]; exact Y3.out.2.1
              have x4 : w4.cell? ⟨wr.heap.size, 4, none⟩ = some (.int .i64 life) := by rw [b4.cell (p := ⟨wr.heap.size, 4, none⟩) Y3.out.1]; exact Y3.out.2.2
              have z1 : w4.cell? ⟨w3.heap.size, 1, none⟩ = some (.int .i64 n0) := X4.c1
              have z6 : w4.cell? ⟨w3.heap.size, 6, none⟩ = some (.int .i64 n5) := X4.c6
              have Bk4 : Hid (Bk w4 w2.heap.size (worths ks (us.take n)) #[]) := Bk1.out.low B4.out Hs1.out
              have y0 : w4.cell? ⟨w2.heap.size, p, none⟩ = some (.int .i64 sm) := Bk4.out.cell Wd.out
              have y1 : w4.frozen? ⟨w2.heap.size, p, none⟩ = false := Bk4.out.thaw p
              have hn0 : n0 ≠ 0 := by omega
              have hp4' : (p : Int) < 4 := by omega
              have em : n5 * life = m := Em.out
              have eq : m.tdiv n0 = qq := Eq.out
              have hsm : sm ≤ 1000000 := by omega
              clear X4 b4 Y3
              go_region
              all_goals
                go_wp2
                refine ⟨⟨n + 1, by omega, by go_num, ?_, ?_⟩, by simp [intOf]; omega⟩
                · have := Bk4.out.set p (sm + qq) (by simpa [worths] using hp4)
                  rw [Ws.out] at this
                  exact this
                · exact (((Bb1.out.trans (B4.out.mono Bb1.out.size)).setCell (p := ⟨w2.heap.size, p, none⟩) (Nat.le_refl _) _).drew)
  · have H0 : Hid (R ≠ 0) := h0
    clear h0
    go_wp2
    go_ret2
    exact ⟨_, _, rfl, B1, .inl ⟨H0, RN.out _, Er.no H0⟩⟩
end Go.Proofs.YtdmpeagnbpdidaaDoor
