/- LockAlike: the walk. -/
import Derived.Test.YtbomnicnoanjlaaZLockAlike4
namespace Go.Proofs.Ytbomnicnoanjlaa.lockAlike
open Go.RowKit Go.Proofs.Ytbomnicnoanjlaa.So
set_option linter.unusedVariables false

theorem lit3 (w : World) (z : Nat) (hz : w.heap.size = z) : Orl (w.alloc (Obj.cells #[.int .i64 0, .int .i64 3, .int .i64 0, .int .i64 0] 30)) (.slice (some ⟨z, 0, none⟩) 1 1) [La.o3] := by
  refine ⟨_, 1, rfl, by decide, by decide, fun _ => ⟨_, rfl, by subst hz; simp, fun i k hk => ?_⟩⟩
  match i, hk with
  | 0, hk => simp at hk; subst hk; exact Orc.mk' (w := w) La.o3 hz
  | i + 1, hk => simp at hk
theorem one_form {w : World} {base : Nat} {u : Value} (h : Oro w base u [La.o3]) : ∃ g cap, u = .slice (some ⟨g, 0, none⟩) 1 cap ∧ w.cell? ⟨g, 1, none⟩ = some (.int .i64 3) := by
  obtain ⟨g, cap, hv, -, -⟩ := World.ownsRow.form h (by decide)
  have hl := h.l
  rw [hv] at hl
  obtain ⟨a, c, e, -, -, h3⟩ := hl
  injection e with e1 e2 e3
  subst e1
  obtain ⟨x, ex, -, hx⟩ := h3 (by simp)
  injection ex with ex
  subst ex
  exact ⟨g, cap, hv, (hx 0 La.o3 rfl).c1⟩
def LaI (ls : List (List OrV)) (d : Int) (kk az ao am bz bo bm : Nat) (w0 : World) (v17 v16 : Value) (W : World) : Prop := ∃ t s : Nat, t ≤ kk ∧ s ≤ kk ∧ t ≤ s ∧ v17 = .int .i64 (t : Nat) ∧ v16 = .int .i64 (s : Nat) ∧ Lk W az ao am (La.la t (2 * t)) ∧ Lk W bz bo bm (La.lb ls d t s (2 * s)) ∧ (∀ i, t ≤ i → i < s → (La.M ls i 0).length ≤ 60 ∧ (La.M ls i 1).length ≤ 60) ∧ Below w0.heap.size w0 W
def LbI (ls : List (List OrV)) (d : Int) (kk t az ao am bz bo bm : Nat) (w0 : World) (v16 : Value) (W : World) : Prop := ∃ s : Nat, s ≤ kk ∧ t ≤ s ∧ v16 = .int .i64 (s : Nat) ∧ Lk W az ao am (La.lf t (2 * t) (La.M ls t 0) (La.M ls t 1)) ∧ Lk W bz bo bm (La.lb ls d t s (2 * s)) ∧ (∀ i, t ≤ i → i < s → (La.M ls i 0).length ≤ 60 ∧ (La.M ls i 1).length ≤ 60) ∧ Below w0.heap.size w0 W
theorem er_split {r : Value} {F : Int} (h : Er r F) : (F = 0 ∧ r = .nilIface) ∨ (F ≠ 0 ∧ ∃ G : Int, r = .iface 43 (.int .i64 G)) := by
  rcases h with ⟨a, b⟩ | ⟨a, b⟩
  · exact .inl ⟨a, b⟩
  · exact .inr ⟨a, _, b⟩
set_option maxRecDepth 100000 in
set_option maxHeartbeats 32000000 in
theorem walk (v : Value) (ls : List (List OrV)) (delay : Int) (w : World) (h0 : Oll w v ls ∧ ∀ l ∈ ls, l.length * 32 ≤ reachBytes) :
    Calls Try.prog 3 #[v, .int .i64 delay] w fun e w' => e = .returned (.bool true) ∧ Below w.heap.size w w' := by
  have HS : Hid (∀ l ∈ ls, l.length * 32 ≤ reachBytes) := h0.2
  have H : Hid (Oll w v ls) := h0.1
  obtain ⟨av, cv, rfl, -⟩ := h0.1
  clear h0
  obtain ⟨tb, htb⟩ : ∃ z, w.heap.size = z := ⟨_, rfl⟩
  have BS : Hid (Below w.heap.size w (w.alloc (Obj.cells #[.slice av ls.length cv] 22))) := (Below.refl _ _).alloc (Nat.le_refl _) _
  have C0 : Hid ((w.alloc (Obj.cells #[.slice av ls.length cv] 22)).cell? ⟨tb, 0, none⟩ = some (.slice av ls.length cv)) := by
    unfold Hid
    rw [← htb]
    simp only [World.cell?, heap_alloc_new]
    rfl
  have OL : Hid (Oll (w.alloc (Obj.cells #[.slice av ls.length cv] 22)) (.slice av ls.length cv) ls) := H.out.below BS.out
  go_enter Try.func3, Try.ntmps3
  go_upto_region 1 with fail
  (try rw [htb])
  generalize (w.alloc (Obj.cells #[.slice av ls.length cv] 22)) = w0 at *
  have TB : Hid (tb < w0.heap.size) := cell_lt C0.out
  clear htb
  have MN : Hid (∀ V, Below w0.heap.size w0 V → ∀ (t : Nat) (p : Int), t < ls.length → Calls Try.prog 8 #[.int .i64 (t : Nat), .int .i64 p, .pointer (some ⟨tb, 0, none⟩)] V fun e w' => ∃ u, e = .returned u ∧ Oro w' V.heap.size u (La.M ls t p) ∧ Below V.heap.size V w') := fun V hV t p ht => by
    have hl : ls[t]? = some (ls.getD t []) := by rw [List.getD_eq_getElem?_getD, List.getElem?_eq_getElem ht]; rfl
    exact mine_any tb _ ls t _ p V (by rw [hV.cell (p := ⟨tb, 0, none⟩) TB.out]; exact C0.out) (OL.out.below hV) hl (HS.out _ (List.mem_of_getElem? hl))
  go_wp2_with fail
  refine (lnew_any 1 0 w0).mono ?_
  rintro e w1 ⟨u1, r1, rfl, b1, hu⟩
  obtain ⟨z, zo, zm, rfl, rfl, hz1, hz2, hz3, hk⟩ : ∃ z bo bm, r1 = .nilIface ∧ u1 = .pointer (some ⟨z, 0, none⟩) ∧ w0.heap.size ≤ z ∧ w0.heap.size ≤ bo ∧ w0.heap.size ≤ bm ∧ Lk w1 z bo bm (lkNew 1 0) := by
    rcases hu with ⟨-, -, -, -, h1, z, bo, bm, h2⟩ | ⟨h, -⟩
    · exact ⟨z, bo, bm, h1, h2⟩
    · exact absurd ⟨by decide, by decide, by decide, by decide⟩ h
  have HZ : Hid (w0.heap.size ≤ z ∧ w0.heap.size ≤ zo ∧ w0.heap.size ≤ zm) := ⟨hz1, hz2, hz3⟩
  have B1 : Hid (Below w0.heap.size w0 w1) := b1
  have BA : Hid (Below w1.heap.size w1 (w1.alloc (Obj.cells #[.int .i64 0, .int .i64 3, .int .i64 0, .int .i64 0] 30))) := (Below.refl _ _).alloc (Nat.le_refl _) _
  have K1 : Hid (Lk (w1.alloc (Obj.cells #[.int .i64 0, .int .i64 3, .int .i64 0, .int .i64 0] 30)) z zo zm (lkNew 1 0)) := hk.below BA.out
  have LT : Hid (Orl (w1.alloc (Obj.cells #[.int .i64 0, .int .i64 3, .int .i64 0, .int .i64 0] 30)) (.slice (some ⟨w1.heap.size, 0, none⟩) 1 1) [La.o3]) := lit3 w1 _ rfl
  clear hu b1 hk hz1 hz2 hz3
  go_wp2_with fail
  refine (lsend_any z zo zm _ 0 0 _ [La.o3] _ K1.out (by simp [lkNew]) (by simp [lkNew]) (by simp [lkNew]) (by simp [lkNew]) (pmwf (by decide) (by decide)) (pmwf (by decide) (by decide)) LT.out).mono ?_
  rintro e w2 ⟨r2, rfl, hr, hf, hc⟩
  rw [La.f_send] at hr hc
  obtain rfl : r2 = .nilIface := by
    rcases hr with ⟨-, h⟩ | ⟨h, -⟩
    · exact h
    · exact absurd rfl h
  have K2 : Hid (Lk w2 z zo zm ((lkNew 1 0).put 0 0 [La.o3])) := by
    rcases hc with ⟨-, h⟩ | ⟨h, -⟩
    · exact h
    · exact absurd rfl h
  have B2 : Hid (Below w0.heap.size w0 w2) := (B1.out.trans (BA.out.mono B1.out.size)).trans (hf.low (Nat.le_trans B1.out.size BA.out.size) HZ.out.1 HZ.out.2.1 HZ.out.2.2)
  clear hr hc hf LT K1 BA B1
  go_wp2_with fail
  refine (ltake_any z zo zm _ w2 K2.out (by simp [lkNew, LoV.put]) (by simp [lkNew, LoV.put]) (fun t p l h => by
    unfold LoV.put lkNew at h
    simp only at h
    split at h
    · injection h with h; subst h; decide
    · cases h)).mono ?_
  rintro e w3 ⟨n3, u3, r3, rfl, hf, hc⟩
  obtain ⟨rfl, rfl, out, hls, hoo⟩ : n3 = 0 ∧ r3 = .nilIface ∧ ∃ out, LastSays [La.o3] out ∧ Oro w3 w2.heap.size u3 out := by
    rcases hc with ⟨h, -⟩ | ⟨-, h, -⟩ | ⟨-, -, h1, h2, h3, -⟩
    · exact absurd La.f_waits h
    · rw [La.f_ls, La.f_ok] at h; exact absurd rfl h
    · rw [La.f_ls] at h3
      exact ⟨h1, h2, h3⟩
  obtain rfl := hls.one La.f_last
  obtain ⟨g3, c3, rfl, t3⟩ := one_form hoo
  have B3 : Hid (Below w0.heap.size w0 w3) := B2.out.trans (hf.low B2.out.size HZ.out.1 HZ.out.2.1 HZ.out.2.2)
  clear hc hls hoo hf K2 B2
  by_cases d0 : delay < 0
  · go_wp2
    go_ret
    exact ⟨rfl, BS.out.trans (B3.out.mono BS.out.size)⟩
  by_cases d1 : 20 < delay
  · go_wp2
    go_ret
    exact ⟨rfl, BS.out.trans (B3.out.mono BS.out.size)⟩
  go_wp2_with fail
  refine (lnew_any 2 0 w3).mono ?_
  rintro e w4 ⟨u4, r4, rfl, b4, hu⟩
  obtain ⟨az, ao, am, rfl, rfl, hz1, hz2, hz3, hk⟩ : ∃ z bo bm, r4 = .nilIface ∧ u4 = .pointer (some ⟨z, 0, none⟩) ∧ w3.heap.size ≤ z ∧ w3.heap.size ≤ bo ∧ w3.heap.size ≤ bm ∧ Lk w4 z bo bm (lkNew 2 0) := by
    rcases hu with ⟨-, -, -, -, h1, z, bo, bm, h2⟩ | ⟨h, -⟩
    · exact ⟨z, bo, bm, h1, h2⟩
    · exact absurd ⟨by decide, by decide, by decide, by decide⟩ h
  have HA : Hid (w0.heap.size ≤ az ∧ w0.heap.size ≤ ao ∧ w0.heap.size ≤ am) := by have := B3.out.size; unfold Hid; omega
  have K4 : Hid (Lk w4 az ao am (lkNew 2 0)) := hk
  have B4 : Hid (Below w0.heap.size w0 w4) := B3.out.trans (b4.mono B3.out.size)
  clear hu b4 hk hz1 hz2 hz3 t3
  go_wp2_with fail
  refine (lnew_any 2 delay w4).mono ?_
  rintro e w5 ⟨u5, r5, rfl, b5, hu⟩
  obtain ⟨bz, bo, bm, rfl, rfl, hz1, hz2, hz3, hk⟩ : ∃ z bo bm, r5 = .nilIface ∧ u5 = .pointer (some ⟨z, 0, none⟩) ∧ w4.heap.size ≤ z ∧ w4.heap.size ≤ bo ∧ w4.heap.size ≤ bm ∧ Lk w5 z bo bm (lkNew 2 delay) := by
    rcases hu with ⟨-, -, -, -, h1, z, bo, bm, h2⟩ | ⟨h, -⟩
    · exact ⟨z, bo, bm, h1, h2⟩
    · exact absurd ⟨by decide, by decide, by omega, by omega⟩ h
  have HB : Hid (w0.heap.size ≤ bz ∧ w0.heap.size ≤ bo ∧ w0.heap.size ≤ bm) := by have := B4.out.size; unfold Hid; omega
  have NE : Hid ((∀ i ∈ [az, ao, am], ∀ j ∈ [bz, bo, bm], i ≠ j) ∧ ∀ i ∈ [bz, bo, bm], ∀ j ∈ [az, ao, am], i ≠ j) := by
    have l1 := K4.out.lz
    have l2 := K4.out.lb
    have l3 := K4.out.lm
    refine ⟨?_, ?_⟩ <;> (intro i hi j hj; simp at hi hj; rcases hi with rfl | rfl | rfl <;> rcases hj with rfl | rfl | rfl <;> omega)
  have KA : Hid (Lk w5 az ao am (La.la 0 0)) := K4.out.below b5
  have KB : Hid (Lk w5 bz bo bm (La.lb ls delay 0 0 0)) := by have h : Lk w5 bz bo bm (lkNew 2 delay) := hk; rw [La.lb_new ls] at h; exact h
  have B5 : Hid (Below w0.heap.size w0 w5) := B4.out.trans (b5.mono B4.out.size)
  have c5 : w5.cell? ⟨tb, 0, none⟩ = some (.slice av ls.length cv) := by rw [B5.out.cell (p := ⟨tb, 0, none⟩) TB.out]; exact C0.out
  clear hu b5 hk hz1 hz2 hz3 K4 B4 B3
  go_upto_if 89 with fail
  clear c5
  go_cut [14] (fun v14 V => ∃ kk : Nat, v14 = .int .i64 (kk : Nat) ∧ kk ≤ 12 ∧ kk ≤ ls.length ∧ V = w5)
  case first =>
    by_cases hk : 12 < ls.length
    · have hki : (12 : Int) < (ls.length : Nat) := by omega
      go_wp2_with fail
      go_meet
      case rel => exact ⟨12, rfl, by omega, by omega, rfl⟩
    · have hki : ¬ (12 : Int) < (ls.length : Nat) := by omega
      go_wp2_with fail
      go_meet
      case rel => exact ⟨ls.length, rfl, by omega, by omega, rfl⟩
  case rest =>
    obtain ⟨kk, rfl, hk1, hk2, rfl⟩ := hcut
    have KK : Hid (kk ≤ 12 ∧ kk ≤ ls.length) := ⟨hk1, hk2⟩
    clear hk1 hk2
    go_wp2_with fail
    go_loopw [17, 16] (fun v17 v16 W => LaI ls delay kk az ao am bz bo bm w0 v17 v16 W) (fun v17 _ _ => kk - (intOf v17).toNat)
    case atStart => exact ⟨0, 0, by omega, by omega, by omega, rfl, rfl, KA.out, KB.out, fun i h1 h2 => by omega, B5.out⟩
    case round =>
      obtain ⟨t, s, ht, hs, hts, rfl, rfl, ka, kb, hlen, hb⟩ := hrel
      have A1 : Hid (Lk wr az ao am (La.la t (2 * t))) := ka
      have Bb1 : Hid (Lk wr bz bo bm (La.lb ls delay t s (2 * s))) := kb
      have LN : Hid (∀ i, t ≤ i → i < s → (La.M ls i 0).length ≤ 60 ∧ (La.M ls i 1).length ≤ 60) := hlen
      have BR : Hid (Below w0.heap.size w0 wr) := hb
      clear ka kb hlen hb
      by_cases htl : t = kk
      · subst htl
        go_wp2
        go_ret
        exact ⟨rfl, BS.out.trans (BR.out.mono BS.out.size)⟩
      have htk : (t : Int) < (kk : Nat) := by omega
      have TL : Hid (t < kk ∧ t < ls.length) := by have := KK.out; unfold Hid; omega
      have WT : Hid ((Lit.int .i64 ((t : Nat) : Int)).wf = true) := pmwf (by omega) (by have := KK.out; omega)
      have T12 : Hid (t ≤ 12 ∧ s ≤ 12) := by have := KK.out; unfold Hid; omega
      -- a's first
      go_wp2_with fail
      refine (MN.out wr BR.out t 0 TL.out.2).mono ?_
      rintro e w6 ⟨u6, rfl, ho, b6⟩
      have B6 : Hid (Below w0.heap.size w0 w6) := BR.out.trans (b6.mono BR.out.size)
      have A6 : Hid (Lk w6 az ao am (La.la t (2 * t))) := A1.out.below b6
      have Bb6 : Hid (Lk w6 bz bo bm (La.lb ls delay t s (2 * s))) := Bb1.out.below b6
      have O6 : Hid (Orl w6 u6 (La.M ls t 0)) := ho.l
      clear ho b6 A1 Bb1 BR
      go_wp2_with fail
      refine (lsend_any az ao am _ 0 t u6 (La.M ls t 0) w6 A6.out (by simp [La.la]) (by simp only [La.la]; have := T12.out; omega) (by simp [La.la]) (by simp only [La.la]; have := T12.out; omega) (pmwf (by decide) (by decide)) WT.out O6.out).mono ?_
      rintro e w7 ⟨r7, rfl, hr, hf, hc⟩
      have B7 : Hid (Below w0.heap.size w0 w7) := B6.out.trans (hf.low B6.out.size HA.out.1 HA.out.2.1 HA.out.2.2)
      have Bb7 : Hid (Lk w7 bz bo bm (La.lb ls delay t s (2 * s))) := Bb6.out.other A6.out hf NE.out.2
      obtain ⟨FX, hFX⟩ : ∃ f, sendF (La.la t (2 * t)) 0 t (La.M ls t 0) = f := ⟨_, rfl⟩
      have L7 : Hid (FX = 0 → (La.M ls t 0).length ≤ 60) := fun h => La.send_ok (hFX.trans h)
      rw [hFX] at hr hc
      obtain ⟨LA7, hA7, hA7e⟩ : ∃ L7, Lk w7 az ao am L7 ∧ (FX = 0 → L7 = (La.la t (2 * t)).put 0 t (La.M ls t 0)) ∧ (L7.out.length ≤ 4 ∧ (0 ≤ L7.now ∧ L7.now ≤ 1000000) ∧ (0 ≤ L7.delay ∧ L7.delay ≤ 20) ∧ L7.many ≤ 1000000) := by
        rcases hc with ⟨h0, h⟩ | ⟨h0, h⟩
        · exact ⟨_, h, fun _ => rfl, by simp [La.la, LoV.put], by simp only [La.la, LoV.put]; have := T12.out; omega, by simp [La.la, LoV.put], by simp only [La.la, LoV.put]; have := T12.out; omega⟩
        · exact ⟨_, h, fun e => absurd e h0, by simp [La.la], by simp only [La.la]; have := T12.out; omega, by simp [La.la], by simp only [La.la]; have := T12.out; omega⟩
      have A7 : Hid (Lk w7 az ao am LA7) := hA7
      have E7 : Hid ((FX = 0 → LA7 = (La.la t (2 * t)).put 0 t (La.M ls t 0)) ∧ (LA7.out.length ≤ 4 ∧ (0 ≤ LA7.now ∧ LA7.now ≤ 1000000) ∧ (0 ≤ LA7.delay ∧ LA7.delay ≤ 20) ∧ LA7.many ≤ 1000000)) := hA7e
      have R7 : Hid (Er r7 FX) := hr
      clear hr hf hc hFX hA7 hA7e A6 Bb6 B6 O6
      go_wp2_with fail
      refine (MN.out w7 B7.out t 1 TL.out.2).mono ?_
      rintro e w8 ⟨u8, rfl, ho, b8⟩
      have B8 : Hid (Below w0.heap.size w0 w8) := B7.out.trans (b8.mono B7.out.size)
      have A8 : Hid (Lk w8 az ao am LA7) := A7.out.below b8
      have Bb8 : Hid (Lk w8 bz bo bm (La.lb ls delay t s (2 * s))) := Bb7.out.below b8
      have O8 : Hid (Orl w8 u8 (La.M ls t 1)) := ho.l
      clear ho b8 A7 Bb7 B7
      go_wp2_with fail
      refine (lsend_any az ao am LA7 1 t u8 (La.M ls t 1) w8 A8.out E7.out.2.1 E7.out.2.2.1 E7.out.2.2.2.1 E7.out.2.2.2.2 (pmwf (by decide) (by decide)) WT.out O8.out).mono ?_
      rintro e w9 ⟨r9, rfl, hr, hf, hc⟩
      have B9 : Hid (Below w0.heap.size w0 w9) := B8.out.trans (hf.low B8.out.size HA.out.1 HA.out.2.1 HA.out.2.2)
      have Bb9 : Hid (Lk w9 bz bo bm (La.lb ls delay t s (2 * s))) := Bb8.out.other A8.out hf NE.out.2
      clear hf A8 Bb8 B8 O8
      rcases er_split R7.out with ⟨hFX, rfl⟩ | ⟨-, G7, rfl⟩
      case inr =>
        clear hr hc
        go_wp2
        go_ret
        exact ⟨rfl, BS.out.trans (B9.out.mono BS.out.size)⟩
      have M7 : Hid ((La.M ls t 0).length ≤ 60) := L7.out hFX
      have EQ7 := E7.out.1 hFX
      subst EQ7
      rcases er_split hr with ⟨hFY, rfl⟩ | ⟨-, G9, rfl⟩
      case inr =>
        clear hc
        go_wp2
        go_ret
        exact ⟨rfl, BS.out.trans (B9.out.mono BS.out.size)⟩
      have M9 : Hid ((La.M ls t 1).length ≤ 60) := La.send_ok hFY
      have A9 : Hid (Lk w9 az ao am (La.lf t (2 * t) (La.M ls t 0) (La.M ls t 1))) := by
        rcases hc with ⟨-, h⟩ | ⟨h, -⟩
        · exact h
        · exact absurd hFY h
      clear hr hc hFX hFY R7 E7 L7
      go_wp2_with fail
      go_loopw [16] (fun v16 W => LbI ls delay kk t az ao am bz bo bm w0 v16 W) (fun v16 _ => kk - (intOf v16).toNat)
      case atStart => exact ⟨s, hs, hts, rfl, A9.out, Bb9.out, LN.out, B9.out⟩
      case round =>
        obtain ⟨s', hs', hts', rfl, ka, kb, hlen, hb⟩ := hrel
        have C1 : Hid (Lk wr az ao am (La.lf t (2 * t) (La.M ls t 0) (La.M ls t 1))) := ka
        have D1 : Hid (Lk wr bz bo bm (La.lb ls delay t s' (2 * s'))) := kb
        have LN' : Hid (∀ i, t ≤ i → i < s' → (La.M ls i 0).length ≤ 60 ∧ (La.M ls i 1).length ≤ 60) := hlen
        have BR' : Hid (Below w0.heap.size w0 wr) := hb
        have S12 : Hid (s' ≤ 12 ∧ t ≤ s') := by have := KK.out; unfold Hid; omega
        have SW : IntKind.i64.wrap ((s' : Int) - (t : Int)) = (s' : Int) - (t : Int) := by rw [IntKind.wrap_i64]; have := S12.out; omega
        clear ka kb hlen hb LN A9 Bb9 B9
        by_cases hgo : s' < kk ∧ (s' : Int) - (t : Int) ≤ delay
        case pos =>
          obtain ⟨g1, g2⟩ := hgo
          have g1i : (s' : Int) < (kk : Nat) := by omega
          have SW1 : IntKind.i64.wrap ((s' : Int) + 1) = (s' : Int) + 1 := by rw [IntKind.wrap_i64]; have := S12.out; omega
          have SL : Hid (s' < ls.length) := by have := KK.out; unfold Hid; omega
          have DL : Hid (0 ≤ delay ∧ delay ≤ 20) := by unfold Hid; omega
          have WS : Hid ((Lit.int .i64 ((s' : Nat) : Int)).wf = true) := pmwf (by omega) (by have := S12.out; omega)
          go_wp2_with fail
          refine (MN.out wr BR'.out s' 1 SL.out).mono ?_
          rintro e x6 ⟨u6, rfl, ho, b6⟩
          have B6 : Hid (Below w0.heap.size w0 x6) := BR'.out.trans (b6.mono BR'.out.size)
          have C6 : Hid (Lk x6 az ao am (La.lf t (2 * t) (La.M ls t 0) (La.M ls t 1))) := C1.out.below b6
          have D6 : Hid (Lk x6 bz bo bm (La.lb ls delay t s' (2 * s'))) := D1.out.below b6
          have O6 : Hid (Orl x6 u6 (La.M ls s' 1)) := ho.l
          clear ho b6 C1 D1 BR'
          go_wp2_with fail
          refine (lsend_any bz bo bm _ 1 s' u6 (La.M ls s' 1) x6 D6.out (by simp [La.lb]) (by simp only [La.lb]; have := T12.out; omega) DL.out (by simp only [La.lb]; have := S12.out; omega) (pmwf (by decide) (by decide)) WS.out O6.out).mono ?_
          rintro e x7 ⟨r7, rfl, hr, hf, hc⟩
          have B7 : Hid (Below w0.heap.size w0 x7) := B6.out.trans (hf.low B6.out.size HB.out.1 HB.out.2.1 HB.out.2.2)
          have C7 : Hid (Lk x7 az ao am (La.lf t (2 * t) (La.M ls t 0) (La.M ls t 1))) := C6.out.other D6.out hf NE.out.1
          obtain ⟨FX, hFX⟩ : ∃ f, sendF (La.lb ls delay t s' (2 * s')) 1 s' (La.M ls s' 1) = f := ⟨_, rfl⟩
          have L7 : Hid (FX = 0 → (La.M ls s' 1).length ≤ 60) := fun h => La.send_ok (hFX.trans h)
          rw [hFX] at hr hc
          obtain ⟨LA7, hA7, hA7e⟩ : ∃ L7, Lk x7 bz bo bm L7 ∧ (FX = 0 → L7 = (La.lb ls delay t s' (2 * s')).put 1 s' (La.M ls s' 1)) ∧ (L7.out.length ≤ 4 ∧ (0 ≤ L7.now ∧ L7.now ≤ 1000000) ∧ (0 ≤ L7.delay ∧ L7.delay ≤ 20) ∧ L7.many ≤ 1000000) := by
            have t12 := T12.out
            have s12 := S12.out
            rcases hc with ⟨h0, h⟩ | ⟨h0, h⟩
            · exact ⟨_, h, fun _ => rfl, by simp [La.lb, LoV.put], by simp only [La.lb, LoV.put]; omega, DL.out, by simp only [La.lb, LoV.put]; omega⟩
            · exact ⟨_, h, fun e => absurd e h0, by simp [La.lb], by simp only [La.lb]; omega, DL.out, by simp only [La.lb]; omega⟩
          have D7 : Hid (Lk x7 bz bo bm LA7) := hA7
          have E7 : Hid ((FX = 0 → LA7 = (La.lb ls delay t s' (2 * s')).put 1 s' (La.M ls s' 1)) ∧ (LA7.out.length ≤ 4 ∧ (0 ≤ LA7.now ∧ LA7.now ≤ 1000000) ∧ (0 ≤ LA7.delay ∧ LA7.delay ≤ 20) ∧ LA7.many ≤ 1000000)) := hA7e
          have R7 : Hid (Er r7 FX) := hr
          clear hr hf hc hFX hA7 hA7e C6 D6 B6 O6
          go_wp2_with fail
          refine (MN.out x7 B7.out s' 0 SL.out).mono ?_
          rintro e x8 ⟨u8, rfl, ho, b8⟩
          have B8 : Hid (Below w0.heap.size w0 x8) := B7.out.trans (b8.mono B7.out.size)
          have C8 : Hid (Lk x8 az ao am (La.lf t (2 * t) (La.M ls t 0) (La.M ls t 1))) := C7.out.below b8
          have D8 : Hid (Lk x8 bz bo bm LA7) := D7.out.below b8
          have O8 : Hid (Orl x8 u8 (La.M ls s' 0)) := ho.l
          clear ho b8 C7 D7 B7
          go_wp2_with fail
          refine (lsend_any bz bo bm LA7 0 s' u8 (La.M ls s' 0) x8 D8.out E7.out.2.1 E7.out.2.2.1 E7.out.2.2.2.1 E7.out.2.2.2.2 (pmwf (by decide) (by decide)) WS.out O8.out).mono ?_
          rintro e x9 ⟨r9, rfl, hr, hf, hc⟩
          have B9 : Hid (Below w0.heap.size w0 x9) := B8.out.trans (hf.low B8.out.size HB.out.1 HB.out.2.1 HB.out.2.2)
          have C9 : Hid (Lk x9 az ao am (La.lf t (2 * t) (La.M ls t 0) (La.M ls t 1))) := C8.out.other D8.out hf NE.out.1
          clear hf C8 D8 B8 O8
          rcases er_split R7.out with ⟨hFX, rfl⟩ | ⟨-, G7, rfl⟩
          case inr =>
            clear hr hc
            go_wp2
            go_ret
            exact ⟨rfl, BS.out.trans (B9.out.mono BS.out.size)⟩
          have N1 : Hid ((La.M ls s' 1).length ≤ 60) := L7.out hFX
          have EQ7 := E7.out.1 hFX
          subst EQ7
          rcases er_split hr with ⟨hFY, rfl⟩ | ⟨-, G9, rfl⟩
          case inr =>
            clear hc
            go_wp2
            go_ret
            exact ⟨rfl, BS.out.trans (B9.out.mono BS.out.size)⟩
          have N0 : Hid ((La.M ls s' 0).length ≤ 60) := La.send_ok hFY
          have D9 : Hid (Lk x9 bz bo bm (La.lb ls delay t (s' + 1) (2 * (s' + 1)))) := by
            rcases hc with ⟨-, h⟩ | ⟨h, -⟩
            · rw [La.lb_put S12.out.2] at h
              exact h
            · exact absurd hFY h
          have LNN : Hid (∀ i, t ≤ i → i < s' + 1 → (La.M ls i 0).length ≤ 60 ∧ (La.M ls i 1).length ≤ 60) := fun i h1 h2 => by
            by_cases e : i = s'
            · subst e; exact ⟨N0.out, N1.out⟩
            · exact LN'.out i h1 (by omega)
          clear hr hc hFX hFY R7 E7 L7
          go_wp2
          go_round
          case rel => exact ⟨s' + 1, by omega, by omega, by go_num, C9.out, D9.out, LNN.out, B9.out⟩
          case measure => simp [intOf]; omega
        case neg =>
          have TS : Hid (t < s') := by have := TL.out; have := S12.out; unfold Hid; omega
          have DD : (¬ (s' : Int) < (kk : Nat)) ∨ ((s' : Int) < (kk : Nat) ∧ ¬ (s' : Int) - (t : Int) ≤ delay) := by omega
          have TW1 : IntKind.i64.wrap ((t : Int) + 1) = (t : Int) + 1 := by rw [IntKind.wrap_i64]; have := T12.out; omega
          clear hgo
          obtain ⟨F, hF⟩ : ∃ F, Od.faults (La.M ls t 0 ++ La.M ls t 1) = F := ⟨_, rfl⟩
          have HF : Hid (Od.faults (La.M ls t 0 ++ La.M ls t 1) = F) := hF
          clear hF
          rcases DD with dd | ⟨dd1, dd2⟩
          all_goals
            go_wp2_with fail
            refine (ltake_any az ao am _ wr C1.out (by simp [La.lf, La.la, LoV.put]) (by simp only [La.lf, La.la, LoV.put]; have := T12.out; omega) (fun t p l h => by rcases La.lf_sent h with rfl | rfl; exact M7.out; exact M9.out)).mono ?_
            rintro e w10 ⟨n1, ua, ra, rfl, hf, hc⟩
            rw [La.lf_ls, La.lf_took, HF.out] at hc
            have B10 : Hid (Below w0.heap.size w0 w10) := BR'.out.trans (hf.low BR'.out.size HA.out.1 HA.out.2.1 HA.out.2.2)
            have D10 : Hid (Lk w10 bz bo bm (La.lb ls delay t s' (2 * s'))) := D1.out.other C1.out hf NE.out.2
            by_cases hF0 : F = 0
            case neg =>
              have FN : Hid (F ≠ 0) := hF0
              obtain ⟨rfl, rfl, rfl⟩ : n1 = 0 ∧ ua = .slice none 0 0 ∧ ra = .iface 43 (.int .i64 F) := by
                rcases hc with ⟨h, -⟩ | ⟨-, -, h1, h2, h3, -⟩ | ⟨-, h, -⟩
                · exact absurd (La.lf_waits t (2 * t) _ _) h
                · refine ⟨h1, h2, ?_⟩
                  rcases h3 with ⟨h, -⟩ | ⟨-, h⟩
                  · exact absurd h hF0
                  · exact h
                · exact absurd h hF0
              clear hc hf hF0
              go_wp2_with fail
              refine (ltake_any bz bo bm _ w10 D10.out (by simp [La.lb]) (by simp only [La.lb]; have := T12.out; omega) (fun t p l h => by obtain ⟨i, i1, i2, rfl | rfl⟩ := La.lb_sent h; exact (LN'.out i i1 i2).1; exact (LN'.out i i1 i2).2)).mono ?_
              rintro e w11 ⟨n2, ub, rb, rfl, hf, hc⟩
              rw [La.lb_ls TS.out, HF.out] at hc
              have B11 : Hid (Below w0.heap.size w0 w11) := B10.out.trans (hf.low B10.out.size HB.out.1 HB.out.2.1 HB.out.2.2)
              obtain ⟨rfl, rfl, rfl⟩ : n2 = 0 ∧ ub = .slice none 0 0 ∧ rb = .iface 43 (.int .i64 F) := by
                rcases hc with ⟨h, -⟩ | ⟨-, -, h1, h2, h3, -⟩ | ⟨-, h, -⟩
                · exact absurd (La.lb_waits TS.out) h
                · refine ⟨h1, h2, ?_⟩
                  rcases h3 with ⟨h, -⟩ | ⟨-, h⟩
                  · exact absurd h FN.out
                  · exact h
                · exact absurd h FN.out
              clear hc hf
              go_upto_region 35 with fail
              go_quiet (fail)
              go_wp2
              go_ret
              exact ⟨rfl, below_dn9 (BS.out.trans (B11.out.mono BS.out.size)) _⟩
            case pos =>
              subst hF0
              obtain ⟨rfl, rfl, out, hls, hoo, hk⟩ : n1 = (t : Int) ∧ ra = .nilIface ∧ ∃ out, LastSays (La.M ls t 0 ++ La.M ls t 1) out ∧ Oro w10 wr.heap.size ua out ∧ Lk w10 az ao am (La.la (t + 1) (2 * t + 2)) := by
                rcases hc with ⟨h, -⟩ | ⟨-, h, -⟩ | ⟨-, -, h1, h2, ⟨out, h3, h4⟩, h5⟩
                · exact absurd (La.lf_waits t (2 * t) _ _) h
                · exact absurd rfl h
                · exact ⟨h1, h2, out, h3, h4, h5⟩
              have LS1 : Hid (LastSays (La.M ls t 0 ++ La.M ls t 1) out) := hls
              have OA : Hid (Orl w10 ua out) := hoo.l
              have A10 : Hid (Lk w10 az ao am (La.la (t + 1) (2 * (t + 1)))) := hk
              obtain ⟨aa, ca, rfl⟩ := hoo.len
              clear hc hf hls hoo hk
              go_wp2_with fail
              refine (ltake_any bz bo bm _ w10 D10.out (by simp [La.lb]) (by simp only [La.lb]; have := T12.out; omega) (fun t p l h => by obtain ⟨i, i1, i2, rfl | rfl⟩ := La.lb_sent h; exact (LN'.out i i1 i2).1; exact (LN'.out i i1 i2).2)).mono ?_
              rintro e w11 ⟨n2, ub, rb, rfl, hf, hc⟩
              rw [La.lb_ls TS.out, La.lb_took, HF.out] at hc
              have B11 : Hid (Below w0.heap.size w0 w11) := B10.out.trans (hf.low B10.out.size HB.out.1 HB.out.2.1 HB.out.2.2)
              have A11 : Hid (Lk w11 az ao am (La.la (t + 1) (2 * (t + 1)))) := A10.out.other D10.out hf NE.out.1
              have OA1 : Hid (Orl w11 (.slice aa out.length ca) out) := D10.out.orl hf OA.out
              obtain ⟨rfl, rfl, out2, hls, hoo, hk⟩ : n2 = (t : Int) ∧ rb = .nilIface ∧ ∃ out, LastSays (La.M ls t 0 ++ La.M ls t 1) out ∧ Oro w11 w10.heap.size ub out ∧ Lk w11 bz bo bm (La.lb ls delay (t + 1) s' (2 * s')) := by
                rcases hc with ⟨h, -⟩ | ⟨-, h, -⟩ | ⟨-, -, h1, h2, ⟨out, h3, h4⟩, h5⟩
                · exact absurd (La.lb_waits TS.out) h
                · exact absurd rfl h
                · exact ⟨h1, h2, out, h3, h4, h5⟩
              obtain rfl := hls.one LS1.out
              have OB1 : Hid (Orl w11 ub out2) := hoo.l
              have D11 : Hid (Lk w11 bz bo bm (La.lb ls delay (t + 1) s' (2 * s'))) := hk
              obtain ⟨ab, cb, rfl⟩ := hoo.len
              clear hc hf hls hoo hk
              go_wp2_with fail
              refine (orders_like _ _ out2 w11 OA1.out OB1.out).mono ?_
              rintro e w12 ⟨rfl, b12⟩
              have B12 : Hid (Below w0.heap.size w0 w12) := B11.out.trans (b12.mono B11.out.size)
              have A12 : Hid (Lk w12 az ao am (La.la (t + 1) (2 * (t + 1)))) := A11.out.below b12
              have D12 : Hid (Lk w12 bz bo bm (La.lb ls delay (t + 1) s' (2 * s'))) := D11.out.below b12
              have LN2 : Hid (∀ i, t + 1 ≤ i → i < s' → (La.M ls i 0).length ≤ 60 ∧ (La.M ls i 1).length ≤ 60) := fun i h1 h2 => LN'.out i (by omega) h2
              clear b12
              go_wp2
              go_round
              case rel => exact ⟨t + 1, s', by have := TL.out; omega, hs', TS.out, by go_num, rfl, A12.out, D12.out, LN2.out, B12.out⟩
              case measure => have := TL.out; simp [intOf]; omega
end Go.Proofs.Ytbomnicnoanjlaa.lockAlike

