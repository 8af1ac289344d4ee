/- Worlds: what is wrong with a job. -/
import Derived.Test.YthccneiafofakaaDoorWcU
namespace Go.Proofs.YthccneiafofakaaDoor
open Go.RowKit
set_option linter.unusedVariables false

theorem find_fst {us : List UnV} {id : Int} : ∀ {r : Int}, FstU (fun u => u.id == id) us r → (r = -1 ∧ us.find? (fun u => u.id == id) = none) ∨ ∃ (n : Nat) (x : UnV), r = n ∧ us[n]? = some x ∧ us.find? (fun u => u.id == id) = some x
  | r, .inl ⟨h, h1⟩ => .inl ⟨h, by
      rw [List.find?_eq_none]
      intro x hx hp
      have : us.any (fun u => u.id == id) = true := List.any_eq_true.2 ⟨x, hx, hp⟩
      rw [h1] at this; cases this⟩
  | r, .inr ⟨n, x, h, h1, h2, h3⟩ => .inr ⟨n, x, h, h1, by
      have hn : n < us.length := (List.getElem?_eq_some_iff.1 h1).1
      have e : us = us.take n ++ x :: us.drop (n + 1) := by
        obtain ⟨hi, e⟩ := List.getElem?_eq_some_iff.1 h1
        rw [← e, ← List.drop_eq_getElem_cons hi, List.take_append_drop]
      have h4 : (us.take n).find? (fun u => u.id == id) = none := by
        rw [List.find?_eq_none]
        intro y hy hp
        have : (us.take n).any (fun u => u.id == id) = true := List.any_eq_true.2 ⟨y, hy, hp⟩
        rw [h3] at this; cases this
      rw [e, List.find?_append, h4]
      simp only [Option.none_or]
      have h2' : (x.id == id) = true := h2
      simp only [List.find?_cons, h2']⟩
theorem jf6 {ks : List KV} {W : WV} {j : JbV} (h : W.us.find? (fun u => u.id == j.unit) = none) : Wd.jobFault ks W j = 6 := by unfold Wd.jobFault; rw [h]
theorem jf7 {ks : List KV} {W : WV} {j : JbV} {u : UnV} {k : KV} (h : W.us.find? (fun u => u.id == j.unit) = some u) (hk : ks[u.kind.toNat]? = some k) (h7 : u.player ≠ j.player ∨ k.t = false) : Wd.jobFault ks W j = 7 := by
  unfold Wd.jobFault
  rw [h]
  simp only [hk]
  rw [if_pos]
  rcases h7 with h7 | h7 <;> simp [h7]
theorem jf1 {ks : List KV} {W : WV} {j : JbV} {u : UnV} {k : KV} (h : W.us.find? (fun u => u.id == j.unit) = some u) (hk : ks[u.kind.toNat]? = some k) (hp : u.player = j.player) (ht : k.t = true) (h1 : decide (0 ≤ j.kind ∧ j.kind < (ks.length : Int)) = false ∨ decide (1 ≤ j.left ∧ j.left ≤ 1000) = false) : Wd.jobFault ks W j = 1 := by
  unfold Wd.jobFault Wd.has
  rw [h]
  simp only [hk]
  rw [hp, ht, if_neg (by simp), if_pos]
  rcases h1 with h1 | h1 <;> rw [h1] <;> simp
theorem jf0 {ks : List KV} {W : WV} {j : JbV} {u : UnV} {k : KV} (h : W.us.find? (fun u => u.id == j.unit) = some u) (hk : ks[u.kind.toNat]? = some k) (hp : u.player = j.player) (ht : k.t = true) (h1 : decide (0 ≤ j.kind ∧ j.kind < (ks.length : Int)) = true) (h2 : decide (1 ≤ j.left ∧ j.left ≤ 1000) = true) : Wd.jobFault ks W j = 0 := by
  unfold Wd.jobFault Wd.has
  rw [h]
  simp only [hk]
  rw [hp, ht, h1, h2, if_neg (by simp), if_neg (by simp)]
set_option maxRecDepth 100000 in
set_option maxHeartbeats 8000000 in
theorem job_any (vk vw : Value) (ks : List KV) (W : WV) (j : JbV) (w : World) (hk : Kl w vk ks) (hw : Wl w vw W) (hul : W.us.length ≤ 40) (hkl : ks.length ≤ 8) (hall : ∀ u ∈ W.us, 0 ≤ u.kind ∧ u.kind < (ks.length : Int)) :
    Calls Tryd.prog 59 #[vk, vw, j.val] w fun e w' => ∃ r, e = .returned r ∧ Er r (Wd.jobFault ks W j) ∧ Below w.heap.size w w' := by
  have K : Hid (Kl w vk ks) := hk
  have H : Hid (Wl w vw W) := hw
  have HA : Hid (∀ u ∈ W.us, 0 ≤ u.kind ∧ u.kind < (ks.length : Int)) := hall
  obtain ⟨u1, u2, u3, u4, u5, rfl, r1, r2, r3, r4, r5⟩ := hw
  obtain ⟨p4, q4, rfl, k41, k42, k43⟩ := r4
  obtain ⟨pk, qk, rfl, kk1, kk2, kk3⟩ := hk
  have UC : Hid (W.us ≠ [] → ∃ x, p4 = some x ∧ x.block < w.heap.size ∧ ∀ (i : Nat) k, W.us[i]? = some k → Unc w (x.add (i * 8)) k) := k43
  have KK : Hid (ks ≠ [] → ∃ x, pk = some x ∧ x.block < w.heap.size ∧ ∀ (i : Nat) k, ks[i]? = some k → Kc w (x.add (i * 11)) k) := kk3
  clear r1 r2 r3 r5 k43 kk3 hall
  unfold JbV.val
  go_enter Tryd.func59, Tryd.ntmps59
  go_wp2_with fail
  have B0 : Hid (Below w.heap.size w ((w.alloc (Obj.cells #[.int .i64 W.turn, .int .i64 W.next, .int .i64 W.wide, .int .i64 W.high, u1, u2, u3, .slice p4 W.us.length q4, u5] 49)).alloc (Obj.cells #[.int .i64 j.player, .int .i64 j.unit, .int .i64 j.kind, .int .i64 j.left] 105))) := ((Below.refl _ _).alloc (Nat.le_refl _) _).alloc (by simp) _
  have X0 : Hid (Bw ((w.alloc (Obj.cells #[.int .i64 W.turn, .int .i64 W.next, .int .i64 W.wide, .int .i64 W.high, u1, u2, u3, .slice p4 W.us.length q4, u5] 49)).alloc (Obj.cells #[.int .i64 j.player, .int .i64 j.unit, .int .i64 j.kind, .int .i64 j.left] 105)) w.heap.size W u1 u2 u3 (.slice p4 W.us.length q4) u5) := (Bw.mk' W _ _ _ _ _ rfl).below (n := w.heap.size + 1) ((Below.refl _ _).alloc (by simp) _) (Nat.lt_succ_self _)
  have J0 : Hid (Jbc ((w.alloc (Obj.cells #[.int .i64 W.turn, .int .i64 W.next, .int .i64 W.wide, .int .i64 W.high, u1, u2, u3, .slice p4 W.us.length q4, u5] 49)).alloc (Obj.cells #[.int .i64 j.player, .int .i64 j.unit, .int .i64 j.kind, .int .i64 j.left] 105)) ⟨w.heap.size + 1, 0, none⟩ j) := Jbc.mk' j (by simp)
  generalize ((w.alloc (Obj.cells #[.int .i64 W.turn, .int .i64 W.next, .int .i64 W.wide, .int .i64 W.high, u1, u2, u3, .slice p4 W.us.length q4, u5] 49)).alloc (Obj.cells #[.int .i64 j.player, .int .i64 j.unit, .int .i64 j.kind, .int .i64 j.left] 105)) = w0 at *
  generalize w.heap.size + 1 = zj at *
  refine (wfind_any _ W j.unit w0 (H.out.below B0.out)).mono ?_
  rintro e w1 ⟨r, rfl, hf, hb1⟩
  have B1 : Hid (Below w.heap.size w w1) := B0.out.trans (hb1.mono B0.out.size)
  have X1 : Hid (Bw w1 w.heap.size W u1 u2 u3 (.slice p4 W.us.length q4) u5) := X0.out.below hb1 X0.out.lt
  have J1 : Hid (Jbc w1 ⟨zj, 0, none⟩ j) := J0.out.below hb1 J0.out.lt
  clear hb1 X0 J0 B0
  rcases find_fst hf with ⟨rfl, hfn⟩ | ⟨n, u, rfl, hn, hfs⟩
  · have F6 : Hid (Wd.jobFault ks W j = 6) := jf6 hfn
    clear hf hfn
    go_wp2
    go_ret
    exact ⟨_, rfl, by rw [F6.out]; exact Er.no (by decide), B1.out⟩
  · have hnl : n < W.us.length := (List.getElem?_eq_some_iff.1 hn).1
    have hni : (n : Int) < (W.us.length : Int) := by omega
    have hn0 : ¬ (n : Int) < 0 := by omega
    have HF : Hid (W.us.find? (fun u => u.id == j.unit) = some u) := hfs
    obtain ⟨x, rfl, hx, hcell⟩ := UC.out (by intro e; rw [e] at hnl; simp at hnl)
    obtain ⟨d0, d1, d2, d3, d4, d5, d6, d7⟩ := (hcell n u hn).below B1.out (by rw [add_block]; exact hx)
    have hku := HA.out u (List.mem_of_getElem? hn)
    obtain ⟨kn, ek⟩ : ∃ kn : Nat, u.kind = kn := ⟨u.kind.toNat, by omega⟩
    have hkn : kn < ks.length := by omega
    have hkni : (kn : Int) < (ks.length : Int) := by omega
    obtain ⟨k, hkk⟩ : ∃ k, ks[kn]? = some k := ⟨_, List.getElem?_eq_getElem hkn⟩
    have HK : Hid (ks[u.kind.toNat]? = some k) := by unfold Hid; rw [ek, Int.toNat_natCast]; exact hkk
    obtain ⟨xk, rfl, hxk, hkc⟩ := KK.out (by intro e; rw [e] at hkn; simp at hkn)
    have KC1 : Hid (Kc w1 (xk.add (kn * 11)) k) := (hkc kn k hkk).below B1.out (by rw [add_block]; exact hxk)
    have x7 := X1.out.c7
    have EK : Hid (u.kind = kn) := ek
    clear hf hfs hcell hx hn hku hkc hxk hkk ek
    go_upto_region 5 with fail
    have U2 : Hid (Unc (w1.alloc (Obj.cells #[.int .i64 u.id, .int .i64 u.player, .int .i64 u.kind, .int .i64 u.at_, .int .i64 u.life, .int .i64 u.load, .int .i64 u.task, .int .i64 u.goal] 62)) ⟨w1.heap.size, 0, none⟩ u) := Unc.mk' u rfl
    have BA : Hid (Below w1.heap.size w1 (w1.alloc (Obj.cells #[.int .i64 u.id, .int .i64 u.player, .int .i64 u.kind, .int .i64 u.at_, .int .i64 u.life, .int .i64 u.load, .int .i64 u.task, .int .i64 u.goal] 62))) := (Below.refl _ _).alloc (Nat.le_refl _) _
    generalize (w1.alloc (Obj.cells #[.int .i64 u.id, .int .i64 u.player, .int .i64 u.kind, .int .i64 u.at_, .int .i64 u.life, .int .i64 u.load, .int .i64 u.task, .int .i64 u.goal] 62)) = w2 at *
    have B2 : Hid (Below w.heap.size w w2) := B1.out.trans (BA.out.mono B1.out.size)
    have J2 : Hid (Jbc w2 ⟨zj, 0, none⟩ j) := J1.out.below BA.out J1.out.lt
    have KC2 : Hid (Kc w2 (xk.add (kn * 11)) k) := KC1.out.below BA.out KC1.out.lt
    clear d0 d1 d2 d3 d4 d5 d6 d7 x7 X1 J1 KC1 BA B1
    generalize w1.heap.size = zu at *
    obtain ⟨y0, y1, y2, y3, y4, y5, y6, y7⟩ := U2.out
    rw [EK.out] at y2
    obtain ⟨j0, j1, j2, j3⟩ := J2.out
    obtain ⟨l0, l1, l2, l3, l4, l5, l6, l7, l8, l9, l10⟩ := KC2.out
    simp only [Nat.zero_add] at y1 y2 y3 y4 y5 y6 y7 j1 j2 j3
    by_cases hp : u.player = j.player
    · cases ht : k.t with
      | false =>
        have F7 : Hid (Wd.jobFault ks W j = 7) := jf7 HF.out HK.out (.inr ht)
        rw [ht] at l10
        rw [hp] at y1
        clear ht
        go_wp2
        go_ret
        exact ⟨_, rfl, by rw [F7.out]; exact Er.no (by decide), B2.out⟩
      | true =>
        obtain ⟨b4, hb4⟩ : ∃ b, decide (0 ≤ j.kind ∧ j.kind < (ks.length : Int)) = b := ⟨_, rfl⟩
        obtain ⟨b5, hb5⟩ : ∃ b, decide (1 ≤ j.left ∧ j.left ≤ 1000) = b := ⟨_, rfl⟩
        have HB : Hid (decide (0 ≤ j.kind ∧ j.kind < (ks.length : Int)) = b4 ∧ decide (1 ≤ j.left ∧ j.left ≤ 1000) = b5) := ⟨hb4, hb5⟩
        have HPT : Hid (u.player = j.player ∧ k.t = true) := ⟨hp, ht⟩
        rw [ht] at l10
        rw [hp] at y1
        clear ht
        go_wp2_with fail
        refine (isone_kinds _ _ _ _ _ (by omega)).mono ?_
        rintro e w3 ⟨rfl, hww⟩
        obtain rfl := hww.symm
        rw [hb4]
        clear hb4
        cases b4 with
        | false =>
          have F1 : Hid (Wd.jobFault ks W j = 1) := jf1 HF.out HK.out HPT.out.1 HPT.out.2 (.inl HB.out.1)
          clear hb5
          go_wp2
          go_ret
          exact ⟨_, rfl, by rw [F1.out]; exact Er.no (by decide), B2.out⟩
        | true =>
          go_wp2_with fail
          refine (wwithin_any j.left 1 1000 _).mono ?_
          rintro e w4 ⟨rfl, hww⟩
          obtain rfl := hww.symm
          rw [hb5]
          clear hb5
          cases b5 with
          | false =>
            have F1 : Hid (Wd.jobFault ks W j = 1) := jf1 HF.out HK.out HPT.out.1 HPT.out.2 (.inr HB.out.2)
            go_wp2
            go_ret
            exact ⟨_, rfl, by rw [F1.out]; exact Er.no (by decide), B2.out⟩
          | true =>
            have F0 : Hid (Wd.jobFault ks W j = 0) := jf0 HF.out HK.out HPT.out.1 HPT.out.2 HB.out.1 HB.out.2
            go_wp2
            go_ret
            exact ⟨_, rfl, by rw [F0.out]; exact Er.nil, B2.out⟩
    · have F7 : Hid (Wd.jobFault ks W j = 7) := jf7 HF.out HK.out (.inl hp)
      go_wp2
      go_ret
      exact ⟨_, rfl, by rw [F7.out]; exact Er.no (by decide), B2.out⟩
end Go.Proofs.YthccneiafofakaaDoor
