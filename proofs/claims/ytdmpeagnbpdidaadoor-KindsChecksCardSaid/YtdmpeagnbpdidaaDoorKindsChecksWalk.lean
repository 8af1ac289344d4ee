/- KindsChecks: the walk. -/
import Derived.Test.YtdmpeagnbpdidaaDoorSame
import Derived.Test.YtdmpeagnbpdidaaDoorRkV
import Derived.Test.YtdmpeagnbpdidaaDoorRkP
import Derived.Test.YtdmpeagnbpdidaaDoorKnM
import Derived.Test.YtdmpeagnbpdidaaDoorKdG
import Derived.Test.YtdmpeagnbpdidaaDoorUnG
namespace Go.Proofs.YtdmpeagnbpdidaaDoor.kindsChecks
open Go.RowKit
set_option linter.unusedVariables false

/-- what is told of units; their worth. -/
def wNum (R : Int) (ks : List KV) (us : List UnV) : Int := if R ≠ 0 then R else if 40 < us.length then 4 else if us.any (unBad ks) then 1 else 0
def wList (R : Int) (ks : List KV) (us : List UnV) : List Int := if R ≠ 0 then [] else if 40 < us.length then [] else if us.any (unBad ks) then [] else worths ks us
theorem refw_is {R : Int} {ks : List KV} {us : List UnV} {w : World} {r : Value} {n : Int} (h : RefW R ks us w r n) : n = wNum R ks us ∧ Ro w r (wList R ks us) := by
  unfold wNum wList
  rcases h with ⟨h0, hr, rfl⟩ | ⟨h0, h1, hr, rfl⟩ | ⟨h0, h1, h2, hr, rfl⟩ | ⟨h0, h1, h2, hr, rfl⟩
  · rw [if_pos h0, if_pos h0]; exact ⟨rfl, hr⟩
  · have n1 : ¬ R ≠ 0 := by omega
    rw [if_neg n1, if_neg n1, if_pos h1, if_pos h1]; exact ⟨rfl, hr⟩
  · have n1 : ¬ R ≠ 0 := by omega
    have n2 : ¬ 40 < us.length := by omega
    rw [if_neg n1, if_neg n1, if_neg n2, if_neg n2, if_pos h2, if_pos h2]; exact ⟨rfl, hr⟩
  · have n1 : ¬ R ≠ 0 := by omega
    have n2 : ¬ 40 < us.length := by omega
    have n3 : ¬ us.any (unBad ks) = true := by rw [h2]; decide
    rw [if_neg n1, if_neg n1, if_neg n2, if_neg n2, if_neg n3, if_neg n3]; exact ⟨rfl, hr⟩
/-- what the loop over names has found. -/
def Fnd (ks : List KV) (l : List UInt8) (n : Nat) (f at_ : Int) : Prop := ((∀ i k, i < n → ks[i]? = some k → k.k.name ≠ l) ∧ f = 6 ∧ at_ = 0) ∨ ∃ (i : Nat) (k : KV), ks[i]? = some k ∧ k.k.name = l ∧ f = 0 ∧ at_ = i

set_option maxRecDepth 100000 in
set_option maxHeartbeats 16000000 in
theorem walk_any (v0 : Value) (ks : List KV) (s1 : ByteArray) (v2 : Value) (us : List UnV) (w : World) (h : Kl w v0 ks) (hb : ∀ k ∈ ks, k.b.size ≤ 9223372036854775807) (hu : Unl w v2 us) (hg : Et w) (hp : Pw w) :
    Calls Tryd.prog 3 #[v0, .string s1, v2] w fun e w' => e = .returned (.bool true) ∧ Below w.heap.size w w' := by
  have K0 : Hid (Kl w v0 ks) := h
  have G0 : Hid (Et w) := hg
  obtain ⟨R, hR⟩ : ∃ R, Kd.kindsFault (ks.map KV.k) = R := ⟨_, rfl⟩
  have RK : Hid (Calls Tryd.prog 5 #[v0] w fun e w' => e = .returned (.int .i64 R) ∧ Below w.heap.size w w') := by rw [← hR]; exact ref_kinds v0 ks w h hb
  have CK : Hid (∀ W, Below w.heap.size w W → Calls Tryd.prog 7 #[v0] W fun e w' => ∃ u, e = .returned u ∧ Er u R ∧ Below W.heap.size W w') := fun W hW => by rw [← hR]; exact kcheck_any v0 ks W (h.below hW) hb
  have PR0 : Hid (∀ W, Below w.heap.size w W → Calls Tryd.prog 9 #[v0] W fun e w' => ∃ u, e = .returned (.tuple #[.string (if R ≠ 0 then ⟨#[]⟩ else bytesOf (Kd.prt (ks.map KV.k))), u]) ∧ Er u R ∧ Below W.heap.size W w') := fun W hW => (kprint_any v0 ks W (h.below hW) hb (hp.below hW)).mono fun e w' ⟨s, u, he, hb', hc⟩ => by
    rw [hR] at hc
    rcases hc with ⟨h0, rfl, hE⟩ | ⟨h0, rfl, hE⟩
    · exact ⟨u, by rw [if_pos h0]; exact he, hE, hb'⟩
    · exact ⟨u, by rw [if_neg (by omega)]; exact he, by rw [h0]; exact hE, hb'⟩
  have FI0 : Hid (∀ W, Below w.heap.size w W → Calls Tryd.prog 10 #[v0, .string s1] W fun e w' => ∃ (n : Int) (u : Value), e = .returned (.tuple #[.int .i64 n, u]) ∧ Below W.heap.size W w' ∧
      ((R ≠ 0 ∧ n = 0 ∧ Er u R) ∨ (R = 0 ∧ (ks.any fun k => k.k.name == s1.data.toList) = false ∧ n = 0 ∧ Er u 6) ∨ (R = 0 ∧ Er u 0 ∧ ∃ (i : Nat) (k : KV), n = i ∧ ks[i]? = some k ∧ k.k.name = s1.data.toList))) := fun W hW => by rw [← hR]; exact kfind_any v0 ks s1 W (h.below hW) hb
  have RP : Hid (R = 0 → ∀ W, Below w.heap.size w W → Calls Tryd.prog 8 #[v0] W fun e w' => e = .returned (.string (bytesOf (Kd.prt (ks.map KV.k)))) ∧ Below W.heap.size W w') := fun h0 W hW => ref_print v0 ks W (h.below hW) (by rw [hR]; exact h0)
  have NO : Hid (R = 0 → ∀ (i j : Nat) (a b : KV), ks[i]? = some a → ks[j]? = some b → a.k.name = b.k.name → i = j) := fun h0 i j a b ha hb he => names_once (by rw [hR]; exact h0) ha hb he
  obtain ⟨wn, hwn⟩ : ∃ wn, wNum R ks us = wn := ⟨_, rfl⟩
  obtain ⟨wl, hwl⟩ : ∃ wl, wList R ks us = wl := ⟨_, rfl⟩
  have RW : Hid (∀ W, Below w.heap.size w W → Calls Tryd.prog 11 #[v0, v2] W fun e w' => ∃ r, e = .returned (.tuple #[r, .int .i64 wn]) ∧ Ro w' r wl ∧ Below W.heap.size W w') := fun W hW => (ref_worth v0 ks v2 us W (h.below hW) hb (hu.below hW)).mono fun e w' ⟨r, n, he, hb', hc⟩ => by
    rw [hR] at hc
    have := refw_is hc
    rw [hwn, hwl] at this
    exact ⟨r, by rw [← this.1]; exact he, this.2, hb'⟩
  have WO : Hid (∀ W, Below w.heap.size w W → Calls Tryd.prog 12 #[v0, v2] W fun e w' => ∃ r u, e = .returned (.tuple #[r, u]) ∧ Ro w' r wl ∧ Er u wn ∧ Below W.heap.size W w') := fun W hW => (worth_any v0 ks v2 us W (h.below hW) hb (hu.below hW)).mono fun e w' ⟨r, u, he, hb', hc⟩ => by
    rw [hR] at hc
    rw [← hwn, ← hwl]
    unfold wNum wList
    rcases hc with ⟨h0, hr, hE⟩ | ⟨h0, h1, hr, hE⟩ | ⟨h0, h1, h2, hr, hE⟩ | ⟨h0, h1, h2, hr, hE⟩
    · rw [if_pos h0, if_pos h0]; exact ⟨r, u, he, hr, hE, hb'⟩
    · have n1 : ¬ R ≠ 0 := by omega
      rw [if_neg n1, if_neg n1, if_pos h1, if_pos h1]; exact ⟨r, u, he, hr, hE, hb'⟩
    · have n1 : ¬ R ≠ 0 := by omega
      have n2 : ¬ 40 < us.length := by omega
      rw [if_neg n1, if_neg n1, if_neg n2, if_neg n2, if_pos h2, if_pos h2]; exact ⟨r, u, he, hr, hE, hb'⟩
    · have n1 : ¬ R ≠ 0 := by omega
      have n2 : ¬ 40 < us.length := by omega
      have n3 : ¬ us.any (unBad ks) = true := by rw [h2]; decide
      rw [if_neg n1, if_neg n1, if_neg n2, if_neg n2, if_neg n3, if_neg n3]; exact ⟨r, u, he, hr, hE, hb'⟩
  have h8 : Hid (R = 0 → ks.length ≤ 8) := fun h0 => (kinds_right (by rw [hR]; exact h0)).1
  obtain ⟨a, c, rfl, c1, c2, -⟩ := h
  obtain ⟨au, cu, rfl, cu1, cu2, -⟩ := hu
  clear hR hwn hwl hb hg hp
  go_enter Tryd.func3, Tryd.ntmps3
  go_wp2_with fail
  refine RK.out.mono ?_
  rintro e w1 ⟨rfl, b1⟩
  have B1 : Hid (Below w.heap.size w w1) := b1
  clear b1 RK
  go_wp2_with fail
  refine (CK.out _ B1.out).mono ?_
  rintro e w2 ⟨u2, rfl, hu2, b2⟩
  have B2 : Hid (Below w.heap.size w w2) := B1.out.trans (b2.mono B1.out.size)
  have E2 : Hid (Er u2 R) := hu2
  clear hu2 b2 B1 CK
  go_wp2_with fail
  refine (er_same _ _ _ E2.out (G0.out.below B2.out)).mono ?_
  rintro e w2' ⟨rfl, b2⟩
  have BA : Hid (Below w.heap.size w w2') := B2.out.trans (b2.mono B2.out.size)
  clear b2 B2 E2
  by_cases h0 : R = 0
  · have P0 : Hid (∀ W, Below w.heap.size w W → Calls Tryd.prog 8 #[.slice a ks.length c] W fun e w' => e = .returned (.string (bytesOf (Kd.prt (ks.map KV.k)))) ∧ Below W.heap.size W w') := RP.out h0
    have PR : Hid (∀ W, Below w.heap.size w W → Calls Tryd.prog 9 #[.slice a ks.length c] W fun e w' => ∃ u, e = .returned (.tuple #[.string (bytesOf (Kd.prt (ks.map KV.k))), u]) ∧ Er u R ∧ Below W.heap.size W w') := by
      have := PR0.out
      rw [if_neg (by omega)] at this
      exact this
    have H0 : Hid (R = 0) := h0
    have h8' := h8.out h0
    have NO2 : Hid (∀ (i j : Nat) (a b : KV), ks[i]? = some a → ks[j]? = some b → a.k.name = b.k.name → i = j) := NO.out h0
    clear NO
    generalize bytesOf (Kd.prt (ks.map KV.k)) = want at *
    clear RP PR0 h8
    subst h0
    go_wp2_with fail
    refine (P0.out _ BA.out).mono ?_
    rintro e w12 ⟨rfl, b12⟩
    have BB : Hid (Below w.heap.size w w12) := BA.out.trans (b12.mono BA.out.size)
    clear b12 BA P0
    go_wp2_with fail
    go_loopw [10, 11, 12] (fun p f i W' => ∃ (n : Nat) (f' at_ : Int), n ≤ ks.length ∧ i = .int .i64 (n : Nat) ∧ f = .int .i64 f' ∧ p = .int .i64 at_ ∧ Fnd ks s1.data.toList n f' at_ ∧ Below w.heap.size w W') (fun _ _ i _ => ks.length - (intOf i).toNat)
    case atStart => exact ⟨0, 6, 0, Nat.zero_le _, rfl, rfl, rfl, .inl ⟨fun i k h => absurd h (by omega), rfl, rfl⟩, BB⟩
    case round =>
      obtain ⟨n, f', at_, hn, rfl, rfl, rfl, hf, hbw⟩ := hrel
      have HF : Hid (Fnd ks s1.data.toList n f' at_) := hf
      have BA : Hid (Below w.heap.size w wr) := hbw
      clear hf hbw
      by_cases hne : n = ks.length
      · have FI : Hid (∀ W, Below w.heap.size w W → Calls Tryd.prog 10 #[.slice a ks.length c, .string s1] W fun e w' => ∃ u, e = .returned (.tuple #[.int .i64 at_, u]) ∧ Er u f' ∧ Below W.heap.size W w') := fun W hW => (FI0.out W hW).mono fun e w' ⟨m, u, he, hb', hc⟩ => by
          rcases hc with hc | hc | ⟨-, hE, i, k, rfl, h1, h2⟩
          · exact absurd rfl hc.1
          · obtain ⟨-, h1, rfl, hE⟩ := hc
            rcases HF.out with ⟨-, rfl, rfl⟩ | ⟨i, k, h3, h4, -⟩
            · exact ⟨u, he, hE, hb'⟩
            · rw [List.any_eq_false] at h1
              exact absurd (by rw [h4]; simp) (h1 k (List.mem_of_getElem? h3))
          · rcases HF.out with ⟨h3, -⟩ | ⟨j, k', h3, h4, rfl, rfl⟩
            · exact absurd h2 (h3 i k (by rw [hne]; exact (List.getElem?_eq_some_iff.1 h1).1) h1)
            · have := NO2.out i j k k' h1 h3 (by rw [h2, h4])
              subst this
              exact ⟨u, he, hE, hb'⟩
        subst hne
        clear HF FI0 NO2
        go_wp2_with fail
        refine (PR.out _ BA.out).mono ?_
        rintro e w3 ⟨u3, rfl, hu3, b3⟩
        have B3 : Hid (Below w.heap.size w w3) := BA.out.trans (b3.mono BA.out.size)
        have E3 : Hid (Er u3 _) := hu3
        clear hu3 b3 BA PR
        go_wp2_with fail
        refine (er_same _ _ _ E3.out (G0.out.below B3.out)).mono ?_
        rintro e w4 ⟨rfl, b4⟩
        have B4 : Hid (Below w.heap.size w w4) := B3.out.trans (b4.mono B3.out.size)
        clear b4 B3 E3
        go_wp2_with fail
        refine (FI.out _ B4.out).mono ?_
        rintro e w5 ⟨u5, rfl, hu5, b5⟩
        have B5 : Hid (Below w.heap.size w w5) := B4.out.trans (b5.mono B4.out.size)
        have E5 : Hid _ := hu5
        clear hu5 b5 B4 FI
        go_wp2_with fail
        refine (er_same _ _ _ E5.out (G0.out.below B5.out)).mono ?_
        rintro e w6 ⟨rfl, b6⟩
        have B6 : Hid (Below w.heap.size w w6) := B5.out.trans (b6.mono B5.out.size)
        clear b6 B5 E5
        go_wp2_with fail
        refine (RW.out _ B6.out).mono ?_
        rintro e w7 ⟨r7, rfl, hr7, b7⟩
        have B7 : Hid (Below w.heap.size w w7) := B6.out.trans (b7.mono B6.out.size)
        have R7 : Hid (Ro w7 r7 wl) := hr7
        clear hr7 b7 B6 RW
        go_wp2_with fail
        refine (WO.out _ B7.out).mono ?_
        rintro e w8 ⟨r8, u8, rfl, hr8, hu8, b8⟩
        have B8 : Hid (Below w.heap.size w w8) := B7.out.trans (b8.mono B7.out.size)
        have R78 : Hid (Ro w8 r7 wl) := R7.out.below b8
        have R8 : Hid (Ro w8 r8 wl) := hr8
        have E8 : Hid (Er u8 wn) := hu8
        clear hr8 hu8 b8 B7 WO R7
        go_wp2_with fail
        refine (er_same _ _ _ E8.out (G0.out.below B8.out)).mono ?_
        rintro e w9 ⟨rfl, b9⟩
        have B9 : Hid (Below w.heap.size w w9) := B8.out.trans (b9.mono B8.out.size)
        have R79 : Hid (Ro w9 r7 wl) := R78.out.below b9
        have R9 : Hid (Ro w9 r8 wl) := R8.out.below b9
        clear b9 B8 E8 R78 R8
        go_wp2_with fail
        refine (ints_like _ _ wl _ R9.out R79.out).mono ?_
        rintro e w10 ⟨rfl, b10⟩
        have B10 : Hid (Below w.heap.size w w10) := B9.out.trans (b10.mono B9.out.size)
        clear b10 B9 R79 R9
        go_wp2
        go_ret
        exact ⟨by simp, B10⟩
      · have hnl : n < ks.length := by omega
        have hnl' : (n : Int) < (ks.length : Int) := by omega
        obtain ⟨k, hk⟩ : ∃ k, ks[n]? = some k := ⟨_, List.getElem?_eq_getElem hnl⟩
        have Kk := K0.out.below BA.out
        obtain ⟨a', c', e, -, -, hkx⟩ := Kk
        injection e with e1 e2 e3
        subst e1 e3
        obtain ⟨xk, rfl, hxk1, hxk⟩ := hkx (by rintro rfl; simp at hnl)
        have k0 : wr.cell? (xk.add (n * 11)) = some (.string k.b) := (hxk n k hk).c0
        clear hkx hxk e2 hxk1
        by_cases hE : k.k.name = s1.data.toList
        · have HF2 : Hid (Fnd ks s1.data.toList (n + 1) 0 (n : Int)) := .inr ⟨n, k, hk, hE, rfl, rfl⟩
          have hq : (k.b.toList == s1.toList) = true := by
            rw [ByteArray.toList_eq, ByteArray.toList_eq]
            have : k.b.data.toList = s1.data.toList := hE
            rw [this]
            simp
          clear hE hk
          go_wp2
          go_round
          case rel => exact ⟨n + 1, 0, (n : Int), by omega, by go_num, rfl, rfl, HF2, BA⟩
          case measure => simp [intOf]; omega
        · have HF2 : Hid (Fnd ks s1.data.toList (n + 1) f' at_) := by
            rcases HF.out with ⟨h1, h2, h3⟩ | h1
            · refine .inl ⟨fun i k' hi hk' => ?_, h2, h3⟩
              by_cases hin : i = n
              · subst hin
                rw [hk] at hk'
                injection hk' with hk'
                subst hk'
                exact hE
              · exact h1 i k' (by omega) hk'
            · exact .inr h1
          have hq : (k.b.toList == s1.toList) = false := by
            rw [ByteArray.toList_eq, ByteArray.toList_eq]
            cases h9 : (k.b.data.toList == s1.data.toList) with
            | false => rfl
            | true => exact absurd (beq_iff_eq.1 h9) hE
          clear hE hk
          go_wp2
          go_round
          case rel => exact ⟨n + 1, f', at_, by omega, by go_num, rfl, rfl, HF2, BA⟩
          case measure => simp [intOf]; omega
  · have PR : Hid (∀ W, Below w.heap.size w W → Calls Tryd.prog 9 #[.slice a ks.length c] W fun e w' => ∃ u, e = .returned (.tuple #[.string ⟨#[]⟩, u]) ∧ Er u R ∧ Below W.heap.size W w') := by
      have := PR0.out
      rw [if_pos h0] at this
      exact this
    have FI : Hid (∀ W, Below w.heap.size w W → Calls Tryd.prog 10 #[.slice a ks.length c, .string s1] W fun e w' => ∃ u, e = .returned (.tuple #[.int .i64 0, u]) ∧ Er u R ∧ Below W.heap.size W w') := fun W hW => (FI0.out W hW).mono fun e w' ⟨m, u, he, hb', hc⟩ => by
      rcases hc with ⟨-, rfl, hE⟩ | hc | hc
      · exact ⟨u, he, hE, hb'⟩
      · exact absurd hc.1 h0
      · exact absurd hc.1 h0
    clear FI0 NO RP PR0 h8
    go_wp2_with fail
    refine (PR.out _ BA.out).mono ?_
    rintro e w3 ⟨u3, rfl, hu3, b3⟩
    have B3 : Hid (Below w.heap.size w w3) := BA.out.trans (b3.mono BA.out.size)
    have E3 : Hid (Er u3 _) := hu3
    clear hu3 b3 BA PR
    go_wp2_with fail
    refine (er_same _ _ _ E3.out (G0.out.below B3.out)).mono ?_
    rintro e w4 ⟨rfl, b4⟩
    have B4 : Hid (Below w.heap.size w w4) := B3.out.trans (b4.mono B3.out.size)
    clear b4 B3 E3
    go_wp2_with fail
    refine (FI.out _ B4.out).mono ?_
    rintro e w5 ⟨u5, rfl, hu5, b5⟩
    have B5 : Hid (Below w.heap.size w w5) := B4.out.trans (b5.mono B4.out.size)
    have E5 : Hid _ := hu5
    clear hu5 b5 B4 FI
    go_wp2_with fail
    refine (er_same _ _ _ E5.out (G0.out.below B5.out)).mono ?_
    rintro e w6 ⟨rfl, b6⟩
    have B6 : Hid (Below w.heap.size w w6) := B5.out.trans (b6.mono B5.out.size)
    clear b6 B5 E5
    go_wp2_with fail
    refine (RW.out _ B6.out).mono ?_
    rintro e w7 ⟨r7, rfl, hr7, b7⟩
    have B7 : Hid (Below w.heap.size w w7) := B6.out.trans (b7.mono B6.out.size)
    have R7 : Hid (Ro w7 r7 wl) := hr7
    clear hr7 b7 B6 RW
    go_wp2_with fail
    refine (WO.out _ B7.out).mono ?_
    rintro e w8 ⟨r8, u8, rfl, hr8, hu8, b8⟩
    have B8 : Hid (Below w.heap.size w w8) := B7.out.trans (b8.mono B7.out.size)
    have R78 : Hid (Ro w8 r7 wl) := R7.out.below b8
    have R8 : Hid (Ro w8 r8 wl) := hr8
    have E8 : Hid (Er u8 wn) := hu8
    clear hr8 hu8 b8 B7 WO R7
    go_wp2_with fail
    refine (er_same _ _ _ E8.out (G0.out.below B8.out)).mono ?_
    rintro e w9 ⟨rfl, b9⟩
    have B9 : Hid (Below w.heap.size w w9) := B8.out.trans (b9.mono B8.out.size)
    have R79 : Hid (Ro w9 r7 wl) := R78.out.below b9
    have R9 : Hid (Ro w9 r8 wl) := R8.out.below b9
    clear b9 B8 E8 R78 R8
    go_wp2_with fail
    refine (ints_like _ _ wl _ R9.out R79.out).mono ?_
    rintro e w10 ⟨rfl, b10⟩
    have B10 : Hid (Below w.heap.size w w10) := B9.out.trans (b10.mono B9.out.size)
    clear b10 B9 R79 R9
    go_wp2
    go_ret
    exact ⟨by simp, B10⟩

theorem walk (v0 : Value) (ks0 : List KV) (s1 : ByteArray) (v2 : Value) (ks2 : List UnV) (w : World) (w0 : Kl w v0 ks0 ∧ ∀ k ∈ ks0, k.b.size ≤ maxLen) (w1 : s1.size ≤ maxLen) (w2 : Unl w v2 ks2 ∧ ∀ k ∈ ks2, True) (hg : Et w) (hp : Pw w) :
    Calls Tryd.prog 3 #[v0, .string s1, v2] w fun e w' => e = .returned (.bool true) ∧ Below w.heap.size w w' :=
  walk_any v0 ks0 s1 v2 ks2 w w0.1 (fun k hk => by have := w0.2 k hk; unfold maxLen at this; omega) w2.1 hg hp
end Go.Proofs.YtdmpeagnbpdidaaDoor.kindsChecks
