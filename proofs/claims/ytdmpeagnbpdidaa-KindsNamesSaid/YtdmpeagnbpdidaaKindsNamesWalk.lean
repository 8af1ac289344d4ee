/- KindsNames: the walk. -/
import Derived.Test.YtdmpeagnbpdidaaKnM
import Derived.Test.YtdmpeagnbpdidaaUnO
import Derived.Test.YtdmpeagnbpdidaaKdG
namespace Go.Proofs.Ytdmpeagnbpdidaa
open Go.RowKit
set_option linter.unusedVariables false

def srtB : KV := ⟨⟨#[98, 97, 115, 101]⟩, 50, 0, 0, 4, 0, 50, 5, 0, false, true⟩
def srtD : KV := ⟨⟨#[100, 105, 103, 103, 101, 114]⟩, 10, 0, 0, 3, 2, 10, 2, 20, false, false⟩
def srtF : KV := ⟨⟨#[102, 105, 103, 104, 116, 101, 114]⟩, 20, 4, 1, 4, 2, 20, 3, 0, false, false⟩
set_option maxRecDepth 100000 in
set_option maxHeartbeats 2000000 in
theorem sorts_any (w : World) :
    Calls Try.prog 5 #[] w fun e w' => ∃ u, e = .returned u ∧ Kl w' u [srtB, srtD, srtF] ∧ Below w.heap.size w w' := by
  go_enter Try.func5, Try.ntmps5
  go_wp2
  go_ret
  refine ⟨_, rfl, ?_, (Below.refl _ _).alloc (Nat.le_refl _) _⟩
  refine ⟨_, 3, rfl, by decide, by decide, fun _ => ⟨_, rfl, by simp, fun i k hi => ?_⟩⟩
  have hl : i < 3 := (List.getElem?_eq_some_iff.1 hi).1
  rw [Addr.add_lit, Nat.zero_add]
  match i, hl, hi with
  | 0, _, hi => simp at hi; subst hi; constructor <;> simp [srtB]
  | 1, _, hi => simp at hi; subst hi; constructor <;> simp [srtD]
  | 2, _, hi => simp at hi; subst hi; constructor <;> simp [srtF]
theorem srt_ok : Kd.kindsFault ([srtB, srtD, srtF].map KV.k) = 0 := by decide
theorem srt_at {i : Nat} {k : KV} (h : [srtB, srtD, srtF][i]? = some k) (e : k.k.name = [102, 105, 103, 104, 116, 101, 114]) : i = 2 := by
  have hl : i < 3 := (List.getElem?_eq_some_iff.1 h).1
  match i, hl, h with
  | 0, _, h => simp at h; subst h; simp [srtB, KV.k] at e
  | 1, _, h => simp at h; subst h; simp [srtD, KV.k] at e
  | 2, _, h => rfl
theorem fact_any (v : Value) (w : World) (h : Kl w v [srtB, srtD, srtF]) :
    Calls Try.prog 4 #[v, .string ⟨#[102, 105, 103, 104, 116, 101, 114]⟩] w fun e w' => e = .returned (.tuple #[.int .i64 2, .nilIface]) ∧ Below w.heap.size w w' := by
  refine (kfind_any v [srtB, srtD, srtF] _ w h (by
    intro k hk
    simp at hk
    rcases hk with rfl | rfl | rfl <;> decide)).mono ?_
  rintro e w1 ⟨n, u, rfl, b, h1 | h1 | ⟨-, h1, i, k, rfl, h2, h3⟩⟩
  · exact absurd srt_ok h1.1
  · exact absurd h1.2.1 (by decide)
  · have := srt_at h2 h3
    subst this
    rcases h1 with ⟨-, rfl⟩ | ⟨h1, -⟩
    · exact ⟨rfl, b⟩
    · exact absurd rfl h1
end Go.Proofs.Ytdmpeagnbpdidaa

namespace Go.Proofs.Ytdmpeagnbpdidaa.kindsNames
open Go.RowKit
set_option linter.unusedVariables false

set_option maxRecDepth 100000 in
set_option maxHeartbeats 16000000 in
theorem walk (v0 : Value) (ks0 : List KV) (w : World) (w0 : Kl w v0 ks0 ∧ ∀ k ∈ ks0, k.b.size ≤ maxLen) :
    Calls Try.prog 3 #[v0] w fun e w' => e = .returned (.bool true) ∧ Below w.heap.size w w' := by
  obtain ⟨h, hb'⟩ := w0
  have K0 : Hid (Kl w v0 ks0) := h
  have Hb : Hid (∀ k ∈ ks0, k.b.size ≤ 9223372036854775807) := fun k hk => by have := hb' k hk; unfold maxLen at this; omega
  clear hb'
  obtain ⟨a, c, rfl, c1, c2, -⟩ := h
  go_enter Try.func3, Try.ntmps3
  go_wp2_with fail
  refine (sorts_any _).mono ?_
  rintro e w1 ⟨u, rfl, hu, b1⟩
  have B1 : Hid (Below w.heap.size w w1) := b1
  have FA := fact_any u w1 hu
  have FA' : Hid (Calls Try.prog 4 #[u, .string ⟨#[102, 105, 103, 104, 116, 101, 114]⟩] w1 fun e w' => e = .returned (.tuple #[.int .i64 2, .nilIface]) ∧ Below w1.heap.size w1 w') := FA
  clear b1 hu FA
  go_wp2_with fail
  refine FA'.out.mono ?_
  rintro e w2 ⟨rfl, b2⟩
  have B2 : Hid (Below w.heap.size w w2) := B1.out.trans (b2.mono B1.out.size)
  clear b2 FA' B1
  go_wp2_with fail
  refine (kcheck_any _ ks0 _ (K0.out.below B2.out) Hb.out).mono ?_
  rintro e w3 ⟨u3, rfl, hu3, b3⟩
  have B3 : Hid (Below w.heap.size w w3) := B2.out.trans (b3.mono B2.out.size)
  clear b3 B2
  rcases hu3 with ⟨h0, rfl⟩ | ⟨h0, rfl⟩
  · have H0 : Hid (Kd.kindsFault (ks0.map KV.k) = 0) := h0
    have KR : Hid (ks0.length ≤ 8 ∧ ∀ k ∈ ks0, 0 ≤ k.n5 ∧ k.n5 ≤ 1000 ∧ 0 < k.n0 ∧ k.n0 ≤ 1000) := kinds_right h0
    have h8 := KR.out.1
    have Hpos : Hid (∀ k ∈ ks0, 0 < k.n0) := fun k hk => (KR.out.2 k hk).2.2.1
    clear h0
    go_wp2_with fail
    go_loopw [6, 7, 8] (fun u s j W' => ∃ us, Us ks0 us ∧ j = .int .i64 (us.length : Nat) ∧ s = .int .i64 (price ks0 us.length) ∧ Uno W' w.heap.size u us ∧ Below w.heap.size w W') (fun _ _ j _ => ks0.length - (intOf j).toNat)
    case atStart => exact ⟨[], Us.nil _, rfl, rfl, Uno.nil _ _, B3⟩
    case round =>
      obtain ⟨us, hus, rfl, rfl, huo, hb⟩ := hrel
      have HU : Hid (Us ks0 us) := hus
      have UO : Hid (Uno wr w.heap.size u6 us) := huo
      have B : Hid (Below w.heap.size w wr) := hb
      have hle := hus.1
      obtain ⟨au, cu, rfl⟩ := huo.len
      clear hus hb huo
      by_cases hul : us.length = ks0.length
      · -- all have come
        have WA := worth_any (.slice a ks0.length c) ks0 _ us wr (K0.out.below B.out) Hb.out UO.out.l
        have WV := HU.out.worth Hpos.out us.length (Nat.le_refl _)
        rw [List.take_of_length_le (Nat.le_refl _)] at WV
        have WG := HU.out.good Hpos.out
        have WA' : Hid (Calls Try.prog 7 #[.slice a ks0.length c, .slice au us.length cu] wr fun e w' => ∃ r, e = .returned (.tuple #[r, .nilIface]) ∧ Below wr.heap.size wr w' ∧ Ro w' r [0, worthOf ks0 us 1, price ks0 us.length, 0]) := WA.mono fun e w' ⟨r, u, he, hb, hc⟩ => by
          rcases hc with hc | hc | hc | hc
          · exact absurd H0.out hc.1
          · omega
          · rw [WG] at hc; exact absurd hc.2.2.1 (by decide)
          · obtain ⟨-, -, -, hr, hu⟩ := hc
            rcases hu with ⟨-, rfl⟩ | ⟨hu, -⟩
            · refine ⟨r, he, hb, ?_⟩
              have e4 : worths ks0 us = [0, worthOf ks0 us 1, price ks0 us.length, 0] := by
                unfold worths
                rw [WV.1, WV.2.1, WV.2.2]
              rw [e4] at hr
              exact hr
            · exact absurd rfl hu
        clear WA WV WG
        generalize price ks0 us.length = P at *
        generalize worthOf ks0 us 1 = P1 at *
        rw [hul] at WA' ⊢
        clear hle
        go_wp2_with fail
        refine WA'.out.mono ?_
        rintro e w4 ⟨r, rfl, b4, hr⟩
        have B4 : Hid (Below w.heap.size w w4) := B.out.trans (b4.mono B.out.size)
        obtain ⟨ar, cr, rfl, r1, r2, hr3⟩ := hr
        obtain ⟨x, rfl, hx1, hx⟩ := hr3 (by simp)
        have y0 : w4.cell? x = some (.int .i64 0) := by have := hx 0 0 rfl; simpa [Addr.add] using this
        have y2 : w4.cell? ⟨x.block, x.off + 2, none⟩ = some (.int .i64 P) := by have := hx 2 P rfl; simpa [Addr.add] using this
        have y3 : w4.cell? ⟨x.block, x.off + 3, none⟩ = some (.int .i64 0) := by have := hx 3 0 rfl; simpa [Addr.add] using this
        simp only [List.length_cons, List.length_nil, Nat.zero_add, Nat.reduceAdd] at r1 ⊢
        clear WA' b4 hx hr3
        go_wp2
        go_ret
        exact ⟨by simp, B4⟩
      · have hlt : us.length < ks0.length := by omega
        have hlt' : ((us.length : Nat) : Int) < (ks0.length : Int) := by omega
        obtain ⟨k, hk⟩ : ∃ k, ks0[us.length]? = some k := ⟨_, List.getElem?_eq_getElem hlt⟩
        have KF := kfind_any (.slice a ks0.length c) ks0 k.b wr (K0.out.below B.out) Hb.out
        have KF' : Hid (Calls Try.prog 4 #[.slice a ks0.length c, .string k.b] wr fun e w' => e = .returned (.tuple #[.int .i64 (us.length : Nat), .nilIface]) ∧ Below wr.heap.size wr w') := KF.mono fun e w' ⟨n, u, he, hb, hc⟩ => by
          rcases hc with hc | hc | ⟨-, hu, i, k', rfl, h1, h2⟩
          · exact absurd H0.out hc.1
          · have h3 := hc.2.1
            rw [List.any_eq_false] at h3
            have := h3 k (List.mem_of_getElem? hk)
            exact absurd (by simp [KV.k]) this
          · have := names_once H0.out h1 hk h2
            subst this
            rcases hu with ⟨-, rfl⟩ | ⟨hu, -⟩
            · exact ⟨he, hb⟩
            · exact absurd rfl hu
        have PN : Hid (price ks0 (us.length + 1) = price ks0 us.length + k.n5) := price_next hk
        have PB := price_bound (fun k hk => ⟨(KR.out.2 k hk).1, (KR.out.2 k hk).2.1⟩) us.length hle
        have kb := KR.out.2 k (List.mem_of_getElem? hk)
        have US : Hid (Us ks0 (us ++ [mkU us.length k])) := HU.out.snoc hk
        have Kk := K0.out.below B.out
        obtain ⟨a', c', e, -, -, hkx⟩ := Kk
        injection e with e1 e2 e3
        subst e1 e3
        obtain ⟨xk, rfl, hxk1, hxk⟩ := hkx (by intro e; rw [e] at hlt; simp at hlt)
        have KC := hxk us.length k hk
        have KC' : Hid (xk.block < wr.heap.size ∧ Kc wr (xk.add (us.length * 11)) k) := ⟨hxk1, KC⟩
        have Hk : Hid (ks0[us.length]? = some k) := hk
        clear hkx hxk hk e2 KF hxk1
        generalize hP : price ks0 us.length = P at *
        have q0 : wr.cell? (xk.add (us.length * 11)) = some (.string k.b) := KC.c0
        clear KC
        go_wp2_with fail
        refine KF'.out.mono ?_
        rintro e w4 ⟨rfl, b4⟩
        have B4 : Hid (Below w.heap.size w w4) := B.out.trans (b4.mono B.out.size)
        have UO4 : Hid (Uno w4 w.heap.size (.slice au us.length cu) us) := UO.out.below b4
        have KC4 : Hid (xk.block < w4.heap.size ∧ Kc w4 (xk.add (us.length * 11)) k) := ⟨Nat.lt_of_lt_of_le KC'.out.1 b4.size, KC'.out.2.below b4 (by rw [add_block]; exact KC'.out.1)⟩
        clear b4 q0 KC' KF'
        have q1 : w4.cell? ⟨(xk.add (us.length * 11)).block, (xk.add (us.length * 11)).off + 1, none⟩ = some (.int .i64 k.n0) := KC4.out.2.c1
        have CU : Hid (Unc (w4.alloc (Obj.cells #[.int .i64 0, .int .i64 2, .int .i64 (us.length : Nat), .int .i64 0, .int .i64 k.n0, .int .i64 0, .int .i64 0, .int .i64 0] 33)) ⟨w4.heap.size, 0, none⟩ (mkU us.length k)) := Unc.mk' (w := w4) (mkU us.length k) rfl
        go_wp2_with (at_builtin; refine app_un _ rfl _ _ rfl w.heap.size _ us rfl (UO4.out.alloc _) w4.heap.size (mkU us.length k) rfl CU.out (by omega) (by have := B4.out.size; simp; omega) ?_)
        intro g cap w6 o6 g6 a6 l6
        have O6 : Hid (Uno w6 w.heap.size (.slice (some ⟨g, 0, none⟩) (us.length + 1) cap) (us ++ [mkU us.length k])) := o6
        have hob : ∀ k, (Value.slice au us.length cu).ownBlock = some k → w.heap.size ≤ k := fun k hk => (UO4.out.block k hk).1
        have B6 : Hid (Below w.heap.size w w6) := ((B4.out.alloc B4.out.size _).grown g6 (by have := B4.out.size; simp; omega) hob)
        obtain ⟨a7, c7, e, -, -, hk7⟩ := K0.out.below B6.out
        injection e with e1 e2 e3
        subst e3
        obtain ⟨x7, e7, -, hk8⟩ := hk7 (by intro e; rw [e] at hlt; simp at hlt)
        have e9 : some xk = some x7 := e1.trans e7
        injection e9 with e9
        subst e9
        have q6 : w6.cell? ⟨(xk.add (us.length * 11)).block, (xk.add (us.length * 11)).off + 6, none⟩ = some (.int .i64 k.n5) := (hk8 us.length k Hk.out).c6
        clear o6 g6 a6 l6 hob CU q1 hk8 hk7 e1 e2 e7
        obtain ⟨p1, p2⟩ := PB
        obtain ⟨k1, k2, -, -⟩ := kb
        go_wp2
        go_round
        case rel => exact ⟨us ++ [mkU us.length k], US, by rw [List.length_append]; go_num, by rw [List.length_append]; show _ = Value.int .i64 (price ks0 (us.length + 1)); rw [PN.out], O6, B6⟩
        case measure => simp [intOf]; omega
  · clear h0
    go_wp2
    go_ret
    exact ⟨rfl, B3⟩
end Go.Proofs.Ytdmpeagnbpdidaa.kindsNames
