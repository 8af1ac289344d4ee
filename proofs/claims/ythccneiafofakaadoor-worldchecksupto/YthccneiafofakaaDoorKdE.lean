/- The program's kinds: what is wrong with some; the number of a name. -/
import Derived.Test.YthccneiafofakaaDoorKdD
namespace Go.Proofs.YthccneiafofakaaDoor
open Go.RowKit
set_option linter.unusedVariables false

theorem Kl.take {w : World} {a : Option Addr} {n c : Nat} {ks : List KV} (h : Kl w (.slice a n c) ks) {q : Nat} (hq : q ≤ ks.length) : Kl w (.slice a q c) (ks.take q) := by
  obtain ⟨a', c', e, h1, h2, h3⟩ := h
  injection e with e1 e2 e3
  subst e1 e3
  have hl : (ks.take q).length = q := by rw [List.length_take]; omega
  refine ⟨a, c, by rw [hl], by rw [hl]; omega, h2, fun hn => ?_⟩
  obtain ⟨x, hx, hb, hk⟩ := h3 (by rintro rfl; simp at hn)
  refine ⟨x, hx, hb, fun i k hi => hk i k ?_⟩
  rw [List.getElem?_take] at hi
  split at hi
  · exact hi
  · cases hi
theorem kgo_at {ks : List KV} {i : Nat} {k : KV} (h : ks[i]? = some k) : Kd.kindsGo ((ks.take i).map KV.k) ((ks.drop i).map KV.k) = if Kd.kindFault ((ks.take i).map KV.k) k.k = 0 then Kd.kindsGo ((ks.take (i + 1)).map KV.k) ((ks.drop (i + 1)).map KV.k) else Kd.kindFault ((ks.take i).map KV.k) k.k := by
  obtain ⟨hi, e⟩ := List.getElem?_eq_some_iff.1 h
  rw [List.drop_eq_getElem_cons hi, e, List.map_cons, Kd.kindsGo, List.take_succ_eq_append_getElem hi, e, List.map_append]
  rfl

set_option maxHeartbeats 4000000 in
theorem kcheck_any (v : Value) (ks : List KV) (w : World) (h : Kl w v ks) (hb : ∀ k ∈ ks, k.b.size ≤ 9223372036854775807) :
    Calls Tryd.prog 81 #[v] w fun e w' => ∃ u, e = .returned u ∧ Er u (Kd.kindsFault (ks.map KV.k)) ∧ Below w.heap.size w w' := by
  have K0 : Hid (Kl w v ks) := h
  have Hb : Hid (∀ k ∈ ks, k.b.size ≤ 9223372036854775807) := hb
  obtain ⟨R, hR⟩ : ∃ R, Kd.kindsFault (ks.map KV.k) = R := ⟨_, rfl⟩
  have HR : Hid (Kd.kindsFault (ks.map KV.k) = R) := hR
  rw [hR]
  clear hR hb
  obtain ⟨a, c, rfl, c1, c2, -⟩ := h
  by_cases h8 : 8 < ks.length
  · have E : Hid (R = 4) := by unfold Hid; rw [← HR.out]; unfold Kd.kindsFault; rw [if_pos (by simpa using h8)]
    have h8' : (8 : Int) < (ks.length : Int) := by omega
    go_enter Tryd.func81, Tryd.ntmps81
    go_wp2
    go_ret
    exact ⟨_, rfl, by rw [E.out]; exact Er.no (by decide), Below.refl _ _⟩
  · have h8' : ¬ (8 : Int) < (ks.length : Int) := by omega
    have R1 : Hid (Kd.kindsGo [] (ks.map KV.k) = R) := by unfold Hid; rw [← HR.out]; unfold Kd.kindsFault; rw [if_neg (by simpa using h8)]
    go_enter Tryd.func81, Tryd.ntmps81
    go_wp2_with fail
    go_loopw [12] (fun j W' => ∃ q : Nat, q ≤ ks.length ∧ j = .int .i64 (q : Nat) ∧ Kd.kindsGo ((ks.take q).map KV.k) ((ks.drop q).map KV.k) = R ∧ Below w.heap.size w W') (fun j _ => ks.length - (intOf j).toNat)
    case atStart => exact ⟨0, Nat.zero_le _, rfl, R1, Below.refl _ _⟩
    case round =>
      obtain ⟨q, hq, rfl, hg, hb⟩ := hrel
      have Gq : Hid (Kd.kindsGo ((ks.take q).map KV.k) ((ks.drop q).map KV.k) = R) := hg
      have B : Hid (Below w.heap.size w wr) := hb
      clear hg hb
      by_cases hql : q = ks.length
      · have E : Hid (R = 0) := by
          unfold Hid
          rw [← Gq.out, hql, List.drop_of_length_le (Nat.le_refl _)]
          rfl
        subst hql
        go_wp2
        go_ret
        exact ⟨_, rfl, by rw [E.out]; exact Er.nil, B⟩
      · have hqk : q < ks.length := by omega
        obtain ⟨k, hk⟩ : ∃ k, ks[q]? = some k := ⟨_, List.getElem?_eq_getElem hqk⟩
        have At : Hid (R = if Kd.kindFault ((ks.take q).map KV.k) k.k = 0 then Kd.kindsGo ((ks.take (q + 1)).map KV.k) ((ks.drop (q + 1)).map KV.k) else Kd.kindFault ((ks.take q).map KV.k) k.k) := by
          unfold Hid
          rw [← kgo_at hk]
          exact Gq.out.symm
        have K1 := K0.out.below B.out
        have CK : Hid (∀ W : World, Below wr.heap.size wr W → Calls Tryd.prog 109 #[.slice a q c, k.val] W fun e w' => ∃ u, e = .returned u ∧ Er u (Kd.kindFault ((ks.take q).map KV.k) k.k) ∧ Below W.heap.size W w') :=
          fun W hW => ckind_any _ (ks.take q) k W ((K1.take hq).below hW) (Hb.out k (List.mem_of_getElem? hk))
        generalize Kd.kindFault ((ks.take q).map KV.k) k.k = F at *
        obtain ⟨a', c', e, -, -, h3⟩ := K1
        injection e with e1 e2 e3
        subst e1 e3
        obtain ⟨x, rfl, hx1, hx⟩ := h3 (by rintro rfl; simp at hqk)
        have Yc := hx q k hk
        clear hx h3 e2 hk
        obtain ⟨kb, n0, n1, n2, n3, n4, n5, n6, n7, kf, kt⟩ := k
        obtain ⟨q0, q1, q2, q3, q4, q5, q6, q7, q8, q9, q10⟩ := Yc
        simp only at q0 q1 q2 q3 q4 q5 q6 q7 q8 q9 q10
        unfold KV.val at CK
        simp only at CK
        go_upto_region 6 with fail
        have B1 : Hid (Below wr.heap.size wr (wr.alloc (Obj.cells #[.string kb, .int .i64 n0, .int .i64 n1, .int .i64 n2, .int .i64 n3, .int .i64 n4, .int .i64 n5, .int .i64 n6, .int .i64 n7, .bool kf, .bool kt] 58))) := (Below.refl _ _).alloc (Nat.le_refl _) _
        have X1 := Kc.mk' (w := wr) ⟨kb, n0, n1, n2, n3, n4, n5, n6, n7, kf, kt⟩ rfl
        simp only at X1
        clear q0 q1 q2 q3 q4 q5 q6 q7 q8 q9 q10
        generalize wr.alloc (Obj.cells #[.string kb, .int .i64 n0, .int .i64 n1, .int .i64 n2, .int .i64 n3, .int .i64 n4, .int .i64 n5, .int .i64 n6, .int .i64 n7, .bool kf, .bool kt] 58) = w1 at *
        obtain ⟨x0, x1, x2, x3, x4, x5, x6, x7, x8, x9, x10⟩ := X1
        simp only at x0 x1 x2 x3 x4 x5 x6 x7 x8 x9 x10
        go_region_with (go_at_call 109; refine Calls.mono (CK.out _ B1.out.drew) ?_; rintro e w2 ⟨u, rfl, hu, b2⟩; have Hu : Hid (Er u F) := hu; have B2 : Hid (Below wr.heap.size wr w2) := B1.out.drew.trans (b2.mono B1.out.drew.size); clear hu b2)
        all_goals
          have B3 : Hid (Below w.heap.size w w2) := B.out.trans (B2.out.mono B.out.size)
          clear B2 CK x0 x1 x2 x3 x4 x5 x6 x7 x8 x9 x10
          rcases Hu.out with ⟨hF, rfl⟩ | ⟨hF, rfl⟩
          · have G2 : Hid (Kd.kindsGo ((ks.take (q + 1)).map KV.k) ((ks.drop (q + 1)).map KV.k) = R) := by
              unfold Hid
              have := At.out
              rw [if_pos hF] at this
              exact this.symm
            clear At
            go_wp2
            go_round
            case rel => exact ⟨q + 1, by omega, by go_num, G2, B3⟩
            case measure => simp [intOf]; omega
          · have E : Hid (R = F) := by
              unfold Hid
              have := At.out
              rw [if_neg hF] at this
              exact this
            have Hf : Hid (F ≠ 0) := hF
            clear At
            go_wp2
            go_ret
            exact ⟨_, rfl, by rw [E.out]; exact Er.no Hf.out, B3⟩

end Go.Proofs.YthccneiafofakaaDoor
