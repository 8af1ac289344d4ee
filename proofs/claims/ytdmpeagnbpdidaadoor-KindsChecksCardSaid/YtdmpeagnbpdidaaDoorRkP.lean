/- The reference: kinds as text. -/
import Derived.Test.YtdmpeagnbpdidaaDoorRkE
import Derived.Test.YtdmpeagnbpdidaaDoorRkL
import Derived.Test.YtdmpeagnbpdidaaDoorPkC
namespace Go.Proofs.YtdmpeagnbpdidaaDoor
open Go.RowKit
set_option linter.unusedVariables false

theorem join_flat (c : UInt8) : ∀ (w : List UInt8) (ws : List (List UInt8)), Tx.join c (w :: ws) = w ++ ws.flatMap (fun x => c :: x)
  | w, [] => by simp [Tx.join]
  | w, v :: ws => by
    rw [Tx.join_cons (by simp), join_flat c v ws]
    simp
/-- a line, as far as so many numbers. -/
def lineTo (k : KV) (j : Nat) : List UInt8 := k.b.data.toList ++ (k.ns.take j).flatMap (fun x => 32 :: Tx.dig x.toNat)
theorem lineTo_next {k : KV} {j : Nat} {x : Int} (h : k.ns[j]? = some x) : lineTo k (j + 1) = lineTo k j ++ (32 :: Tx.dig x.toNat) := by
  obtain ⟨hi, e⟩ := List.getElem?_eq_some_iff.1 h
  unfold lineTo
  rw [List.take_succ_eq_append_getElem hi, List.flatMap_append, e]
  simp
theorem lineTo_all (k : KV) : Kd.kline k.k = lineTo k 8 ++ (32 :: Kd.flag k.f 102) ++ (32 :: Kd.flag k.t 116) := by
  show Tx.join 32 (k.b.data.toList :: ((k.ns.map fun n => Tx.dig n.toNat) ++ [Kd.flag k.f 102, Kd.flag k.t 116])) = _
  rw [join_flat]
  unfold lineTo
  rw [List.flatMap_append, List.take_of_length_le (show k.ns.length ≤ 8 from Nat.le_refl 8)]
  simp [List.flatMap_map]
theorem lineTo_len {k : KV} (hb : k.b.size ≤ 8) (hn : ∀ x ∈ k.ns, 0 ≤ x ∧ x ≤ 1000) : ∀ j, j ≤ 8 → (lineTo k j).length ≤ 8 + 5 * j
  | 0, _ => by simpa [lineTo] using hb
  | j + 1, h => by
    obtain ⟨x, e⟩ : ∃ x, k.ns[j]? = some x := ⟨_, List.getElem?_eq_getElem (show j < 8 by omega)⟩
    have h1 := lineTo_len hb hn j (by omega)
    have h2 := hn x (List.mem_of_getElem? e)
    have h3 : (Tx.dig x.toNat).length ≤ 4 := Tx.dig_len (by decide) (by show x.toNat < 10000; omega)
    rw [lineTo_next e]
    simp only [List.length_append, List.length_cons]
    omega
theorem ba_cat (a b : ByteArray) : (a ++ b).data.toList = a.data.toList ++ b.data.toList := by simp

set_option maxRecDepth 100000 in
set_option maxHeartbeats 8000000 in
theorem ref_print (v : Value) (ks : List KV) (w : World) (h : Kl w v ks) (h0 : Kd.kindsFault (ks.map KV.k) = 0) :
    Calls Tryd.prog 8 #[v] w fun e w' => e = .returned (.string (bytesOf (Kd.prt (ks.map KV.k)))) ∧ Below w.heap.size w w' := by
  have K0 : Hid (Kl w v ks) := h
  have KS : Hid (∀ k ∈ ks, k.b.size ≤ 8 ∧ ∀ x ∈ k.ns, 0 ≤ x ∧ x ≤ 1000) := kinds_small h0
  have h8 := (kinds_right h0).1
  have PL : Hid (∀ n, n ≤ ks.length → (Kd.prt ((ks.take n).map KV.k)).length ≤ 101 * n) := prt_len KS.out
  clear h0
  obtain ⟨a, c, rfl, c1, c2, -⟩ := h
  go_enter Tryd.func8, Tryd.ntmps8
  go_wp2_with fail
  go_loopw [3, 4] (fun s i W' => ∃ (n : Nat) (S : ByteArray), n ≤ ks.length ∧ i = .int .i64 (n : Nat) ∧ s = .string S ∧ S.data.toList = Kd.prt ((ks.take n).map KV.k) ∧ Below w.heap.size w W') (fun _ i _ => ks.length - (intOf i).toNat)
  case atStart => exact ⟨0, ⟨#[]⟩, Nat.zero_le _, rfl, rfl, rfl, Below.refl _ _⟩
  case round =>
    obtain ⟨n, S, hn, rfl, rfl, hS, hb⟩ := hrel
    have HS : Hid (S.data.toList = Kd.prt ((ks.take n).map KV.k)) := hS
    have B : Hid (Below w.heap.size w wr) := hb
    have hs : S.size ≤ 900 := by
      have h1 := PL.out n hn
      rw [← hS] at h1
      have h2 : S.data.toList.length = S.size := rfl
      omega
    clear hS hb
    by_cases hne : n = ks.length
    · subst hne
      go_wp2
      go_ret
      refine ⟨?_, B⟩
      have := HS.out
      rw [List.take_of_length_le (Nat.le_refl _)] at this
      have e : S = bytesOf (Kd.prt (ks.map KV.k)) := WideShapes.bytes_inj (by rw [this]; rfl)
      rw [← e]
      rfl
    · have hnl : n < ks.length := by omega
      have hnl' : (n : Int) < (ks.length : Int) := by omega
      obtain ⟨k, hk⟩ : ∃ k, ks[n]? = some k := ⟨_, List.getElem?_eq_getElem hnl⟩
      have PN : Hid (Kd.prt ((ks.take (n + 1)).map KV.k) = Kd.prt ((ks.take n).map KV.k) ++ (Kd.kline k.k ++ [10])) := prt_next hk
      have kb := KS.out k (List.mem_of_getElem? hk)
      have kbs := kb.1
      have Nb : Hid (∀ x ∈ k.ns, 0 ≤ x ∧ x ≤ 1000) := kb.2
      have LT : Hid (∀ j, j ≤ 8 → (lineTo k j).length ≤ 8 + 5 * j) := lineTo_len kb.1 kb.2
      have L0 : Hid (lineTo k 0 = k.b.data.toList) := by unfold Hid lineTo; simp
      have LN : Hid (∀ j x, k.ns[j]? = some x → lineTo k (j + 1) = lineTo k j ++ (32 :: Tx.dig x.toNat)) := fun j x h => lineTo_next h
      have LA : Hid (Kd.kline k.k = lineTo k 8 ++ (32 :: Kd.flag k.f 102) ++ (32 :: Kd.flag k.t 116)) := lineTo_all k
      have NU : Hid (∀ w : World, Calls Tryd.prog 19 #[k.val] w fun e w' => ∃ u, e = .returned u ∧ Ro w' u k.ns ∧ Below w.heap.size w w') := fun w => ref_numbers k w
      have Kn : Hid (k.ns.length = 8) := rfl
      have Kk := K0.out.below B.out
      obtain ⟨a', c', e, -, -, hkx⟩ := Kk
      injection e with e1 e2 e3
      subst e1 e3
      obtain ⟨xk, rfl, hxk1, hxk⟩ := hkx (by rintro rfl; simp at hnl)
      have KC := hxk n k hk
      have KC' : Hid (xk.block < wr.heap.size ∧ Kc wr (xk.add (n * 11)) k) := ⟨hxk1, KC⟩
      clear hkx hxk hk e2 kb hxk1
      generalize Kd.kline k.k = KLn at *
      obtain ⟨kb', n0, n1, n2, n3, n4, n5, n6, n7, kf, kt⟩ := k
      generalize hL : lineTo ⟨kb', n0, n1, n2, n3, n4, n5, n6, n7, kf, kt⟩ = Ln at *
      generalize hN : KV.ns ⟨kb', n0, n1, n2, n3, n4, n5, n6, n7, kf, kt⟩ = Ns at *
      clear hL hN
      unfold KV.val at NU
      simp only at NU kbs L0 LA
      obtain ⟨k0, k1, k2, k3, k4, k5, k6, k7, k8, k9, k10⟩ := KC
      simp only at k0 k1 k2 k3 k4 k5 k6 k7 k8 k9 k10
      go_wp2_with fail
      refine (NU.out _).mono ?_
      rintro e w2 ⟨u, rfl, hu, b2⟩
      have B2 : Hid (Below w.heap.size w w2) := B.out.trans (b2.mono B.out.size)
      have KC2 : Hid (xk.block < w2.heap.size ∧ Kc w2 (xk.add (n * 11)) ⟨kb', n0, n1, n2, n3, n4, n5, n6, n7, kf, kt⟩) := ⟨Nat.lt_of_lt_of_le KC'.out.1 b2.size, KC'.out.2.below b2 (by rw [add_block]; exact KC'.out.1)⟩
      obtain ⟨au, cu, rfl, r1, r2, hc⟩ := hu
      have Hc : Hid (Cells w2 au Ns) := hc
      rw [Kn.out] at r1 ⊢
      clear b2 k0 k1 k2 k3 k4 k5 k6 k7 k8 k9 k10 NU KC' hc
      go_wp2_with fail
      go_loopw [3, 6] (fun s i W' => ∃ (j : Nat) (T : ByteArray), j ≤ 8 ∧ i = .int .i64 (j : Nat) ∧ s = .string T ∧ T.data.toList = S.data.toList ++ Ln j ∧ Below w2.heap.size w2 W') (fun _ i _ => 8 - (intOf i).toNat)
      case atStart => exact ⟨0, S ++ kb', Nat.zero_le _, rfl, rfl, by rw [ba_cat, L0.out], Below.refl _ _⟩
      case round =>
        obtain ⟨j, T, hj, rfl, rfl, hT, hb⟩ := hrel
        have HT : Hid (T.data.toList = S.data.toList ++ Ln j) := hT
        have Bj : Hid (Below w2.heap.size w2 wr) := hb
        have hts : T.size ≤ 1000 := by
          have h1 := LT.out j hj
          have h2 := congrArg List.length hT
          rw [List.length_append] at h2
          have h3 : T.data.toList.length = T.size := rfl
          have h4 : S.data.toList.length = S.size := rfl
          omega
        clear hT hb
        by_cases hj8 : j = 8
        · subst hj8
          have KC3 := KC2.out.2.below Bj.out (by rw [add_block]; exact KC2.out.1)
          have z9 : wr.cell? ⟨(xk.add (n * 11)).block, (xk.add (n * 11)).off + 9, none⟩ = some (.bool kf) := KC3.c9
          have z10 : wr.cell? ⟨(xk.add (n * 11)).block, (xk.add (n * 11)).off + 10, none⟩ = some (.bool kt) := KC3.c10
          have B3 : Hid (Below w.heap.size w wr) := B2.out.trans (Bj.out.mono B2.out.size)
          have FN : Hid (∀ f t : UInt8, Kd.flag kf 102 = [f] → Kd.flag kt 116 = [t] → ((((T ++ ⟨#[32]⟩) ++ ⟨#[f]⟩) ++ ⟨#[32]⟩) ++ ⟨#[t]⟩ ++ (⟨#[10]⟩ : ByteArray)).data.toList = Kd.prt ((ks.take (n + 1)).map KV.k)) := fun f t hf ht => by
            rw [PN.out, LA.out, hf, ht, ← HS.out]
            simp only [ba_cat, HT.out]
            simp
          clear KC3 KC2 Hc LN LT
          cases kf with
          | true =>
            cases kt with
            | true =>
              go_wp2
              go_round
              case rel => exact ⟨n + 1, _, by omega, by go_num, rfl, FN.out 102 116 rfl rfl, B3⟩
              case measure => simp [intOf]; omega
            | false =>
              go_wp2
              go_round
              case rel => exact ⟨n + 1, _, by omega, by go_num, rfl, FN.out 102 45 rfl rfl, B3⟩
              case measure => simp [intOf]; omega
          | false =>
            cases kt with
            | true =>
              go_wp2
              go_round
              case rel => exact ⟨n + 1, _, by omega, by go_num, rfl, FN.out 45 116 rfl rfl, B3⟩
              case measure => simp [intOf]; omega
            | false =>
              go_wp2
              go_round
              case rel => exact ⟨n + 1, _, by omega, by go_num, rfl, FN.out 45 45 rfl rfl, B3⟩
              case measure => simp [intOf]; omega
        · have hj9 : j < 8 := by omega
          have hj9' : (j : Int) < 8 := by omega
          obtain ⟨x, hx⟩ : ∃ x, Ns[j]? = some x := ⟨_, List.getElem?_eq_getElem (by rw [Kn.out]; exact hj9)⟩
          have xb := Nb.out x (List.mem_of_getElem? hx)
          obtain ⟨m, rfl⟩ : ∃ m : Nat, x = m := ⟨x.toNat, by omega⟩
          have LJ : Hid (Ln (j + 1) = Ln j ++ (32 :: Tx.dig m)) := LN.out j _ hx
          have DG := ref_digits m wr (by omega)
          have DG' : Hid (Calls Tryd.prog 20 #[.int .i64 (m : Nat)] wr fun e w' => e = .returned (.string (bytesOf (Tx.dig m))) ∧ Below wr.heap.size wr w') := DG
          have hdl : (bytesOf (Tx.dig m)).size ≤ 4 := Tx.dig_len (by decide) (by show m < 10000; omega)
          have Hd : Hid ((bytesOf (Tx.dig m)).data.toList = Tx.dig m) := rfl
          obtain ⟨xu, rfl, hxu1, hxu⟩ := Hc.out (by intro h; rw [h] at hx; simp at hx)
          have cx : wr.cell? (xu.add j) = some (.int .i64 (m : Nat)) := by rw [Bj.out.cell (p := xu.add j) (by rw [add_block]; exact hxu1)]; exact hxu j _ hx
          clear hx hxu hxu1 DG xb
          generalize bytesOf (Tx.dig m) = dm at *
          go_wp2_with fail
          refine DG'.out.mono ?_
          rintro e w4 ⟨rfl, b4⟩
          have B4 : Hid (Below w2.heap.size w2 w4) := Bj.out.trans (b4.mono Bj.out.size)
          have HT2 : Hid (((T ++ ⟨#[32]⟩) ++ dm).data.toList = S.data.toList ++ Ln (j + 1)) := by
            unfold Hid
            rw [ba_cat, ba_cat, HT.out, LJ.out, Hd.out]
            simp
          clear b4 DG' cx
          go_wp2
          go_round
          case rel => exact ⟨j + 1, (T ++ (⟨#[32]⟩ : ByteArray)) ++ dm, by omega, by go_num, rfl, HT2.out, B4⟩
          case measure => simp [intOf]; omega
end Go.Proofs.YtdmpeagnbpdidaaDoor
