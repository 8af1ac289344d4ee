/- The reference: what is wrong with a kind, and with some. · The reference: what is wrong with some kinds. · What the reference says of a field (cut out of RfA). -/
import Derived.Test.YteieikgkmfglaaaGreatDoorZTurnPlays1
import Derived.Laws.Closers25
import Derived.Deep.DeepCutAuto
import Derived.IntWalk
import Derived.Test.YteieikgkmfglaaaGreatDoorZTurnPlays2
namespace Go.Proofs.YteieikgkmfglaaaGreatDoor
open Go.RowKit
set_option linter.unusedVariables false

theorem ref_numbers (k : KV) (w : World) :
    Calls Tryz.prog 82 #[k.val] w fun e w' => ∃ u, e = .returned u ∧ Ro w' u [k.n0, k.n1, k.n2, k.n3, k.n4, k.n5, k.n6, k.n7] ∧ Below w.heap.size w w' := by
  obtain ⟨b, n0, n1, n2, n3, n4, n5, n6, n7, f, t⟩ := k
  unfold KV.val
  go_enter Tryz.func82, Tryz.ntmps82
  go_wp2_with fail
  go_ret
  refine ⟨_, rfl, ?_, ((Below.refl _ _).alloc (Nat.le_refl _) _).alloc (by simp) _⟩
  exact Ro.lit (w := w.alloc _) (z := w.heap.size + 1) [n0, n1, n2, n3, n4, n5, n6, n7] _ rfl (by simp) (by simp)

theorem name_empty {s : ByteArray} (h : s.data.toList = []) : s.toList.isEmpty = true := by
  rw [← decide_eq_emptyBytes s]
  exact decide_eq_true (WideShapes.bytes_inj (by rw [h]; rfl))
theorem name_some {s : ByteArray} (h : s.data.toList ≠ []) : s.toList.isEmpty = false := by
  rw [← decide_eq_emptyBytes s]
  exact decide_eq_false (fun e => h (by rw [e]; rfl))
theorem kf_name {ah : List Kd.K} {k : Kd.K} (h : Kd.nameOk k.name = false) : Kd.kindFault ah k = 2 := by
  unfold Kd.kindFault
  rw [if_neg (by rw [h]; decide)]

set_option maxRecDepth 100000 in
set_option maxHeartbeats 4000000 in
theorem ref_kind (v : Value) (ks : List KV) (i : Nat) (k : KV) (w : World) (h : Kl w v ks) (hi : ks[i]? = some k) (hn : ks.length ≤ 1000000) (hb : k.b.size ≤ 9223372036854775807) :
    Calls Tryz.prog 52 #[v, .int .i64 (i : Nat)] w fun e w' => e = .returned (.int .i64 (Kd.kindFault ((ks.take i).map KV.k) k.k)) ∧ Below w.heap.size w w' := by
  have hil : i < ks.length := (List.getElem?_eq_some_iff.1 hi).1
  obtain ⟨a, c, rfl, c1, c2, hx⟩ := h
  obtain ⟨x, rfl, xl, hk⟩ := hx (by intro e; rw [e] at hil; simp at hil)
  have Hk : Hid (x.block < w.heap.size ∧ ∀ (i : Nat) k, ks[i]? = some k → Kc w (x.add (i * 11)) k) := ⟨xl, hk⟩
  obtain ⟨q0, q1, q2, q3, q4, q5, q6, q7, q8, q9, q10⟩ := hk i k hi
  clear hx hk xl
  obtain ⟨l, hl⟩ : ∃ l, k.b.data.toList = l := ⟨_, rfl⟩
  have Hl : Hid (k.b.data.toList = l) := hl
  have Ll : Hid (l.length = k.b.size) := by unfold Hid; rw [← hl]; rfl
  have Kn : Hid (k.k.name = l) := hl
  have Km : Hid (k.k.nums = [k.n0, k.n1, k.n2, k.n3, k.n4, k.n5, k.n6, k.n7]) := rfl
  have Hi : Hid (ks[i]? = some k) := hi
  clear hi hl
  obtain ⟨R, hR⟩ : ∃ R, Kd.kindFault ((ks.take i).map KV.k) k.k = R := ⟨_, rfl⟩
  have HR : Hid (Kd.kindFault ((ks.take i).map KV.k) k.k = R) := hR
  rw [hR]
  clear hR
  have NB : Hid (Kd.nameOk l = false → R = 2) := fun h => by rw [← HR.out]; exact kf_name (by rw [Kn.out]; exact h)
  have Z : Hid (k.val = k.val) := rfl
  obtain ⟨kb, n0, n1, n2, n3, n4, n5, n6, n7, kf, kt⟩ := k
  simp only at q0 q1 q2 q3 q4 q5 q6 q7 q8 q9 q10 hb Hl Ll Km
  go_enter Tryz.func52, Tryz.ntmps52
  have B1 : Hid (Below w.heap.size w (w.alloc (Obj.cells #[.string kb, .int .i64 n0, .int .i64 n1, .int .i64 n2, .int .i64 n3, .int .i64 n4, .int .i64 n5, .int .i64 n6, .int .i64 n7, .bool kf, .bool kt] 68))) := (Below.refl _ _).alloc (Nat.le_refl _) _
  have X1 : Hid (Kc (w.alloc (Obj.cells #[.string kb, .int .i64 n0, .int .i64 n1, .int .i64 n2, .int .i64 n3, .int .i64 n4, .int .i64 n5, .int .i64 n6, .int .i64 n7, .bool kf, .bool kt] 68)) ⟨w.heap.size, 0, none⟩ ⟨kb, n0, n1, n2, n3, n4, n5, n6, n7, kf, kt⟩) := Kc.mk' ⟨kb, n0, n1, n2, n3, n4, n5, n6, n7, kf, kt⟩ rfl
  go_upto_region 2 with fail
  generalize w.alloc (Obj.cells #[.string kb, .int .i64 n0, .int .i64 n1, .int .i64 n2, .int .i64 n3, .int .i64 n4, .int .i64 n5, .int .i64 n6, .int .i64 n7, .bool kf, .bool kt] 68) = w1 at *
  have y0 : w1.cell? ⟨w.heap.size, 0, none⟩ = some (.string kb) := X1.out.c0
  have y1 : w1.cell? ⟨w.heap.size, 1, none⟩ = some (.int .i64 n0) := X1.out.c1
  have y2 : w1.cell? ⟨w.heap.size, 2, none⟩ = some (.int .i64 n1) := X1.out.c2
  have y3 : w1.cell? ⟨w.heap.size, 3, none⟩ = some (.int .i64 n2) := X1.out.c3
  have y4 : w1.cell? ⟨w.heap.size, 4, none⟩ = some (.int .i64 n3) := X1.out.c4
  have y5 : w1.cell? ⟨w.heap.size, 5, none⟩ = some (.int .i64 n4) := X1.out.c5
  have y6 : w1.cell? ⟨w.heap.size, 6, none⟩ = some (.int .i64 n5) := X1.out.c6
  have y7 : w1.cell? ⟨w.heap.size, 7, none⟩ = some (.int .i64 n6) := X1.out.c7
  have y8 : w1.cell? ⟨w.heap.size, 8, none⟩ = some (.int .i64 n7) := X1.out.c8
  have y9 : w1.cell? ⟨w.heap.size, 9, none⟩ = some (.bool kf) := X1.out.c9
  have y10 : w1.cell? ⟨w.heap.size, 10, none⟩ = some (.bool kt) := X1.out.c10
  clear q0 q1 q2 q3 q4 q5 q6 q7 q8 q9 q10
  by_cases h0 : l = []
  · have he : kb.toList.isEmpty = true := name_empty (by rw [Hl.out]; exact h0)
    have E : Hid (R = 2) := NB.out (by rw [h0]; rfl)
    clear h0
    go_wp2
    go_ret
    exact ⟨by rw [E.out]; rfl, B1⟩
  · have he : kb.toList.isEmpty = false := name_some (by rw [Hl.out]; exact h0)
    by_cases h1 : 8 < kb.size
    · have E : Hid (R = 2) := NB.out (by
        unfold Kd.nameOk
        rw [decide_eq_false (by rw [Ll.out]; omega)]
        simp)
      have h1' : (8 : Int) < (kb.size : Int) := by omega
      clear h0
      go_wp2
      go_ret
      exact ⟨by rw [E.out]; rfl, B1⟩
    · have h1' : ¬ (8 : Int) < (kb.size : Int) := by omega
      have NO : Hid (Kd.nameOk l = l.all Kd.isLetter) := by
        unfold Hid Kd.nameOk
        rw [decide_eq_true (by rw [Ll.out]; omega), Bool.true_and]
        cases l with
        | nil => exact absurd rfl h0
        | cons a r => rfl
      clear h0
      go_wp2_with fail
      go_loop [6] (fun j => ∃ q : Nat, q ≤ kb.size ∧ j = .int .i64 (q : Nat) ∧ (l.take q).all Kd.isLetter = true) (fun j => kb.size - (intOf j).toNat)
      case atStart => exact ⟨0, Nat.zero_le _, rfl, by simp⟩
      case round =>
        obtain ⟨q, hq, rfl, hd⟩ := hrel
        have Hd : Hid ((l.take q).all Kd.isLetter = true) := hd
        clear hd
        by_cases hqs : q = kb.size
        · have Ok : Hid (Kd.nameOk l = true) := by
            unfold Hid
            rw [NO.out]
            have := Hd.out
            rw [List.take_of_length_le (by rw [Ll.out, hqs]; exact Nat.le_refl _)] at this
            exact this
          subst hqs
          clear NO Hd NB
          go_wp2_with fail
          clear y0 y1 y2 y3 y4 y5 y6 y7 y8 y9 y10 he h1 h1' hq
          go_loopw [7] (fun j W' => ∃ q r : Nat, q ≤ i ∧ j = .int .i64 (q : Nat) ∧ (ks.take q).any (fun a => a.k.name == l) = false ∧ W' = w1.drewN r) (fun j _ => i - (intOf j).toNat)
          case atStart => exact ⟨0, 0, Nat.zero_le _, rfl, by simp, rfl⟩
          case round =>
            obtain ⟨q, r, hq, rfl, hany, rfl⟩ := hrel
            have An : Hid ((ks.take q).any (fun a => a.k.name == l) = false) := hany
            clear hany
            have kr : Below w1.heap.size w1 (w1.drewN r) := _root_.Go.below_drewN (Below.refl _ _) _
            have B2 : Hid (Below w.heap.size w (w1.drewN r)) := B1.out.trans (kr.mono B1.out.size)
            have Y2 : Hid (Kc (w1.drewN r) ⟨w.heap.size, 0, none⟩ ⟨kb, n0, n1, n2, n3, n4, n5, n6, n7, kf, kt⟩) := X1.out.below kr X1.out.lt
            have Qr : Hid (∀ n, (w1.drewN r).drewN n = w1.drewN (r + n)) := fun n => by rw [World.drewN_drewN]
            generalize w1.drewN r = w2 at *
            have y0 : w2.cell? ⟨w.heap.size, 0, none⟩ = some (.string kb) := Y2.out.c0
            by_cases hqi : q = i
            · have R1 : Hid (R = Kd.numsFault [n0, n1, n2, n3, n4, n5, n6, n7]) := by
                unfold Hid
                rw [← HR.out]
                unfold Kd.kindFault
                rw [Kn.out, if_pos Ok.out, List.any_map, if_neg, Km.out]
                have := An.out
                rw [hqi] at this
                intro h9
                rw [show ((fun a : Kd.K => a.name == l) ∘ KV.k) = fun a : KV => a.k.name == l from rfl, this] at h9
                cases h9
              subst hqi
              obtain ⟨x0, x1, x2, x3, x4, x5, x6, x7, x8, x9, x10⟩ := Y2.out
              have x1 : w2.cell? ⟨w.heap.size, 1, none⟩ = some (.int .i64 n0) := x1
              have x2 : w2.cell? ⟨w.heap.size, 2, none⟩ = some (.int .i64 n1) := x2
              have x3 : w2.cell? ⟨w.heap.size, 3, none⟩ = some (.int .i64 n2) := x3
              have x4 : w2.cell? ⟨w.heap.size, 4, none⟩ = some (.int .i64 n3) := x4
              have x5 : w2.cell? ⟨w.heap.size, 5, none⟩ = some (.int .i64 n4) := x5
              have x6 : w2.cell? ⟨w.heap.size, 6, none⟩ = some (.int .i64 n5) := x6
              have x7 : w2.cell? ⟨w.heap.size, 7, none⟩ = some (.int .i64 n6) := x7
              have x8 : w2.cell? ⟨w.heap.size, 8, none⟩ = some (.int .i64 n7) := x8
              have x9 : w2.cell? ⟨w.heap.size, 9, none⟩ = some (.bool kf) := x9
              have x10 : w2.cell? ⟨w.heap.size, 10, none⟩ = some (.bool kt) := x10
              go_wp2_with fail
              refine (ref_numbers ⟨kb, n0, n1, n2, n3, n4, n5, n6, n7, kf, kt⟩ _).mono ?_
              rintro e w3 ⟨u, rfl, hu, k3⟩
              have B3 : Hid (Below w.heap.size w w3) := B2.out.trans (k3.mono B2.out.size)
              have Y3 := Y2.out.below k3 Y2.out.lt
              obtain ⟨au, cu, rfl, g1, g2, hc⟩ := hu
              obtain ⟨yu, rfl, -, hyu⟩ := hc (by simp)
              have Yu : Hid (∀ (j : Nat) d, [n0, n1, n2, n3, n4, n5, n6, n7][j]? = some d → w3.cell? (yu.add j) = some (.int .i64 d)) := hyu
              clear k3 hc hyu x0 x1 x2 x3 x4 x5 x6 x7 x8 x9 x10 y0 An
              obtain ⟨ns, hns⟩ : ∃ ns, [n0, n1, n2, n3, n4, n5, n6, n7] = ns := ⟨_, rfl⟩
              have Hns : Hid ([n0, n1, n2, n3, n4, n5, n6, n7] = ns) := hns
              simp only [List.length_cons, List.length_nil, Nat.zero_add, Nat.reduceAdd] at g1 ⊢
              rw [hns] at R1 Yu
              have nl : Hid (ns.length = 8) := by rw [← hns]; rfl
              clear hns
              go_wp2_with fail
              go_loop [9] (fun j => ∃ p : Nat, p ≤ 8 ∧ j = .int .i64 (p : Nat) ∧ (ns.take p).any (fun x => decide (x < 0 ∨ 1000 < x)) = false) (fun j => 8 - (intOf j).toNat)
              case atStart => exact ⟨0, Nat.zero_le _, rfl, by simp⟩
              case round =>
                obtain ⟨p, hp, rfl, hany⟩ := hrel
                have An : Hid ((ns.take p).any (fun x => decide (x < 0 ∨ 1000 < x)) = false) := hany
                clear hany
                by_cases hp8 : p = 8
                · have R2 : Hid (R = if n0 < 1 ∨ 4 < n4 ∨ 12 < n2 ∨ 12 < n3 then 1 else 0) := by
                    have h9 := An.out
                    rw [List.take_of_length_le (by rw [nl.out, hp8]; exact Nat.le_refl _)] at h9
                    unfold Hid
                    rw [R1.out]
                    unfold Kd.numsFault
                    rw [if_neg (by rw [h9]; decide), ← Hns.out]
                    rfl
                  have z1 : w3.cell? ⟨w.heap.size, 1, none⟩ = some (.int .i64 n0) := Y3.c1
                  have z3 : w3.cell? ⟨w.heap.size, 3, none⟩ = some (.int .i64 n2) := Y3.c3
                  have z4 : w3.cell? ⟨w.heap.size, 4, none⟩ = some (.int .i64 n3) := Y3.c4
                  have z5 : w3.cell? ⟨w.heap.size, 5, none⟩ = some (.int .i64 n4) := Y3.c5
                  subst hp8
                  clear R1 An Y3
                  by_cases t1 : n0 < 1
                  · have E : Hid (R = 1) := by unfold Hid; rw [R2.out, if_pos (.inl t1)]
                    go_wp2
                    go_ret
                    exact ⟨by rw [E.out]; rfl, B3⟩
                  · by_cases t2 : 4 < n4
                    · have E : Hid (R = 1) := by unfold Hid; rw [R2.out, if_pos (.inr (.inl t2))]
                      go_wp2
                      go_ret
                      exact ⟨by rw [E.out]; rfl, B3⟩
                    · by_cases t3 : 12 < n2
                      · have E : Hid (R = 1) := by unfold Hid; rw [R2.out, if_pos (.inr (.inr (.inl t3)))]
                        go_wp2
                        go_ret
                        exact ⟨by rw [E.out]; rfl, B3⟩
                      · by_cases t4 : 12 < n3
                        · have E : Hid (R = 1) := by unfold Hid; rw [R2.out, if_pos (.inr (.inr (.inr t4)))]
                          go_wp2
                          go_ret
                          exact ⟨by rw [E.out]; rfl, B3⟩
                        · have E : Hid (R = 0) := by unfold Hid; rw [R2.out, if_neg (by omega)]
                          go_wp2
                          go_ret
                          exact ⟨by rw [E.out]; rfl, B3⟩
                · have hpn : p < ns.length := by rw [nl.out]; omega
                  have hp9 : p < 8 := by omega
                  have cp := Yu.out p _ (List.getElem?_eq_getElem hpn)
                  have As : Hid ((ns.take (p + 1)).any (fun x => decide (x < 0 ∨ 1000 < x)) = decide (ns[p] < 0 ∨ 1000 < ns[p])) := by
                    unfold Hid
                    rw [List.take_succ_eq_append_getElem hpn, List.any_append, An.out]
                    simp
                  have N2 : Hid ((ns[p] < 0 ∨ 1000 < ns[p]) → R = 1) := fun h => by
                    rw [R1.out]
                    unfold Kd.numsFault
                    rw [if_pos]
                    rw [List.any_eq_true]
                    exact ⟨_, List.getElem_mem hpn, decide_eq_true h⟩
                  generalize ns[p] = y at *
                  by_cases t1 : y < 0
                  · have E : Hid (R = 1) := N2.out (.inl t1)
                    clear N2 As
                    go_wp2
                    go_ret
                    exact ⟨by rw [E.out]; rfl, B3⟩
                  · by_cases t2 : 1000 < y
                    · have E : Hid (R = 1) := N2.out (.inr t2)
                      clear N2 As
                      go_wp2
                      go_ret
                      exact ⟨by rw [E.out]; rfl, B3⟩
                    · have As' : Hid ((ns.take (p + 1)).any (fun x => decide (x < 0 ∨ 1000 < x)) = false) := by
                        unfold Hid
                        rw [As.out]
                        exact decide_eq_false (by omega)
                      clear N2 As
                      go_wp2
                      go_round
                      case rel => exact ⟨p + 1, by omega, by go_num, As'⟩
                      case measure => simp [intOf]; omega
            · have hqi' : q < i := by omega
              obtain ⟨kj, hkj⟩ : ∃ kj, ks[q]? = some kj := ⟨_, List.getElem?_eq_getElem (by omega)⟩
              have cj : w2.cell? (x.add (q * 11)) = some (.string kj.b) := by
                rw [B2.out.cell (p := x.add (q * 11)) (by rw [add_block]; exact Hk.out.1)]
                exact (Hk.out.2 q kj hkj).c0
              have As : Hid ((ks.take (q + 1)).any (fun a => a.k.name == l) = (kj.b.data.toList == l)) := by
                unfold Hid
                have hql : q < ks.length := by omega
                rw [List.take_succ_eq_append_getElem hql, List.any_append, An.out]
                have e : ks[q] = kj := by
                  rw [List.getElem?_eq_getElem hql] at hkj
                  injection hkj
                rw [e]
                simp [KV.k]
              have hqk : q < ks.length := by omega
              by_cases hE : kj.b = kb
              · have E : Hid (R = 8) := by
                  unfold Hid
                  rw [← HR.out]
                  unfold Kd.kindFault
                  rw [Kn.out, if_pos Ok.out, List.any_map, if_pos]
                  rw [List.any_eq_true]
                  refine ⟨kj, ?_, by show (kj.b.data.toList == l) = true; rw [hE, Hl.out]; simp⟩
                  rw [List.mem_iff_getElem?]
                  exact ⟨q, by rw [List.getElem?_take, if_pos hqi']; exact hkj⟩
                rw [hE] at cj
                clear hE hkj As
                go_wp2
                go_quiet (fail)
                go_wp2
                go_ret
                exact ⟨by rw [E.out]; rfl, _root_.Go.below_drewN B2.out _⟩
              · have As' : Hid ((ks.take (q + 1)).any (fun a => a.k.name == l) = false) := by
                  unfold Hid
                  rw [As.out]
                  cases h9 : (kj.b.data.toList == l) with
                  | false => rfl
                  | true =>
                    have : kj.b.data.toList = l := by simpa using h9
                    exact absurd (WideShapes.bytes_inj (by rw [this, Hl.out])) hE
                have hE2 : (kj.b.toList == kb.toList) = false := by
                  rw [ByteArray.toList_eq, ByteArray.toList_eq]
                  cases h9 : (kj.b.data.toList == kb.data.toList) with
                  | false => rfl
                  | true => exact absurd (WideShapes.bytes_inj (by simpa using h9)) hE
                clear As hkj
                generalize kj.b = jb at *
                go_wp2
                go_quiet (fail)
                go_wp2
                go_round
                case rel => exact ⟨q + 1, r + nq, by omega, by go_num, As', Qr.out _⟩
                case measure => simp [intOf]; omega
        · have hqs' : q < kb.size := by omega
          have hql : q < l.length := by rw [Ll.out]; exact hqs'
          have eb : l[q] = kb[q] := by
            have := Hl.out
            subst this
            rfl
          have TK : Hid (l.take (q + 1) = l.take q ++ [kb[q]]) := by unfold Hid; rw [List.take_succ_eq_append_getElem hql, eb]
          have MB : Hid (kb[q] ∈ l) := by unfold Hid; rw [← eb]; exact List.getElem_mem hql
          have N2 : Hid (Kd.isLetter kb[q] = false → R = 2) := fun h => NB.out (by
            rw [NO.out]
            cases ha : l.all Kd.isLetter with
            | false => rfl
            | true =>
              have := List.all_eq_true.1 ha _ MB.out
              rw [h] at this
              cases this)
          have DS : Hid (Kd.isLetter kb[q] = true → (l.take (q + 1)).all Kd.isLetter = true) := fun h => by rw [TK.out, List.all_append, Hd.out]; simpa using h
          have Db : Hid (Kd.isLetter kb[q] = (decide (97 ≤ kb[q].toNat) && decide (kb[q].toNat ≤ 122))) := rfl
          obtain ⟨b, hb9⟩ : ∃ b, kb[q].toNat = b := ⟨_, rfl⟩
          rw [hb9] at Db
          clear eb hql MB TK
          by_cases p1 : b < 97
          · have E : Hid (R = 2) := N2.out (by rw [Db.out, decide_eq_false (by omega)]; rfl)
            have p1' : (b : Int) < 97 := by omega
            clear N2 Db DS
            go_wp2
            go_ret
            exact ⟨by rw [E.out]; rfl, B1⟩
          · have p1' : ¬ (b : Int) < 97 := by omega
            by_cases p2 : 122 < b
            · have E : Hid (R = 2) := N2.out (by rw [Db.out, decide_eq_false (show ¬ b ≤ 122 by omega), Bool.and_false])
              have p2' : (122 : Int) < (b : Int) := by omega
              clear N2 Db DS
              go_wp2
              go_ret
              exact ⟨by rw [E.out]; rfl, B1⟩
            · have p2' : ¬ (122 : Int) < (b : Int) := by omega
              have DD : Hid ((l.take (q + 1)).all Kd.isLetter = true) := DS.out (by rw [Db.out, decide_eq_true (by omega), decide_eq_true (by omega)]; rfl)
              clear N2 Db DS
              go_wp2
              go_round
              case rel => exact ⟨q + 1, by omega, by go_num, DD⟩
              case measure => simp [intOf]; omega
end Go.Proofs.YteieikgkmfglaaaGreatDoor

namespace Go.Proofs.YteieikgkmfglaaaGreatDoor
open Go.RowKit
set_option linter.unusedVariables false

theorem kindsGo_at {ks : List KV} {i : Nat} {k : KV} (h : ks[i]? = some k) : Kd.kindsGo ((ks.take i).map KV.k) ((ks.drop i).map KV.k) = if Kd.kindFault ((ks.take i).map KV.k) k.k = 0 then Kd.kindsGo ((ks.take (i + 1)).map KV.k) ((ks.drop (i + 1)).map KV.k) else Kd.kindFault ((ks.take i).map KV.k) k.k := by
  obtain ⟨hi, e⟩ := List.getElem?_eq_some_iff.1 h
  rw [List.drop_eq_getElem_cons hi, e, List.map_cons, Kd.kindsGo, List.take_succ_eq_append_getElem hi, e, List.map_append]
  rfl

set_option maxHeartbeats 1000000 in
theorem ref_kinds (v : Value) (ks : List KV) (w : World) (h : Kl w v ks) (hb : ∀ k ∈ ks, k.b.size ≤ 9223372036854775807) :
    Calls Tryz.prog 25 #[v] w fun e w' => e = .returned (.int .i64 (Kd.kindsFault (ks.map KV.k))) ∧ Below w.heap.size w w' := by
  have K0 : Hid (Kl w v ks) := h
  have Hb : Hid (∀ k ∈ ks, k.b.size ≤ 9223372036854775807) := hb
  obtain ⟨R, hR⟩ : ∃ R, Kd.kindsFault (ks.map KV.k) = R := ⟨_, rfl⟩
  have HR : Hid (Kd.kindsFault (ks.map KV.k) = R) := hR
  rw [hR]
  clear hR hb
  obtain ⟨a, c, rfl, c1, c2, -⟩ := h
  by_cases h8 : 8 < ks.length
  · have E : Hid (R = 4) := by unfold Hid; rw [← HR.out]; unfold Kd.kindsFault; rw [if_pos (by simpa using h8)]
    have h8' : (8 : Int) < (ks.length : Int) := by omega
    go_enter Tryz.func25, Tryz.ntmps25
    go_wp2
    go_ret
    exact ⟨by rw [E.out]; rfl, Below.refl _ _⟩
  · have h8' : ¬ (8 : Int) < (ks.length : Int) := by omega
    have R1 : Hid (Kd.kindsGo [] (ks.map KV.k) = R) := by unfold Hid; rw [← HR.out]; unfold Kd.kindsFault; rw [if_neg (by simpa using h8)]
    go_enter Tryz.func25, Tryz.ntmps25
    go_wp2_with fail
    go_loopw [3] (fun j W' => ∃ q : Nat, q ≤ ks.length ∧ j = .int .i64 (q : Nat) ∧ Kd.kindsGo ((ks.take q).map KV.k) ((ks.drop q).map KV.k) = R ∧ Below w.heap.size w W') (fun j _ => ks.length - (intOf j).toNat)
    case atStart => exact ⟨0, Nat.zero_le _, rfl, R1, Below.refl _ _⟩
    case round =>
      obtain ⟨q, hq, rfl, hg, hb⟩ := hrel
      have Gq : Hid (Kd.kindsGo ((ks.take q).map KV.k) ((ks.drop q).map KV.k) = R) := hg
      have B : Hid (Below w.heap.size w wr) := hb
      clear hg hb
      by_cases hql : q = ks.length
      · have E : Hid (R = 0) := by
          unfold Hid
          rw [← Gq.out, hql, List.drop_of_length_le (Nat.le_refl _)]
          rfl
        subst hql
        go_wp2
        go_ret
        exact ⟨by rw [E.out]; rfl, B⟩
      · have hqk : q < ks.length := by omega
        obtain ⟨k, hk⟩ : ∃ k, ks[q]? = some k := ⟨_, List.getElem?_eq_getElem hqk⟩
        have At : Hid (R = if Kd.kindFault ((ks.take q).map KV.k) k.k = 0 then Kd.kindsGo ((ks.take (q + 1)).map KV.k) ((ks.drop (q + 1)).map KV.k) else Kd.kindFault ((ks.take q).map KV.k) k.k) := by
          unfold Hid
          rw [← kindsGo_at hk]
          exact Gq.out.symm
        have CK := ref_kind (.slice a ks.length c) ks q k wr (K0.out.below B.out) hk (by omega) (Hb.out k (List.mem_of_getElem? hk))
        generalize Kd.kindFault ((ks.take q).map KV.k) k.k = F at *
        have CK' : Hid (Calls Tryz.prog 52 #[.slice a ks.length c, .int .i64 (q : Nat)] wr fun e w' => e = .returned (.int .i64 F) ∧ Below wr.heap.size wr w') := CK
        clear CK hk
        go_wp2_with fail
        refine Calls.mono CK'.out ?_
        rintro e w2 ⟨rfl, k2⟩
        have B2 : Hid (Below w.heap.size w w2) := B.out.trans (k2.mono B.out.size)
        clear k2 CK'
        by_cases hF : F = 0
        · have G2 : Hid (Kd.kindsGo ((ks.take (q + 1)).map KV.k) ((ks.drop (q + 1)).map KV.k) = R) := by
            unfold Hid
            have := At.out
            rw [if_pos hF] at this
            exact this.symm
          subst hF
          clear At
          go_wp2
          go_round
          case rel => exact ⟨q + 1, by omega, by go_num, G2, B2⟩
          case measure => simp [intOf]; omega
        · have E : Hid (R = F) := by
            unfold Hid
            have := At.out
            rw [if_neg hF] at this
            exact this
          clear At
          go_wp2
          go_ret
          exact ⟨by rw [E.out]; rfl, B2⟩
end Go.Proofs.YteieikgkmfglaaaGreatDoor

namespace Go.Proofs.YteieikgkmfglaaaGreatDoor
open Go.RowKit
set_option linter.unusedVariables false

theorem ret_int {k : IntKind} {a b : Int} (h : a = b) : Ending.returned (.int k a) = .returned (.int k b) := by rw [h]

set_option maxHeartbeats 1000000 in
theorem ref_cells (a b : Option Addr) (c d : Nat) (W H : Int) (gs os : List Int) (w : World) (w1 : 1 ≤ W) (w2 : W ≤ 12) (h1 : 1 ≤ H) (h2 : H ≤ 12) (hg : (gs.length : Int) = W * H) (ho : (os.length : Int) = W * H)
    (c1 : gs.length ≤ c) (c2 : c ≤ 9223372036854775807) (d1 : os.length ≤ d) (d2 : d ≤ 9223372036854775807) (ha : Cells w a gs) (hb : Cells w b os) :
    Calls Tryz.prog 26 #[.agg #[.int .i64 W, .int .i64 H, .slice a gs.length c, .slice b os.length d]] w fun e w' => e = .returned (.int .i64 (Fd.cellsFault gs os)) ∧ Below w.heap.size w w' := by
  have Ha : Hid (Cells w a gs) := ha
  have Hb : Hid (Cells w b os) := hb
  have hn : W * H ≤ 144 := by
    have := Int.mul_le_mul w2 h2 (by omega) (by omega)
    omega
  have Ho : Hid (os.length = gs.length) := by unfold Hid; omega
  have e1 : W * H = (gs.length : Int) := by omega
  have e2 : os.length = gs.length := Ho.out
  have hnn : gs.length ≤ 144 := by omega
  clear ha hb
  rw [e2] at d1 ⊢
  clear hg ho e2
  generalize hw0 : w.alloc (Obj.cells #[.int .i64 W, .int .i64 H, .slice a gs.length c, .slice b gs.length d] 25) = w0
  have B0 : Hid (Below w.heap.size w w0) := by rw [← hw0]; exact (Below.refl _ _).alloc (Nat.le_refl _) _
  have f0 : w0.cell? ⟨w.heap.size, 2, none⟩ = some (.slice a gs.length c) := by rw [← hw0]; simp
  have f1 : w0.cell? ⟨w.heap.size, 3, none⟩ = some (.slice b gs.length d) := by rw [← hw0]; simp
  have Hw : Hid (w.alloc (Obj.cells #[.int .i64 W, .int .i64 H, .slice a gs.length c, .slice b gs.length d] 25) = w0) := hw0
  clear hw0
  have Ca : Hid (Cells w0 a gs) := Ha.out.below B0.out
  have Cb : Hid (Cells w0 b os) := Hb.out.below B0.out
  clear Ha Hb
  go_enter Tryz.func26, Tryz.ntmps26
  go_wp2_with fail
  rw [Hw.out]
  go_loop [3] (fun i => ∃ (k : Nat), k ≤ gs.length ∧ i = .int .i64 (k : Nat) ∧ Fd.cellsFault (gs.drop k) (os.drop k) = Fd.cellsFault gs os) (fun i => gs.length - (intOf i).toNat)
  case atStart => exact ⟨0, Nat.zero_le _, rfl, by simp⟩
  case round =>
    obtain ⟨k, hk, rfl, hf⟩ := hrel
    have Hf : Hid (Fd.cellsFault (gs.drop k) (os.drop k) = Fd.cellsFault gs os) := hf
    clear hf
    by_cases h0 : k = gs.length
    · subst h0
      go_wp2
      go_ret
      refine ⟨?_, B0.out⟩
      rw [← Hf.out, List.drop_of_length_le (Nat.le_refl _)]
      rfl
    · have hkx : k < gs.length := by omega
      have hky : k < os.length := by rw [Ho.out]; exact hkx
      obtain ⟨x, rfl, -, hx⟩ := Ca.out (by intro h; rw [h] at hkx; simp at hkx)
      obtain ⟨y, rfl, -, hy⟩ := Cb.out (by intro h; rw [h] at hky; simp at hky)
      have cx := hx k gs[k] (List.getElem?_eq_getElem hkx)
      have cy := hy k os[k] (List.getElem?_eq_getElem hky)
      have Te := Fd.cellsFault_drop gs os k gs[k] os[k] (List.getElem?_eq_getElem hkx) (List.getElem?_eq_getElem hky)
      rw [Hf.out] at Te
      have HT : Hid _ := Te
      generalize gs[k] = p at *
      generalize os[k] = r at *
      clear hx hy Te
      have Bad : Hid ((p < 0 ∨ 3 < p ∨ r < 0 ∨ 1000000 < r) → Fd.cellsFault gs os = 1) := fun h => by
        have e : Fd.cellFault p r = 1 := by unfold Fd.cellFault; rw [if_pos h]
        have := HT.out
        rw [e] at this
        exact this
      by_cases q1 : p < 0
      · go_wp2
        go_ret
        exact ⟨ret_int (Bad.out (.inl q1)).symm, B0.out⟩
      · by_cases q2 : 3 < p
        · go_wp2
          go_ret
          exact ⟨ret_int (Bad.out (.inr (.inl q2))).symm, B0.out⟩
        · by_cases q3 : r < 0
          · go_wp2
            go_ret
            exact ⟨ret_int (Bad.out (.inr (.inr (.inl q3)))).symm, B0.out⟩
          · by_cases q4 : 1000000 < r
            · go_wp2
              go_ret
              exact ⟨ret_int (Bad.out (.inr (.inr (.inr q4)))).symm, B0.out⟩
            · have HT2 : Hid (Fd.cellsFault gs os = if 0 < r ∧ p ≠ 0 then 7 else Fd.cellsFault (gs.drop (k + 1)) (os.drop (k + 1))) := by
                unfold Hid
                have e : Fd.cellFault p r = if 0 < r ∧ p ≠ 0 then 7 else 0 := by unfold Fd.cellFault; rw [if_neg (by omega)]
                rw [HT.out, e]
                by_cases q : 0 < r ∧ p ≠ 0
                · rw [if_pos q, if_pos q, if_neg (show ¬ (7 : Int) = 0 by decide)]
                · rw [if_neg q, if_neg q, if_pos rfl]
              clear HT Bad
              by_cases q5 : 0 < r
              · by_cases q6 : p = 0
                · subst q6
                  go_wp2
                  go_round
                  case rel => exact ⟨k + 1, by omega, by go_num, by rw [HT2.out, if_neg (by simp)]⟩
                  case measure => simp [intOf]; omega
                · go_wp2
                  go_ret
                  exact ⟨ret_int (by rw [HT2.out, if_pos ⟨q5, q6⟩]), B0.out⟩
              · go_wp2
                go_round
                case rel => exact ⟨k + 1, by omega, by go_num, by rw [HT2.out, if_neg (by omega)]⟩
                case measure => simp [intOf]; omega

set_option maxHeartbeats 1000000 in
theorem ref_range (u1 u2 : Value) (W H : Int) (w : World) (h : W < 1 ∨ 12 < W ∨ H < 1 ∨ 12 < H) :
    Calls Tryz.prog 26 #[.agg #[.int .i64 W, .int .i64 H, u1, u2]] w fun e w' => e = .returned (.int .i64 1) ∧ Below w.heap.size w w' := by
  have B : Hid (∀ o, Below w.heap.size w (w.alloc o)) := fun o => (Below.refl _ _).alloc (Nat.le_refl _) _
  by_cases q1 : W < 1
  · go_enter Tryz.func26, Tryz.ntmps26
    go_wp2
    go_ret
    exact ⟨rfl, B.out _⟩
  · by_cases q2 : 12 < W
    · go_enter Tryz.func26, Tryz.ntmps26
      go_wp2
      go_ret
      exact ⟨rfl, B.out _⟩
    · by_cases q3 : H < 1
      · go_enter Tryz.func26, Tryz.ntmps26
        go_wp2
        go_ret
        exact ⟨rfl, B.out _⟩
      · have q4 : 12 < H := by omega
        clear h
        go_enter Tryz.func26, Tryz.ntmps26
        go_wp2
        go_ret
        exact ⟨rfl, B.out _⟩

set_option maxHeartbeats 1000000 in
theorem ref_shape (a b : Option Addr) (n m c d : Nat) (W H : Int) (w : World) (w1 : 1 ≤ W) (w2 : W ≤ 12) (h1 : 1 ≤ H) (h2 : H ≤ 12) (h : (n : Int) ≠ W * H ∨ (m : Int) ≠ W * H) :
    Calls Tryz.prog 26 #[.agg #[.int .i64 W, .int .i64 H, .slice a n c, .slice b m d]] w fun e w' => e = .returned (.int .i64 3) ∧ Below w.heap.size w w' := by
  have hn : W * H ≤ 144 := by
    have := Int.mul_le_mul w2 h2 (by omega) (by omega)
    omega
  have hp : 0 ≤ W * H := Int.mul_nonneg (by omega) (by omega)
  by_cases e : (n : Int) = W * H
  · have e2 : ¬ (m : Int) = W * H := by omega
    have e' : W * H = (n : Int) := e.symm
    rw [e'] at e2
    clear h e
    go_enter Tryz.func26, Tryz.ntmps26
    go_wp2
    go_ret
    exact ⟨rfl, (Below.refl _ _).alloc (Nat.le_refl _) _⟩
  · clear h
    go_enter Tryz.func26, Tryz.ntmps26
    go_wp2
    go_ret
    exact ⟨rfl, (Below.refl _ _).alloc (Nat.le_refl _) _⟩

/-- what the reference says of a field. -/
theorem ref_field (v : Value) (W H : Int) (gs os : List Int) (w : World) (h : Fl w v W H gs os) :
    Calls Tryz.prog 26 #[v] w fun e w' => e = .returned (.int .i64 (Fd.fault W H gs os)) ∧ Below w.heap.size w w' := by
  obtain ⟨u1, u2, rfl, ⟨a, c, rfl, c1, c2, ca⟩, ⟨b, d, rfl, d1, d2, cb⟩⟩ := h
  unfold Fd.fault
  by_cases h1 : W < 1 ∨ 12 < W ∨ H < 1 ∨ 12 < H
  · rw [if_pos h1]
    exact ref_range _ _ W H w h1
  · rw [if_neg h1]
    by_cases h2 : (gs.length : Int) ≠ W * H ∨ (os.length : Int) ≠ W * H
    · rw [if_pos h2]
      exact ref_shape _ _ _ _ _ _ W H w (by omega) (by omega) (by omega) (by omega) h2
    · rw [if_neg h2]
      exact ref_cells a b c d W H gs os w (by omega) (by omega) (by omega) (by omega) (by omega) (by omega) c1 c2 d1 d2 ca cb
end Go.Proofs.YteieikgkmfglaaaGreatDoor

