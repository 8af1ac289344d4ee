/- The package variable of the four sides, as it is laid. · The reference: what is wrong with a kind, and with some. · The reference: what is wrong with some kinds. · What the reference says of a field (cut out of RfA). · Worlds: the reference's Check. · What plain.Told and marchsame.Error answer of nil, and of an Errno: errors.As is walked at the target *api.Errno. · An error that is told is the reference's. · Lists of integers: what marchsame.Ints answers. · What marchsame.Field answers of two fields that are the same. · What marchsame.World answers of two worlds that are the same. · Are two lists of events the same? · What a walk is told of worlds and bytes that came in. · What a walk is told of kinds that came in. · MoveGoes: the walk. -/
import Derived.Test.YtagnjmellcibhaaGreatDoorZMoveGoes1
import Derived.ProofKit
import Derived.OpenShut
import Derived.ChangeSame
import Derived.FnData
import Derived.LaidLaws
import Derived.Test.YtagnjmellcibhaaGreatDoorZMoveGoes3
import Derived.Laws.Closers25
import Derived.Deep.DeepCutAuto
import Derived.IntWalk
import Derived.Test.YtagnjmellcibhaaGreatDoorZMoveGoes6
import Derived.Test.YtagnjmellcibhaaGreatDoorZMoveGoes4
import Derived.Test.YtagnjmellcibhaaGreatDoorZMoveGoes5
import Derived.Test.YtagnjmellcibhaaGreatDoorRows
import Derived.WalkKit
import Derived.WalkSpells
import Derived.WalkLawsBesides
import Derived.LaidEql
import Derived.Stop.Asserts
import Derived.RowKitTokens
import Derived.BigRegion
import Derived.Deep.SlicePairs
import Derived.ChangeArms
import Derived.Test.YtagnjmellcibhaaGreatDoorZMoveGoes7
namespace Go.Proofs.YtagnjmellcibhaaGreatDoor
open Go.ChangeShapes Go.WideShapes Go.ChangeAt Go.RowKit
set_option linter.unusedVariables false

theorem sides_g : Tryz.prog.globalNamed "marchland/field.sides" = some 1 := by kernel_rfl
theorem sides_t : (Tryz.prog.globals[1]?).map (·.type) = some 189 := by kernel_rfl
theorem side_cs : Tryz.prog.cellsOf 188 = 2 := by kernel_rfl
theorem int_cs : Tryz.prog.cellsOf 3 = 1 := by kernel_rfl

theorem len2 {α : Type} {l : List α} (h : l.length = 2) : ∃ a b, l = [a, b] := by
  match l, h with
  | [a, b], _ => exact ⟨a, b, rfl⟩
theorem len4 {α : Type} {l : List α} (h : l.length = 4) : ∃ a b c d, l = [a, b, c, d] := by
  match l, h with
  | [a, b, c, d], _ => exact ⟨a, b, c, d, rfl⟩

set_option maxRecDepth 100000 in
theorem side_cells {w : World} {fuel : Nat} {cs : List Value} {a b : Int} {y : DataW Unit × List MemPlace} (h : DataW.trod (fun _ => ()) Tryz.prog w 0 (fun _ => true) false fuel 188 cs = some y) (hy : y.1 = .agg [.lit (.int .i64 a), .lit (.int .i64 b)]) : cs = [.int .i64 a, .int .i64 b] := by
  obtain ⟨y0, y1, n, hx, hl, h0, h1⟩ := trod_struct2 Tryz.underlying188 h
  obtain ⟨p, e0, f0, -⟩ := DataW.trod_int Tryz.underlying3 h0
  obtain ⟨q, e1, f1, -⟩ := DataW.trod_int Tryz.underlying3 h1
  rw [hx, f0, f1] at hy
  simp only [DataW.agg.injEq, List.cons.injEq, DataW.lit.injEq, Lit.int.injEq, true_and, and_true] at hy
  obtain ⟨rfl, rfl⟩ := hy
  dsimp only at e0 e1
  rw [int_cs] at e0 e1
  rw [side_cs] at hl
  obtain ⟨c0, c1, rfl⟩ := len2 hl
  simp at e0 e1
  rw [e0, e1]

set_option maxRecDepth 100000 in
theorem sd_of_laid {w : World} (h : laidMet Tryz.prog [("marchland/field.sides", Rows.laid_marchland_field_sides)] w) : Sd w := by
  obtain ⟨ps, ⟨g, t, cs, fuel, p, q, h1, h2, h3, h4, -, -⟩, -, -⟩ := h
  obtain rfl := Option.some.inj (sides_g.symm.trans h1)
  obtain rfl := Option.some.inj (sides_t.symm.trans h2)
  obtain ⟨xs, m, -, hx, hl, hn, hi⟩ := DataW.trod_array Tryz.underlying189 h4
  have hd : xs.map (·.1) = [.agg [.lit (.int .i64 0), .lit (.int .i64 (-1))], .agg [.lit (.int .i64 (-1)), .lit (.int .i64 0)], .agg [.lit (.int .i64 1), .lit (.int .i64 0)], .agg [.lit (.int .i64 0), .lit (.int .i64 1)]] := by
    have e : Rows.laid_marchland_field_sides = DataW.agg (xs.map (·.1)) := congrArg Prod.fst hx
    unfold Rows.laid_marchland_field_sides at e
    injection e with e
    exact e.symm
  obtain ⟨x0, x1, x2, x3, rfl⟩ := len4 hn
  simp only [List.map_cons, List.map_nil, List.cons.injEq, and_true] at hd
  obtain ⟨d0, d1, d2, d3⟩ := hd
  have i0 := side_cells (hi 0 (by decide)) d0
  have i1 := side_cells (hi 1 (by decide)) d1
  have i2 := side_cells (hi 2 (by decide)) d2
  have i3 := side_cells (hi 3 (by decide)) d3
  rw [side_cs] at i0 i1 i2 i3
  have ec : ∀ k : Nat, w.cell? ⟨1, k, none⟩ = cs.toList[k]? := fun k => by
    have e := World.var?_cell sides_g h3 k
    rw [e, Array.getElem?_toList]
  have g0 : ∀ k a b, (cs.toList.drop (k * 2)).take 2 = [.int .i64 a, .int .i64 b] → cs.toList[k * 2]? = some (.int .i64 a) ∧ cs.toList[k * 2 + 1]? = some (.int .i64 b) := by
    intro k a b e
    constructor
    · have := congrArg (fun l => l[0]?) e
      simpa [List.getElem?_take, List.getElem?_drop] using this
    · have := congrArg (fun l => l[1]?) e
      simpa [List.getElem?_take, List.getElem?_drop] using this
  have j0 := g0 0 _ _ i0
  have j1 := g0 1 _ _ i1
  have j2 := g0 2 _ _ i2
  have j3 := g0 3 _ _ i3
  exact ⟨(ec 0).trans j0.1, (ec 1).trans j0.2, (ec 2).trans j1.1, (ec 3).trans j1.2, (ec 4).trans j2.1, (ec 5).trans j2.2, (ec 6).trans j3.1, (ec 7).trans j3.2⟩
end Go.Proofs.YtagnjmellcibhaaGreatDoor

namespace Go.Proofs.YtagnjmellcibhaaGreatDoor
open Go.RowKit
set_option linter.unusedVariables false

theorem ref_numbers (k : KV) (w : World) :
    Calls Tryz.prog 83 #[k.val] w fun e w' => ∃ u, e = .returned u ∧ Ro w' u [k.n0, k.n1, k.n2, k.n3, k.n4, k.n5, k.n6, k.n7] ∧ Below w.heap.size w w' := by
  obtain ⟨b, n0, n1, n2, n3, n4, n5, n6, n7, f, t⟩ := k
  unfold KV.val
  go_enter Tryz.func83, Tryz.ntmps83
  go_wp2_with fail
  go_ret
  refine ⟨_, rfl, ?_, ((Below.refl _ _).alloc (Nat.le_refl _) _).alloc (by simp) _⟩
  exact Ro.lit (w := w.alloc _) (z := w.heap.size + 1) [n0, n1, n2, n3, n4, n5, n6, n7] _ rfl (by simp) (by simp)

theorem name_empty {s : ByteArray} (h : s.data.toList = []) : s.toList.isEmpty = true := by
  rw [← decide_eq_emptyBytes s]
  exact decide_eq_true (WideShapes.bytes_inj (by rw [h]; rfl))
theorem name_some {s : ByteArray} (h : s.data.toList ≠ []) : s.toList.isEmpty = false := by
  rw [← decide_eq_emptyBytes s]
  exact decide_eq_false (fun e => h (by rw [e]; rfl))
theorem kf_name {ah : List Kd.K} {k : Kd.K} (h : Kd.nameOk k.name = false) : Kd.kindFault ah k = 2 := by
  unfold Kd.kindFault
  rw [if_neg (by rw [h]; decide)]

set_option maxRecDepth 100000 in
set_option maxHeartbeats 4000000 in
theorem ref_kind (v : Value) (ks : List KV) (i : Nat) (k : KV) (w : World) (h : Kl w v ks) (hi : ks[i]? = some k) (hn : ks.length ≤ 1000000) (hb : k.b.size ≤ 9223372036854775807) :
    Calls Tryz.prog 53 #[v, .int .i64 (i : Nat)] w fun e w' => e = .returned (.int .i64 (Kd.kindFault ((ks.take i).map KV.k) k.k)) ∧ Below w.heap.size w w' := by
  have hil : i < ks.length := (List.getElem?_eq_some_iff.1 hi).1
  obtain ⟨a, c, rfl, c1, c2, hx⟩ := h
  obtain ⟨x, rfl, xl, hk⟩ := hx (by intro e; rw [e] at hil; simp at hil)
  have Hk : Hid (x.block < w.heap.size ∧ ∀ (i : Nat) k, ks[i]? = some k → Kc w (x.add (i * 11)) k) := ⟨xl, hk⟩
  obtain ⟨q0, q1, q2, q3, q4, q5, q6, q7, q8, q9, q10⟩ := hk i k hi
  clear hx hk xl
  obtain ⟨l, hl⟩ : ∃ l, k.b.data.toList = l := ⟨_, rfl⟩
  have Hl : Hid (k.b.data.toList = l) := hl
  have Ll : Hid (l.length = k.b.size) := by unfold Hid; rw [← hl]; rfl
  have Kn : Hid (k.k.name = l) := hl
  have Km : Hid (k.k.nums = [k.n0, k.n1, k.n2, k.n3, k.n4, k.n5, k.n6, k.n7]) := rfl
  have Hi : Hid (ks[i]? = some k) := hi
  clear hi hl
  obtain ⟨R, hR⟩ : ∃ R, Kd.kindFault ((ks.take i).map KV.k) k.k = R := ⟨_, rfl⟩
  have HR : Hid (Kd.kindFault ((ks.take i).map KV.k) k.k = R) := hR
  rw [hR]
  clear hR
  have NB : Hid (Kd.nameOk l = false → R = 2) := fun h => by rw [← HR.out]; exact kf_name (by rw [Kn.out]; exact h)
  have Z : Hid (k.val = k.val) := rfl
  obtain ⟨kb, n0, n1, n2, n3, n4, n5, n6, n7, kf, kt⟩ := k
  simp only at q0 q1 q2 q3 q4 q5 q6 q7 q8 q9 q10 hb Hl Ll Km
  go_enter Tryz.func53, Tryz.ntmps53
  have B1 : Hid (Below w.heap.size w (w.alloc (Obj.cells #[.string kb, .int .i64 n0, .int .i64 n1, .int .i64 n2, .int .i64 n3, .int .i64 n4, .int .i64 n5, .int .i64 n6, .int .i64 n7, .bool kf, .bool kt] 61))) := (Below.refl _ _).alloc (Nat.le_refl _) _
  have X1 : Hid (Kc (w.alloc (Obj.cells #[.string kb, .int .i64 n0, .int .i64 n1, .int .i64 n2, .int .i64 n3, .int .i64 n4, .int .i64 n5, .int .i64 n6, .int .i64 n7, .bool kf, .bool kt] 61)) ⟨w.heap.size, 0, none⟩ ⟨kb, n0, n1, n2, n3, n4, n5, n6, n7, kf, kt⟩) := Kc.mk' ⟨kb, n0, n1, n2, n3, n4, n5, n6, n7, kf, kt⟩ rfl
  go_upto_region 2 with fail
  generalize w.alloc (Obj.cells #[.string kb, .int .i64 n0, .int .i64 n1, .int .i64 n2, .int .i64 n3, .int .i64 n4, .int .i64 n5, .int .i64 n6, .int .i64 n7, .bool kf, .bool kt] 61) = w1 at *
  have y0 : w1.cell? ⟨w.heap.size, 0, none⟩ = some (.string kb) := X1.out.c0
  have y1 : w1.cell? ⟨w.heap.size, 1, none⟩ = some (.int .i64 n0) := X1.out.c1
  have y2 : w1.cell? ⟨w.heap.size, 2, none⟩ = some (.int .i64 n1) := X1.out.c2
  have y3 : w1.cell? ⟨w.heap.size, 3, none⟩ = some (.int .i64 n2) := X1.out.c3
  have y4 : w1.cell? ⟨w.heap.size, 4, none⟩ = some (.int .i64 n3) := X1.out.c4
  have y5 : w1.cell? ⟨w.heap.size, 5, none⟩ = some (.int .i64 n4) := X1.out.c5
  have y6 : w1.cell? ⟨w.heap.size, 6, none⟩ = some (.int .i64 n5) := X1.out.c6
  have y7 : w1.cell? ⟨w.heap.size, 7, none⟩ = some (.int .i64 n6) := X1.out.c7
  have y8 : w1.cell? ⟨w.heap.size, 8, none⟩ = some (.int .i64 n7) := X1.out.c8
  have y9 : w1.cell? ⟨w.heap.size, 9, none⟩ = some (.bool kf) := X1.out.c9
  have y10 : w1.cell? ⟨w.heap.size, 10, none⟩ = some (.bool kt) := X1.out.c10
  clear q0 q1 q2 q3 q4 q5 q6 q7 q8 q9 q10
  by_cases h0 : l = []
  · have he : kb.toList.isEmpty = true := name_empty (by rw [Hl.out]; exact h0)
    have E : Hid (R = 2) := NB.out (by rw [h0]; rfl)
    clear h0
    go_wp2
    go_ret
    exact ⟨by rw [E.out]; rfl, B1⟩
  · have he : kb.toList.isEmpty = false := name_some (by rw [Hl.out]; exact h0)
    by_cases h1 : 8 < kb.size
    · have E : Hid (R = 2) := NB.out (by
        unfold Kd.nameOk
        rw [decide_eq_false (by rw [Ll.out]; omega)]
        simp)
      have h1' : (8 : Int) < (kb.size : Int) := by omega
      clear h0
      go_wp2
      go_ret
      exact ⟨by rw [E.out]; rfl, B1⟩
    · have h1' : ¬ (8 : Int) < (kb.size : Int) := by omega
      have NO : Hid (Kd.nameOk l = l.all Kd.isLetter) := by
        unfold Hid Kd.nameOk
        rw [decide_eq_true (by rw [Ll.out]; omega), Bool.true_and]
        cases l with
        | nil => exact absurd rfl h0
        | cons a r => rfl
      clear h0
      go_wp2_with fail
      go_loop [6] (fun j => ∃ q : Nat, q ≤ kb.size ∧ j = .int .i64 (q : Nat) ∧ (l.take q).all Kd.isLetter = true) (fun j => kb.size - (intOf j).toNat)
      case atStart => exact ⟨0, Nat.zero_le _, rfl, by simp⟩
      case round =>
        obtain ⟨q, hq, rfl, hd⟩ := hrel
        have Hd : Hid ((l.take q).all Kd.isLetter = true) := hd
        clear hd
        by_cases hqs : q = kb.size
        · have Ok : Hid (Kd.nameOk l = true) := by
            unfold Hid
            rw [NO.out]
            have := Hd.out
            rw [List.take_of_length_le (by rw [Ll.out, hqs]; exact Nat.le_refl _)] at this
            exact this
          subst hqs
          clear NO Hd NB
          go_wp2_with fail
          clear y0 y1 y2 y3 y4 y5 y6 y7 y8 y9 y10 he h1 h1' hq
          go_loopw [7] (fun j W' => ∃ q r : Nat, q ≤ i ∧ j = .int .i64 (q : Nat) ∧ (ks.take q).any (fun a => a.k.name == l) = false ∧ W' = w1.drewN r) (fun j _ => i - (intOf j).toNat)
          case atStart => exact ⟨0, 0, Nat.zero_le _, rfl, by simp, rfl⟩
          case round =>
            obtain ⟨q, r, hq, rfl, hany, rfl⟩ := hrel
            have An : Hid ((ks.take q).any (fun a => a.k.name == l) = false) := hany
            clear hany
            have kr : Below w1.heap.size w1 (w1.drewN r) := _root_.Go.below_drewN (Below.refl _ _) _
            have B2 : Hid (Below w.heap.size w (w1.drewN r)) := B1.out.trans (kr.mono B1.out.size)
            have Y2 : Hid (Kc (w1.drewN r) ⟨w.heap.size, 0, none⟩ ⟨kb, n0, n1, n2, n3, n4, n5, n6, n7, kf, kt⟩) := X1.out.below kr X1.out.lt
            have Qr : Hid (∀ n, (w1.drewN r).drewN n = w1.drewN (r + n)) := fun n => by rw [World.drewN_drewN]
            generalize w1.drewN r = w2 at *
            have y0 : w2.cell? ⟨w.heap.size, 0, none⟩ = some (.string kb) := Y2.out.c0
            by_cases hqi : q = i
            · have R1 : Hid (R = Kd.numsFault [n0, n1, n2, n3, n4, n5, n6, n7]) := by
                unfold Hid
                rw [← HR.out]
                unfold Kd.kindFault
                rw [Kn.out, if_pos Ok.out, List.any_map, if_neg, Km.out]
                have := An.out
                rw [hqi] at this
                intro h9
                rw [show ((fun a : Kd.K => a.name == l) ∘ KV.k) = fun a : KV => a.k.name == l from rfl, this] at h9
                cases h9
              subst hqi
              obtain ⟨x0, x1, x2, x3, x4, x5, x6, x7, x8, x9, x10⟩ := Y2.out
              have x1 : w2.cell? ⟨w.heap.size, 1, none⟩ = some (.int .i64 n0) := x1
              have x2 : w2.cell? ⟨w.heap.size, 2, none⟩ = some (.int .i64 n1) := x2
              have x3 : w2.cell? ⟨w.heap.size, 3, none⟩ = some (.int .i64 n2) := x3
              have x4 : w2.cell? ⟨w.heap.size, 4, none⟩ = some (.int .i64 n3) := x4
              have x5 : w2.cell? ⟨w.heap.size, 5, none⟩ = some (.int .i64 n4) := x5
              have x6 : w2.cell? ⟨w.heap.size, 6, none⟩ = some (.int .i64 n5) := x6
              have x7 : w2.cell? ⟨w.heap.size, 7, none⟩ = some (.int .i64 n6) := x7
              have x8 : w2.cell? ⟨w.heap.size, 8, none⟩ = some (.int .i64 n7) := x8
              have x9 : w2.cell? ⟨w.heap.size, 9, none⟩ = some (.bool kf) := x9
              have x10 : w2.cell? ⟨w.heap.size, 10, none⟩ = some (.bool kt) := x10
              go_wp2_with fail
              refine (ref_numbers ⟨kb, n0, n1, n2, n3, n4, n5, n6, n7, kf, kt⟩ _).mono ?_
              rintro e w3 ⟨u, rfl, hu, k3⟩
              have B3 : Hid (Below w.heap.size w w3) := B2.out.trans (k3.mono B2.out.size)
              have Y3 := Y2.out.below k3 Y2.out.lt
              obtain ⟨au, cu, rfl, g1, g2, hc⟩ := hu
              obtain ⟨yu, rfl, -, hyu⟩ := hc (by simp)
              have Yu : Hid (∀ (j : Nat) d, [n0, n1, n2, n3, n4, n5, n6, n7][j]? = some d → w3.cell? (yu.add j) = some (.int .i64 d)) := hyu
              clear k3 hc hyu x0 x1 x2 x3 x4 x5 x6 x7 x8 x9 x10 y0 An
              obtain ⟨ns, hns⟩ : ∃ ns, [n0, n1, n2, n3, n4, n5, n6, n7] = ns := ⟨_, rfl⟩
              have Hns : Hid ([n0, n1, n2, n3, n4, n5, n6, n7] = ns) := hns
              simp only [List.length_cons, List.length_nil, Nat.zero_add, Nat.reduceAdd] at g1 ⊢
              rw [hns] at R1 Yu
              have nl : Hid (ns.length = 8) := by rw [← hns]; rfl
              clear hns
              go_wp2_with fail
              go_loop [9] (fun j => ∃ p : Nat, p ≤ 8 ∧ j = .int .i64 (p : Nat) ∧ (ns.take p).any (fun x => decide (x < 0 ∨ 1000 < x)) = false) (fun j => 8 - (intOf j).toNat)
              case atStart => exact ⟨0, Nat.zero_le _, rfl, by simp⟩
              case round =>
                obtain ⟨p, hp, rfl, hany⟩ := hrel
                have An : Hid ((ns.take p).any (fun x => decide (x < 0 ∨ 1000 < x)) = false) := hany
                clear hany
                by_cases hp8 : p = 8
                · have R2 : Hid (R = if n0 < 1 ∨ 4 < n4 ∨ 12 < n2 ∨ 12 < n3 then 1 else 0) := by
                    have h9 := An.out
                    rw [List.take_of_length_le (by rw [nl.out, hp8]; exact Nat.le_refl _)] at h9
                    unfold Hid
                    rw [R1.out]
                    unfold Kd.numsFault
                    rw [if_neg (by rw [h9]; decide), ← Hns.out]
                    rfl
                  have z1 : w3.cell? ⟨w.heap.size, 1, none⟩ = some (.int .i64 n0) := Y3.c1
                  have z3 : w3.cell? ⟨w.heap.size, 3, none⟩ = some (.int .i64 n2) := Y3.c3
                  have z4 : w3.cell? ⟨w.heap.size, 4, none⟩ = some (.int .i64 n3) := Y3.c4
                  have z5 : w3.cell? ⟨w.heap.size, 5, none⟩ = some (.int .i64 n4) := Y3.c5
                  subst hp8
                  clear R1 An Y3
                  by_cases t1 : n0 < 1
                  · have E : Hid (R = 1) := by unfold Hid; rw [R2.out, if_pos (.inl t1)]
                    go_wp2
                    go_ret
                    exact ⟨by rw [E.out]; rfl, B3⟩
                  · by_cases t2 : 4 < n4
                    · have E : Hid (R = 1) := by unfold Hid; rw [R2.out, if_pos (.inr (.inl t2))]
                      go_wp2
                      go_ret
                      exact ⟨by rw [E.out]; rfl, B3⟩
                    · by_cases t3 : 12 < n2
                      · have E : Hid (R = 1) := by unfold Hid; rw [R2.out, if_pos (.inr (.inr (.inl t3)))]
                        go_wp2
                        go_ret
                        exact ⟨by rw [E.out]; rfl, B3⟩
                      · by_cases t4 : 12 < n3
                        · have E : Hid (R = 1) := by unfold Hid; rw [R2.out, if_pos (.inr (.inr (.inr t4)))]
                          go_wp2
                          go_ret
                          exact ⟨by rw [E.out]; rfl, B3⟩
                        · have E : Hid (R = 0) := by unfold Hid; rw [R2.out, if_neg (by omega)]
                          go_wp2
                          go_ret
                          exact ⟨by rw [E.out]; rfl, B3⟩
                · have hpn : p < ns.length := by rw [nl.out]; omega
                  have hp9 : p < 8 := by omega
                  have cp := Yu.out p _ (List.getElem?_eq_getElem hpn)
                  have As : Hid ((ns.take (p + 1)).any (fun x => decide (x < 0 ∨ 1000 < x)) = decide (ns[p] < 0 ∨ 1000 < ns[p])) := by
                    unfold Hid
                    rw [List.take_succ_eq_append_getElem hpn, List.any_append, An.out]
                    simp
                  have N2 : Hid ((ns[p] < 0 ∨ 1000 < ns[p]) → R = 1) := fun h => by
                    rw [R1.out]
                    unfold Kd.numsFault
                    rw [if_pos]
                    rw [List.any_eq_true]
                    exact ⟨_, List.getElem_mem hpn, decide_eq_true h⟩
                  generalize ns[p] = y at *
                  by_cases t1 : y < 0
                  · have E : Hid (R = 1) := N2.out (.inl t1)
                    clear N2 As
                    go_wp2
                    go_ret
                    exact ⟨by rw [E.out]; rfl, B3⟩
                  · by_cases t2 : 1000 < y
                    · have E : Hid (R = 1) := N2.out (.inr t2)
                      clear N2 As
                      go_wp2
                      go_ret
                      exact ⟨by rw [E.out]; rfl, B3⟩
                    · have As' : Hid ((ns.take (p + 1)).any (fun x => decide (x < 0 ∨ 1000 < x)) = false) := by
                        unfold Hid
                        rw [As.out]
                        exact decide_eq_false (by omega)
                      clear N2 As
                      go_wp2
                      go_round
                      case rel => exact ⟨p + 1, by omega, by go_num, As'⟩
                      case measure => simp [intOf]; omega
            · have hqi' : q < i := by omega
              obtain ⟨kj, hkj⟩ : ∃ kj, ks[q]? = some kj := ⟨_, List.getElem?_eq_getElem (by omega)⟩
              have cj : w2.cell? (x.add (q * 11)) = some (.string kj.b) := by
                rw [B2.out.cell (p := x.add (q * 11)) (by rw [add_block]; exact Hk.out.1)]
                exact (Hk.out.2 q kj hkj).c0
              have As : Hid ((ks.take (q + 1)).any (fun a => a.k.name == l) = (kj.b.data.toList == l)) := by
                unfold Hid
                have hql : q < ks.length := by omega
                rw [List.take_succ_eq_append_getElem hql, List.any_append, An.out]
                have e : ks[q] = kj := by
                  rw [List.getElem?_eq_getElem hql] at hkj
                  injection hkj
                rw [e]
                simp [KV.k]
              have hqk : q < ks.length := by omega
              by_cases hE : kj.b = kb
              · have E : Hid (R = 8) := by
                  unfold Hid
                  rw [← HR.out]
                  unfold Kd.kindFault
                  rw [Kn.out, if_pos Ok.out, List.any_map, if_pos]
                  rw [List.any_eq_true]
                  refine ⟨kj, ?_, by show (kj.b.data.toList == l) = true; rw [hE, Hl.out]; simp⟩
                  rw [List.mem_iff_getElem?]
                  exact ⟨q, by rw [List.getElem?_take, if_pos hqi']; exact hkj⟩
                rw [hE] at cj
                clear hE hkj As
                go_wp2
                go_quiet (fail)
                go_wp2
                go_ret
                exact ⟨by rw [E.out]; rfl, _root_.Go.below_drewN B2.out _⟩
              · have As' : Hid ((ks.take (q + 1)).any (fun a => a.k.name == l) = false) := by
                  unfold Hid
                  rw [As.out]
                  cases h9 : (kj.b.data.toList == l) with
                  | false => rfl
                  | true =>
                    have : kj.b.data.toList = l := by simpa using h9
                    exact absurd (WideShapes.bytes_inj (by rw [this, Hl.out])) hE
                have hE2 : (kj.b.toList == kb.toList) = false := by
                  rw [ByteArray.toList_eq, ByteArray.toList_eq]
                  cases h9 : (kj.b.data.toList == kb.data.toList) with
                  | false => rfl
                  | true => exact absurd (WideShapes.bytes_inj (by simpa using h9)) hE
                clear As hkj
                generalize kj.b = jb at *
                go_wp2
                go_quiet (fail)
                go_wp2
                go_round
                case rel => exact ⟨q + 1, r + nq, by omega, by go_num, As', Qr.out _⟩
                case measure => simp [intOf]; omega
        · have hqs' : q < kb.size := by omega
          have hql : q < l.length := by rw [Ll.out]; exact hqs'
          have eb : l[q] = kb[q] := by
            have := Hl.out
            subst this
            rfl
          have TK : Hid (l.take (q + 1) = l.take q ++ [kb[q]]) := by unfold Hid; rw [List.take_succ_eq_append_getElem hql, eb]
          have MB : Hid (kb[q] ∈ l) := by unfold Hid; rw [← eb]; exact List.getElem_mem hql
          have N2 : Hid (Kd.isLetter kb[q] = false → R = 2) := fun h => NB.out (by
            rw [NO.out]
            cases ha : l.all Kd.isLetter with
            | false => rfl
            | true =>
              have := List.all_eq_true.1 ha _ MB.out
              rw [h] at this
              cases this)
          have DS : Hid (Kd.isLetter kb[q] = true → (l.take (q + 1)).all Kd.isLetter = true) := fun h => by rw [TK.out, List.all_append, Hd.out]; simpa using h
          have Db : Hid (Kd.isLetter kb[q] = (decide (97 ≤ kb[q].toNat) && decide (kb[q].toNat ≤ 122))) := rfl
          obtain ⟨b, hb9⟩ : ∃ b, kb[q].toNat = b := ⟨_, rfl⟩
          rw [hb9] at Db
          clear eb hql MB TK
          by_cases p1 : b < 97
          · have E : Hid (R = 2) := N2.out (by rw [Db.out, decide_eq_false (by omega)]; rfl)
            have p1' : (b : Int) < 97 := by omega
            clear N2 Db DS
            go_wp2
            go_ret
            exact ⟨by rw [E.out]; rfl, B1⟩
          · have p1' : ¬ (b : Int) < 97 := by omega
            by_cases p2 : 122 < b
            · have E : Hid (R = 2) := N2.out (by rw [Db.out, decide_eq_false (show ¬ b ≤ 122 by omega), Bool.and_false])
              have p2' : (122 : Int) < (b : Int) := by omega
              clear N2 Db DS
              go_wp2
              go_ret
              exact ⟨by rw [E.out]; rfl, B1⟩
            · have p2' : ¬ (122 : Int) < (b : Int) := by omega
              have DD : Hid ((l.take (q + 1)).all Kd.isLetter = true) := DS.out (by rw [Db.out, decide_eq_true (by omega), decide_eq_true (by omega)]; rfl)
              clear N2 Db DS
              go_wp2
              go_round
              case rel => exact ⟨q + 1, by omega, by go_num, DD⟩
              case measure => simp [intOf]; omega
end Go.Proofs.YtagnjmellcibhaaGreatDoor

namespace Go.Proofs.YtagnjmellcibhaaGreatDoor
open Go.RowKit
set_option linter.unusedVariables false

theorem kindsGo_at {ks : List KV} {i : Nat} {k : KV} (h : ks[i]? = some k) : Kd.kindsGo ((ks.take i).map KV.k) ((ks.drop i).map KV.k) = if Kd.kindFault ((ks.take i).map KV.k) k.k = 0 then Kd.kindsGo ((ks.take (i + 1)).map KV.k) ((ks.drop (i + 1)).map KV.k) else Kd.kindFault ((ks.take i).map KV.k) k.k := by
  obtain ⟨hi, e⟩ := List.getElem?_eq_some_iff.1 h
  rw [List.drop_eq_getElem_cons hi, e, List.map_cons, Kd.kindsGo, List.take_succ_eq_append_getElem hi, e, List.map_append]
  rfl

set_option maxHeartbeats 1000000 in
theorem ref_kinds (v : Value) (ks : List KV) (w : World) (h : Kl w v ks) (hb : ∀ k ∈ ks, k.b.size ≤ 9223372036854775807) :
    Calls Tryz.prog 24 #[v] w fun e w' => e = .returned (.int .i64 (Kd.kindsFault (ks.map KV.k))) ∧ Below w.heap.size w w' := by
  have K0 : Hid (Kl w v ks) := h
  have Hb : Hid (∀ k ∈ ks, k.b.size ≤ 9223372036854775807) := hb
  obtain ⟨R, hR⟩ : ∃ R, Kd.kindsFault (ks.map KV.k) = R := ⟨_, rfl⟩
  have HR : Hid (Kd.kindsFault (ks.map KV.k) = R) := hR
  rw [hR]
  clear hR hb
  obtain ⟨a, c, rfl, c1, c2, -⟩ := h
  by_cases h8 : 8 < ks.length
  · have E : Hid (R = 4) := by unfold Hid; rw [← HR.out]; unfold Kd.kindsFault; rw [if_pos (by simpa using h8)]
    have h8' : (8 : Int) < (ks.length : Int) := by omega
    go_enter Tryz.func24, Tryz.ntmps24
    go_wp2
    go_ret
    exact ⟨by rw [E.out]; rfl, Below.refl _ _⟩
  · have h8' : ¬ (8 : Int) < (ks.length : Int) := by omega
    have R1 : Hid (Kd.kindsGo [] (ks.map KV.k) = R) := by unfold Hid; rw [← HR.out]; unfold Kd.kindsFault; rw [if_neg (by simpa using h8)]
    go_enter Tryz.func24, Tryz.ntmps24
    go_wp2_with fail
    go_loopw [3] (fun j W' => ∃ q : Nat, q ≤ ks.length ∧ j = .int .i64 (q : Nat) ∧ Kd.kindsGo ((ks.take q).map KV.k) ((ks.drop q).map KV.k) = R ∧ Below w.heap.size w W') (fun j _ => ks.length - (intOf j).toNat)
    case atStart => exact ⟨0, Nat.zero_le _, rfl, R1, Below.refl _ _⟩
    case round =>
      obtain ⟨q, hq, rfl, hg, hb⟩ := hrel
      have Gq : Hid (Kd.kindsGo ((ks.take q).map KV.k) ((ks.drop q).map KV.k) = R) := hg
      have B : Hid (Below w.heap.size w wr) := hb
      clear hg hb
      by_cases hql : q = ks.length
      · have E : Hid (R = 0) := by
          unfold Hid
          rw [← Gq.out, hql, List.drop_of_length_le (Nat.le_refl _)]
          rfl
        subst hql
        go_wp2
        go_ret
        exact ⟨by rw [E.out]; rfl, B⟩
      · have hqk : q < ks.length := by omega
        obtain ⟨k, hk⟩ : ∃ k, ks[q]? = some k := ⟨_, List.getElem?_eq_getElem hqk⟩
        have At : Hid (R = if Kd.kindFault ((ks.take q).map KV.k) k.k = 0 then Kd.kindsGo ((ks.take (q + 1)).map KV.k) ((ks.drop (q + 1)).map KV.k) else Kd.kindFault ((ks.take q).map KV.k) k.k) := by
          unfold Hid
          rw [← kindsGo_at hk]
          exact Gq.out.symm
        have CK := ref_kind (.slice a ks.length c) ks q k wr (K0.out.below B.out) hk (by omega) (Hb.out k (List.mem_of_getElem? hk))
        generalize Kd.kindFault ((ks.take q).map KV.k) k.k = F at *
        have CK' : Hid (Calls Tryz.prog 53 #[.slice a ks.length c, .int .i64 (q : Nat)] wr fun e w' => e = .returned (.int .i64 F) ∧ Below wr.heap.size wr w') := CK
        clear CK hk
        go_wp2_with fail
        refine Calls.mono CK'.out ?_
        rintro e w2 ⟨rfl, k2⟩
        have B2 : Hid (Below w.heap.size w w2) := B.out.trans (k2.mono B.out.size)
        clear k2 CK'
        by_cases hF : F = 0
        · have G2 : Hid (Kd.kindsGo ((ks.take (q + 1)).map KV.k) ((ks.drop (q + 1)).map KV.k) = R) := by
            unfold Hid
            have := At.out
            rw [if_pos hF] at this
            exact this.symm
          subst hF
          clear At
          go_wp2
          go_round
          case rel => exact ⟨q + 1, by omega, by go_num, G2, B2⟩
          case measure => simp [intOf]; omega
        · have E : Hid (R = F) := by
            unfold Hid
            have := At.out
            rw [if_neg hF] at this
            exact this
          clear At
          go_wp2
          go_ret
          exact ⟨by rw [E.out]; rfl, B2⟩
end Go.Proofs.YtagnjmellcibhaaGreatDoor

namespace Go.Proofs.YtagnjmellcibhaaGreatDoor
open Go.RowKit
set_option linter.unusedVariables false

theorem ret_int {k : IntKind} {a b : Int} (h : a = b) : Ending.returned (.int k a) = .returned (.int k b) := by rw [h]

set_option maxHeartbeats 1000000 in
theorem ref_cells (a b : Option Addr) (c d : Nat) (W H : Int) (gs os : List Int) (w : World) (w1 : 1 ≤ W) (w2 : W ≤ 12) (h1 : 1 ≤ H) (h2 : H ≤ 12) (hg : (gs.length : Int) = W * H) (ho : (os.length : Int) = W * H)
    (c1 : gs.length ≤ c) (c2 : c ≤ 9223372036854775807) (d1 : os.length ≤ d) (d2 : d ≤ 9223372036854775807) (ha : Cells w a gs) (hb : Cells w b os) :
    Calls Tryz.prog 25 #[.agg #[.int .i64 W, .int .i64 H, .slice a gs.length c, .slice b os.length d]] w fun e w' => e = .returned (.int .i64 (Fd.cellsFault gs os)) ∧ Below w.heap.size w w' := by
  have Ha : Hid (Cells w a gs) := ha
  have Hb : Hid (Cells w b os) := hb
  have hn : W * H ≤ 144 := by
    have := Int.mul_le_mul w2 h2 (by omega) (by omega)
    omega
  have Ho : Hid (os.length = gs.length) := by unfold Hid; omega
  have e1 : W * H = (gs.length : Int) := by omega
  have e2 : os.length = gs.length := Ho.out
  have hnn : gs.length ≤ 144 := by omega
  clear ha hb
  rw [e2] at d1 ⊢
  clear hg ho e2
  generalize hw0 : w.alloc (Obj.cells #[.int .i64 W, .int .i64 H, .slice a gs.length c, .slice b gs.length d] 25) = w0
  have B0 : Hid (Below w.heap.size w w0) := by rw [← hw0]; exact (Below.refl _ _).alloc (Nat.le_refl _) _
  have f0 : w0.cell? ⟨w.heap.size, 2, none⟩ = some (.slice a gs.length c) := by rw [← hw0]; simp
  have f1 : w0.cell? ⟨w.heap.size, 3, none⟩ = some (.slice b gs.length d) := by rw [← hw0]; simp
  have Hw : Hid (w.alloc (Obj.cells #[.int .i64 W, .int .i64 H, .slice a gs.length c, .slice b gs.length d] 25) = w0) := hw0
  clear hw0
  have Ca : Hid (Cells w0 a gs) := Ha.out.below B0.out
  have Cb : Hid (Cells w0 b os) := Hb.out.below B0.out
  clear Ha Hb
  go_enter Tryz.func25, Tryz.ntmps25
  go_wp2_with fail
  rw [Hw.out]
  go_loop [3] (fun i => ∃ (k : Nat), k ≤ gs.length ∧ i = .int .i64 (k : Nat) ∧ Fd.cellsFault (gs.drop k) (os.drop k) = Fd.cellsFault gs os) (fun i => gs.length - (intOf i).toNat)
  case atStart => exact ⟨0, Nat.zero_le _, rfl, by simp⟩
  case round =>
    obtain ⟨k, hk, rfl, hf⟩ := hrel
    have Hf : Hid (Fd.cellsFault (gs.drop k) (os.drop k) = Fd.cellsFault gs os) := hf
    clear hf
    by_cases h0 : k = gs.length
    · subst h0
      go_wp2
      go_ret
      refine ⟨?_, B0.out⟩
      rw [← Hf.out, List.drop_of_length_le (Nat.le_refl _)]
      rfl
    · have hkx : k < gs.length := by omega
      have hky : k < os.length := by rw [Ho.out]; exact hkx
      obtain ⟨x, rfl, -, hx⟩ := Ca.out (by intro h; rw [h] at hkx; simp at hkx)
      obtain ⟨y, rfl, -, hy⟩ := Cb.out (by intro h; rw [h] at hky; simp at hky)
      have cx := hx k gs[k] (List.getElem?_eq_getElem hkx)
      have cy := hy k os[k] (List.getElem?_eq_getElem hky)
      have Te := Fd.cellsFault_drop gs os k gs[k] os[k] (List.getElem?_eq_getElem hkx) (List.getElem?_eq_getElem hky)
      rw [Hf.out] at Te
      have HT : Hid _ := Te
      generalize gs[k] = p at *
      generalize os[k] = r at *
      clear hx hy Te
      have Bad : Hid ((p < 0 ∨ 3 < p ∨ r < 0 ∨ 1000000 < r) → Fd.cellsFault gs os = 1) := fun h => by
        have e : Fd.cellFault p r = 1 := by unfold Fd.cellFault; rw [if_pos h]
        have := HT.out
        rw [e] at this
        exact this
      by_cases q1 : p < 0
      · go_wp2
        go_ret
        exact ⟨ret_int (Bad.out (.inl q1)).symm, B0.out⟩
      · by_cases q2 : 3 < p
        · go_wp2
          go_ret
          exact ⟨ret_int (Bad.out (.inr (.inl q2))).symm, B0.out⟩
        · by_cases q3 : r < 0
          · go_wp2
            go_ret
            exact ⟨ret_int (Bad.out (.inr (.inr (.inl q3)))).symm, B0.out⟩
          · by_cases q4 : 1000000 < r
            · go_wp2
              go_ret
              exact ⟨ret_int (Bad.out (.inr (.inr (.inr q4)))).symm, B0.out⟩
            · have HT2 : Hid (Fd.cellsFault gs os = if 0 < r ∧ p ≠ 0 then 7 else Fd.cellsFault (gs.drop (k + 1)) (os.drop (k + 1))) := by
                unfold Hid
                have e : Fd.cellFault p r = if 0 < r ∧ p ≠ 0 then 7 else 0 := by unfold Fd.cellFault; rw [if_neg (by omega)]
                rw [HT.out, e]
                by_cases q : 0 < r ∧ p ≠ 0
                · rw [if_pos q, if_pos q, if_neg (show ¬ (7 : Int) = 0 by decide)]
                · rw [if_neg q, if_neg q, if_pos rfl]
              clear HT Bad
              by_cases q5 : 0 < r
              · by_cases q6 : p = 0
                · subst q6
                  go_wp2
                  go_round
                  case rel => exact ⟨k + 1, by omega, by go_num, by rw [HT2.out, if_neg (by simp)]⟩
                  case measure => simp [intOf]; omega
                · go_wp2
                  go_ret
                  exact ⟨ret_int (by rw [HT2.out, if_pos ⟨q5, q6⟩]), B0.out⟩
              · go_wp2
                go_round
                case rel => exact ⟨k + 1, by omega, by go_num, by rw [HT2.out, if_neg (by omega)]⟩
                case measure => simp [intOf]; omega

set_option maxHeartbeats 1000000 in
theorem ref_range (u1 u2 : Value) (W H : Int) (w : World) (h : W < 1 ∨ 12 < W ∨ H < 1 ∨ 12 < H) :
    Calls Tryz.prog 25 #[.agg #[.int .i64 W, .int .i64 H, u1, u2]] w fun e w' => e = .returned (.int .i64 1) ∧ Below w.heap.size w w' := by
  have B : Hid (∀ o, Below w.heap.size w (w.alloc o)) := fun o => (Below.refl _ _).alloc (Nat.le_refl _) _
  by_cases q1 : W < 1
  · go_enter Tryz.func25, Tryz.ntmps25
    go_wp2
    go_ret
    exact ⟨rfl, B.out _⟩
  · by_cases q2 : 12 < W
    · go_enter Tryz.func25, Tryz.ntmps25
      go_wp2
      go_ret
      exact ⟨rfl, B.out _⟩
    · by_cases q3 : H < 1
      · go_enter Tryz.func25, Tryz.ntmps25
        go_wp2
        go_ret
        exact ⟨rfl, B.out _⟩
      · have q4 : 12 < H := by omega
        clear h
        go_enter Tryz.func25, Tryz.ntmps25
        go_wp2
        go_ret
        exact ⟨rfl, B.out _⟩

set_option maxHeartbeats 1000000 in
theorem ref_shape (a b : Option Addr) (n m c d : Nat) (W H : Int) (w : World) (w1 : 1 ≤ W) (w2 : W ≤ 12) (h1 : 1 ≤ H) (h2 : H ≤ 12) (h : (n : Int) ≠ W * H ∨ (m : Int) ≠ W * H) :
    Calls Tryz.prog 25 #[.agg #[.int .i64 W, .int .i64 H, .slice a n c, .slice b m d]] w fun e w' => e = .returned (.int .i64 3) ∧ Below w.heap.size w w' := by
  have hn : W * H ≤ 144 := by
    have := Int.mul_le_mul w2 h2 (by omega) (by omega)
    omega
  have hp : 0 ≤ W * H := Int.mul_nonneg (by omega) (by omega)
  by_cases e : (n : Int) = W * H
  · have e2 : ¬ (m : Int) = W * H := by omega
    have e' : W * H = (n : Int) := e.symm
    rw [e'] at e2
    clear h e
    go_enter Tryz.func25, Tryz.ntmps25
    go_wp2
    go_ret
    exact ⟨rfl, (Below.refl _ _).alloc (Nat.le_refl _) _⟩
  · clear h
    go_enter Tryz.func25, Tryz.ntmps25
    go_wp2
    go_ret
    exact ⟨rfl, (Below.refl _ _).alloc (Nat.le_refl _) _⟩

/-- what the reference says of a field. -/
theorem ref_field (v : Value) (W H : Int) (gs os : List Int) (w : World) (h : Fl w v W H gs os) :
    Calls Tryz.prog 25 #[v] w fun e w' => e = .returned (.int .i64 (Fd.fault W H gs os)) ∧ Below w.heap.size w w' := by
  obtain ⟨u1, u2, rfl, ⟨a, c, rfl, c1, c2, ca⟩, ⟨b, d, rfl, d1, d2, cb⟩⟩ := h
  unfold Fd.fault
  by_cases h1 : W < 1 ∨ 12 < W ∨ H < 1 ∨ 12 < H
  · rw [if_pos h1]
    exact ref_range _ _ W H w h1
  · rw [if_neg h1]
    by_cases h2 : (gs.length : Int) ≠ W * H ∨ (os.length : Int) ≠ W * H
    · rw [if_pos h2]
      exact ref_shape _ _ _ _ _ _ W H w (by omega) (by omega) (by omega) (by omega) h2
    · rw [if_neg h2]
      exact ref_cells a b c d W H gs os w (by omega) (by omega) (by omega) (by omega) (by omega) (by omega) c1 c2 d1 d2 ca cb
end Go.Proofs.YtagnjmellcibhaaGreatDoor

namespace Go.Proofs.YtagnjmellcibhaaGreatDoor
open Go.RowKit
set_option linter.unusedVariables false

theorem nb_turn {W : WV} (h : decide (0 ≤ W.turn ∧ W.turn ≤ 1000000) = false) : Wd.numsBad W = true := by unfold Wd.numsBad Wd.off; rw [h]; rfl
theorem nb_next {W : WV} (h : decide (0 ≤ W.next ∧ W.next ≤ 1000000) = false) : Wd.numsBad W = true := by
  have h1 : decide (1 ≤ W.next ∧ W.next ≤ 1000000) = false := decide_eq_false fun ⟨a, b⟩ => of_decide_eq_false h ⟨by omega, b⟩
  unfold Wd.numsBad Wd.off; rw [h1]; simp
theorem nb_zero {W : WV} (h : W.next = 0) : Wd.numsBad W = true := by
  have h1 : decide (1 ≤ W.next ∧ W.next ≤ 1000000) = false := decide_eq_false fun ⟨a, b⟩ => by omega
  unfold Wd.numsBad Wd.off; rw [h1]; simp
theorem nb_len {W : WV} (h : ¬ (1 ≤ (W.gold.length : Int) ∧ (W.gold.length : Int) ≤ 4)) : Wd.numsBad W = true := by
  unfold Wd.numsBad; rw [decide_eq_false h]; simp
theorem nb_gold {W : WV} {i : Nat} {g : Int} (hg : W.gold[i]? = some g) (h : decide (0 ≤ g ∧ g ≤ 1000000) = false) : Wd.numsBad W = true := by
  have : W.gold.any (Wd.off 0) = true := List.any_eq_true.2 ⟨g, List.mem_of_getElem? hg, by unfold Wd.off; rw [h]; rfl⟩
  unfold Wd.numsBad; rw [this]; simp
theorem nb_no {W : WV} (h1 : decide (0 ≤ W.turn ∧ W.turn ≤ 1000000) = true) (h2 : decide (0 ≤ W.next ∧ W.next ≤ 1000000) = true) (h3 : W.next ≠ 0) (h4 : 1 ≤ (W.gold.length : Int) ∧ (W.gold.length : Int) ≤ 4) (h5 : W.gold.any (Wd.off 0) = false) : Wd.numsBad W = false := by
  have := of_decide_eq_true h2
  have h6 : decide (1 ≤ W.next ∧ W.next ≤ 1000000) = true := decide_eq_true ⟨by omega, by omega⟩
  unfold Wd.numsBad; rw [h5]; unfold Wd.off; rw [h1, h6, decide_eq_true h4]; rfl
theorem wf_nums {ks : List KV} {W : WV} (h0 : Wd.ground ks W = 0) (h : Wd.numsBad W = true) : Wd.wfault ks W = 1 := by unfold Wd.wfault; rw [if_neg (by rw [h0]; simp), h]; rfl
theorem gr_kinds {ks : List KV} {W : WV} (h : Kd.kindsFault (ks.map KV.k) ≠ 0) : Wd.wfault ks W = Kd.kindsFault (ks.map KV.k) := by
  have : Wd.ground ks W = Kd.kindsFault (ks.map KV.k) := by unfold Wd.ground; rw [if_neg h]
  unfold Wd.wfault; rw [if_pos (by rw [this]; exact h), this]
theorem gr_field {ks : List KV} {W : WV} (h0 : Kd.kindsFault (ks.map KV.k) = 0) (h : Fd.fault W.wide W.high W.gs W.os ≠ 0) : Wd.wfault ks W = Fd.fault W.wide W.high W.gs W.os := by
  have : Wd.ground ks W = Fd.fault W.wide W.high W.gs W.os := by unfold Wd.ground; rw [if_pos h0]
  unfold Wd.wfault; rw [if_pos (by rw [this]; exact h), this]
theorem gany_next {l : List Int} {p : Int → Bool} {i : Nat} {g : Int} (hg : l[i]? = some g) (h : (l.take i).any p = false) (hp : p g = false) : (l.take (i + 1)).any p = false := by
  rw [List.take_add_one, hg, List.any_append, h]; simp [hp]
theorem rck_drewN {B : Nat} {a w : World} (h : Below B a w) (n : Nat) : Below B a (w.drewN n) := h.trans ⟨rfl, rfl, rfl, Nat.le_refl _, fun _ _ => rfl⟩
theorem on_fst {us : List UnV} {i : Nat} {u : UnV} {r a : Int} (hu : us[i]? = some u) (ha : u.at_ = a) (h : FstU (fun x => x.at_ == a) us r) : (∃ n : Nat, r = n ∧ n < i ∧ (us.take i).any (fun x => x.at_ == a) = true) ∨ (r = (i : Nat) ∧ (us.take i).any (fun x => x.at_ == a) = false) := by
  have hp : (u.at_ == a) = true := by simpa using ha
  rcases h with ⟨_, h1⟩ | ⟨k, x, rfl, h1, h2, h3⟩
  · have : us.any (fun x => x.at_ == a) = true := List.any_eq_true.2 ⟨u, List.mem_of_getElem? hu, hp⟩
    rw [h1] at this; cases this
  · rcases Nat.lt_trichotomy k i with hl | hl | hl
    · exact .inl ⟨k, rfl, hl, List.any_eq_true.2 ⟨x, List.mem_of_getElem? (by rw [List.getElem?_take, if_pos hl]; exact h1), h2⟩⟩
    · subst hl
      exact .inr ⟨rfl, h3⟩
    · have : (us.take k).any (fun x => x.at_ == a) = true := List.any_eq_true.2 ⟨u, List.mem_of_getElem? (by rw [List.getElem?_take, if_pos hl]; exact hu), hp⟩
      rw [h3] at this; cases this
theorem open_of {gs : List Int} {ah : List UnV} {an : Nat} {g : Int} {fl : Bool} (hg : gs[an]? = some g) : Wd.open_ gs ah (an : Nat) fl = (decide (0 < Fd.onto g fl) && !ah.any (fun u => u.at_ == (an : Int))) := by
  unfold Wd.open_
  rw [Int.toNat_natCast, List.getD_eq_getElem?_getD, hg]
  rfl
theorem onto_nonneg (g : Int) (f : Bool) : 0 ≤ Fd.onto g f := by
  unfold Fd.onto
  split
  · exact Int.le_refl _
  · split
    · split <;> decide
    · split
      · split <;> decide
      · decide

set_option maxRecDepth 100000 in
set_option maxHeartbeats 16000000 in
theorem rcheck_any (vk vw : Value) (ks : List KV) (W : WV) (w : World) (hk : Kl w vk ks) (hb : ∀ k ∈ ks, k.b.size ≤ 9223372036854775807) (hw : Wl w vw W) :
    Calls Tryz.prog 6 #[vk, vw] w fun e w' => ∃ r : Int, e = .returned (.int .i64 r) ∧ r = Wd.wfault ks W ∧ Below w.heap.size w w' := by
  have K : Hid (Kl w vk ks ∧ ∀ k ∈ ks, k.b.size ≤ 9223372036854775807) := ⟨hk, hb⟩
  have H : Hid (Wl w vw W) := hw
  obtain ⟨u1, u2, u3, u4, u5, rfl, r1, r2, r3, r4, r5⟩ := hw
  obtain ⟨p1, q1, rfl, -⟩ := r1
  obtain ⟨p2, q2, rfl, -⟩ := r2
  obtain ⟨p3, q3, rfl, k31, k32, k33⟩ := r3
  obtain ⟨p4, q4, rfl, k41, k42, k43⟩ := r4
  obtain ⟨p5, q5, rfl, k51, k52, k53⟩ := r5
  obtain ⟨pk, qk, rfl, kk1, kk2, kk3⟩ := hk
  have GC : Hid (W.gold ≠ [] → ∃ x, p3 = some x ∧ x.block < w.heap.size ∧ ∀ (i : Nat) v, W.gold[i]? = some v → w.cell? (x.add i) = some (.int .i64 v)) := k33
  have UC : Hid (W.us ≠ [] → ∃ x, p4 = some x ∧ x.block < w.heap.size ∧ ∀ (i : Nat) k, W.us[i]? = some k → Unc w (x.add (i * 8)) k) := k43
  have JC : Hid (W.qs ≠ [] → ∃ x, p5 = some x ∧ x.block < w.heap.size ∧ ∀ (i : Nat) k, W.qs[i]? = some k → Jbc w (x.add (i * 4)) k) := k53
  have KK : Hid (ks ≠ [] → ∃ x, pk = some x ∧ x.block < w.heap.size ∧ ∀ (i : Nat) k, ks[i]? = some k → Kc w (x.add (i * 11)) k) := kk3
  clear hb k53 k43 k33 kk3
  go_enter Tryz.func6, Tryz.ntmps6
  go_wp2_with fail
  have B0 : Hid (Below w.heap.size w (w.alloc (Obj.cells #[.int .i64 W.turn, .int .i64 W.next, .int .i64 W.wide, .int .i64 W.high, .slice p1 W.gs.length q1, .slice p2 W.os.length q2, .slice p3 W.gold.length q3, .slice p4 W.us.length q4, .slice p5 W.qs.length q5] 29))) := (Below.refl _ _).alloc (Nat.le_refl _) _
  have X0 : Hid (Bw (w.alloc (Obj.cells #[.int .i64 W.turn, .int .i64 W.next, .int .i64 W.wide, .int .i64 W.high, .slice p1 W.gs.length q1, .slice p2 W.os.length q2, .slice p3 W.gold.length q3, .slice p4 W.us.length q4, .slice p5 W.qs.length q5] 29)) w.heap.size W (.slice p1 W.gs.length q1) (.slice p2 W.os.length q2) (.slice p3 W.gold.length q3) (.slice p4 W.us.length q4) (.slice p5 W.qs.length q5)) := Bw.mk' W _ _ _ _ _ rfl
  generalize (w.alloc (Obj.cells #[.int .i64 W.turn, .int .i64 W.next, .int .i64 W.wide, .int .i64 W.high, .slice p1 W.gs.length q1, .slice p2 W.os.length q2, .slice p3 W.gold.length q3, .slice p4 W.us.length q4, .slice p5 W.qs.length q5] 29)) = w0 at *
  refine (ref_kinds _ ks w0 (K.out.1.below B0.out) K.out.2).mono ?_
  rintro e w1 ⟨rfl, hb1⟩
  have B1 : Hid (Below w.heap.size w w1) := B0.out.trans (hb1.mono B0.out.size)
  have X1 : Hid (Bw w1 w.heap.size W (.slice p1 W.gs.length q1) (.slice p2 W.os.length q2) (.slice p3 W.gold.length q3) (.slice p4 W.us.length q4) (.slice p5 W.qs.length q5)) := X0.out.below hb1 X0.out.lt
  clear hb1 X0 B0
  obtain ⟨f1, hf1⟩ : ∃ f, Kd.kindsFault (ks.map KV.k) = f := ⟨_, rfl⟩
  have F1 : Hid (Kd.kindsFault (ks.map KV.k) = f1) := hf1
  rw [hf1]
  clear hf1
  obtain ⟨x0, x1, x2, x3, x4, x5, x6, x7, x8⟩ := X1.out
  by_cases hz : f1 = 0
  · subst hz
    go_wp2_with fail
    refine (ref_field _ W.wide W.high W.gs W.os w1 ⟨_, _, rfl, (H.out.below B1.out).slices.1, (H.out.below B1.out).slices.2.1⟩).mono ?_
    rintro e w2 ⟨rfl, hb2⟩
    have B2 : Hid (Below w.heap.size w w2) := B1.out.trans (hb2.mono B1.out.size)
    have X2 : Hid (Bw w2 w.heap.size W (.slice p1 W.gs.length q1) (.slice p2 W.os.length q2) (.slice p3 W.gold.length q3) (.slice p4 W.us.length q4) (.slice p5 W.qs.length q5)) := X1.out.below hb2 X1.out.lt
    clear hb2 X1 B1 x0 x1 x2 x3 x4 x5 x6 x7 x8
    obtain ⟨f2, hf2⟩ : ∃ f, Fd.fault W.wide W.high W.gs W.os = f := ⟨_, rfl⟩
    have F2 : Hid (Fd.fault W.wide W.high W.gs W.os = f2) := hf2
    rw [hf2]
    clear hf2
    obtain ⟨x0, x1, x2, x3, x4, x5, x6, x7, x8⟩ := X2.out
    by_cases hz : f2 = 0
    · subst hz
      have HZ : Hid (Wd.ground ks W = 0) := by unfold Hid Wd.ground; rw [if_pos F1.out, F2.out]
      obtain ⟨t1, ht1⟩ : ∃ b, decide (0 ≤ W.turn ∧ W.turn ≤ 1000000) = b := ⟨_, rfl⟩
      have T1 : Hid (decide (0 ≤ W.turn ∧ W.turn ≤ 1000000) = t1) := ht1
      obtain ⟨t2, ht2⟩ : ∃ b, decide (0 ≤ W.next ∧ W.next ≤ 1000000) = b := ⟨_, rfl⟩
      have T2 : Hid (decide (0 ≤ W.next ∧ W.next ≤ 1000000) = t2) := ht2
      clear ht1 ht2
      go_wp2_with fail
      refine (rnumber_q W.turn t1 w2 T1).mono ?_
      rintro e w3 ⟨rfl, hww⟩
      obtain rfl := hww.symm
      go_wp2_with fail
      refine (rnumber_q W.next t2 w2 T2).mono ?_
      rintro e w3 ⟨rfl, hww⟩
      obtain rfl := hww.symm
      cases t1 with
      | false =>
        have FF : Hid (Wd.wfault ks W = 1) := wf_nums HZ.out (nb_turn T1.out)
        go_wp2
        go_ret
        exact ⟨_, rfl, FF.out.symm, B2.out⟩
      | true =>
        cases t2 with
        | false =>
          have FF : Hid (Wd.wfault ks W = 1) := wf_nums HZ.out (nb_next T2.out)
          go_wp2
          go_ret
          exact ⟨_, rfl, FF.out.symm, B2.out⟩
        | true =>
          by_cases hn0 : W.next = 0
          · have FF : Hid (Wd.wfault ks W = 1) := wf_nums HZ.out (nb_zero hn0)
            rw [hn0] at x1
            clear hn0
            go_wp2
            go_ret
            exact ⟨_, rfl, FF.out.symm, B2.out⟩
          · have N0 : Hid (W.next ≠ 0) := hn0
            have hnb : (W.next == 0) = false := by simpa using hn0
            clear hn0
            by_cases hg1 : (W.gold.length : Int) < 1
            · have FF : Hid (Wd.wfault ks W = 1) := wf_nums HZ.out (nb_len (by omega))
              go_wp2
              go_ret
              exact ⟨_, rfl, FF.out.symm, B2.out⟩
            · by_cases hg4 : (4 : Int) < (W.gold.length : Int)
              · have FF : Hid (Wd.wfault ks W = 1) := wf_nums HZ.out (nb_len (by omega))
                go_wp2
                go_ret
                exact ⟨_, rfl, FF.out.symm, B2.out⟩
              · have GL : Hid (1 ≤ (W.gold.length : Int) ∧ (W.gold.length : Int) ≤ 4) := ⟨by omega, by omega⟩
                go_wp2
                clear x0 x1 x2 x3 x4 x5 x6 x7 x8 hg1 hg4 hnb
                go_loopw [8] (fun iv V => ∃ i : Nat, i ≤ W.gold.length ∧ iv = .int .i64 (i : Nat) ∧ (W.gold.take i).any (Wd.off 0) = false ∧ V = w2) (fun iv _ => W.gold.length - (intOf iv).toNat)
                case atStart => exact ⟨0, Nat.zero_le _, rfl, rfl, rfl⟩
                case round =>
                  obtain ⟨i, hi, rfl, han, hVV⟩ := hrel
                  obtain rfl := hVV.symm
                  have AN : Hid ((W.gold.take i).any (Wd.off 0) = false) := han
                  have x6 := X2.out.c6
                  clear han
                  by_cases hil : i = W.gold.length
                  · have HN : Hid (Wd.numsBad W = false) := nb_no T1.out T2.out N0.out GL.out (by have := AN.out; rwa [hil, List.take_length] at this)
                    subst hil
                    clear hi
                    have x7 := X2.out.c7
                    by_cases h40 : 40 < W.us.length
                    · have F4 : Hid (Wd.wfault ks W = 4) := by unfold Hid Wd.wfault; rw [if_neg (by rw [HZ.out]; simp), HN.out, if_neg (by simp), if_pos h40]
                      have h40i : (40 : Int) < (W.us.length : Int) := by omega
                      go_wp2
                      go_ret
                      exact ⟨_, rfl, F4.out.symm, B2.out⟩
                    · have h40i : ¬ (40 : Int) < (W.us.length : Int) := by omega
                      have KL : Hid (ks.length ≤ 8) := kinds_len F1.out
                      obtain ⟨Wn, Hn, hWn, hHn, hG⟩ := Fd.fault_zero F2.out
                      have GG : Hid (W.wide = Wn ∧ W.high = Hn ∧ Fd.Good Wn Hn W.gs W.os) := ⟨hWn, hHn, hG⟩
                      have US : Hid (W.us.length ≤ 40) := by unfold Hid; omega
                      have WF : Hid (Wd.unitsGo ks W 0 W.us ≠ 0 → Wd.wfault ks W = Wd.unitsGo ks W 0 W.us) := fun hne => by unfold Wd.wfault; rw [if_neg (by rw [HZ.out]; simp), HN.out, if_neg (by simp), if_neg h40, if_pos hne]
                      have WG : Hid (Wd.unitsGo ks W 0 W.us = 0 → Wd.wfault ks W = if 12 < W.qs.length then 4 else Wd.jobsGo ks W W.qs) := fun h0 => by unfold Wd.wfault; rw [if_neg (by rw [HZ.out]; simp), HN.out, if_neg (by simp), if_neg h40, if_neg (by rw [h0]; simp)]
                      have x4 := X2.out.c4
                      clear hWn hHn hG h40
                      go_wp2
                      clear x7 x6 x4
                      go_loopw [11] (fun iv V => ∃ i : Nat, i ≤ W.us.length ∧ iv = .int .i64 (i : Nat) ∧ Wd.unitsGo ks W i (W.us.drop i) = Wd.unitsGo ks W 0 W.us ∧ Bw V w.heap.size W (.slice p1 W.gs.length q1) (.slice p2 W.os.length q2) (.slice p3 W.gold.length q3) (.slice p4 W.us.length q4) (.slice p5 W.qs.length q5) ∧ Below w.heap.size w V) (fun iv _ => W.us.length - (intOf iv).toNat)
                      case atStart => exact ⟨0, Nat.zero_le _, rfl, rfl, X2.out, B2.out⟩
                      case round =>
                        obtain ⟨i, hi, rfl, hgo, hX, hB⟩ := hrel
                        have XR : Hid (Bw wr w.heap.size W (.slice p1 W.gs.length q1) (.slice p2 W.os.length q2) (.slice p3 W.gold.length q3) (.slice p4 W.us.length q4) (.slice p5 W.qs.length q5)) := hX
                        have BR : Hid (Below w.heap.size w wr) := hB
                        have GO : Hid (Wd.unitsGo ks W i (W.us.drop i) = Wd.unitsGo ks W 0 W.us) := hgo
                        clear hX hB hgo X2 B2
                        by_cases hil : i = W.us.length
                        · as_aux_lemma =>
                          have U0 : Hid (Wd.unitsGo ks W 0 W.us = 0) := by unfold Hid; rw [← GO.out, hil, List.drop_length]; rfl
                          have x8 := XR.out.c8
                          have x7 := XR.out.c7
                          subst hil
                          clear hi
                          by_cases h12 : 12 < W.qs.length
                          · have F4 : Hid (Wd.wfault ks W = 4) := by unfold Hid; rw [WG.out U0.out, if_pos h12]
                            have h12i : (12 : Int) < (W.qs.length : Int) := by omega
                            go_wp2
                            go_ret
                            exact ⟨_, rfl, F4.out.symm, BR.out⟩
                          · have h12i : ¬ (12 : Int) < (W.qs.length : Int) := by omega
                            have FJ : Hid (Wd.wfault ks W = Wd.jobsGo ks W W.qs) := by unfold Hid; rw [WG.out U0.out, if_neg h12]
                            have ALL : Hid (∀ u ∈ W.us, 0 ≤ u.kind ∧ u.kind < (ks.length : Int)) := fun u hu => by
                              obtain ⟨j, hj⟩ := units_all W.us 0 U0.out u hu
                              exact fault_kind hj
                            go_wp2
                            clear x8 x7
                            go_loopw [15] (fun iv V => ∃ i : Nat, i ≤ W.qs.length ∧ iv = .int .i64 (i : Nat) ∧ Wd.jobsGo ks W (W.qs.drop i) = Wd.jobsGo ks W W.qs ∧ Bw V w.heap.size W (.slice p1 W.gs.length q1) (.slice p2 W.os.length q2) (.slice p3 W.gold.length q3) (.slice p4 W.us.length q4) (.slice p5 W.qs.length q5) ∧ Below w.heap.size w V) (fun iv _ => W.qs.length - (intOf iv).toNat)
                            case atStart => exact ⟨0, Nat.zero_le _, rfl, rfl, XR.out, BR.out⟩
                            case round =>
                              obtain ⟨i, hi, rfl, hgo, hX, hB⟩ := hrel
                              have XR : Hid (Bw wr w.heap.size W (.slice p1 W.gs.length q1) (.slice p2 W.os.length q2) (.slice p3 W.gold.length q3) (.slice p4 W.us.length q4) (.slice p5 W.qs.length q5)) := hX
                              have BR : Hid (Below w.heap.size w wr) := hB
                              have GO : Hid (Wd.jobsGo ks W (W.qs.drop i) = Wd.jobsGo ks W W.qs) := hgo
                              clear hX hB hgo
                              by_cases hil : i = W.qs.length
                              · have J0 : Hid (Wd.wfault ks W = 0) := by unfold Hid; rw [FJ.out, ← GO.out, hil, List.drop_length]; rfl
                                have x8 := XR.out.c8
                                subst hil
                                clear hi
                                go_wp2
                                go_ret
                                exact ⟨_, rfl, J0.out.symm, BR.out⟩
                              · as_aux_lemma =>
                                have hlt : i < W.qs.length := by omega
                                have hli : (i : Int) < (W.qs.length : Int) := by omega
                                obtain ⟨j, hj⟩ : ∃ j, W.qs[i]? = some j := ⟨_, List.getElem?_eq_getElem hlt⟩
                                obtain ⟨x, rfl, hx, hcell⟩ := JC.out (by intro e; rw [e] at hlt; simp at hlt)
                                obtain ⟨d0, d1, d2, d3⟩ := (hcell i j hj).below BR.out (by rw [add_block]; exact hx)
                                have GA : Hid (Wd.jobsGo ks W W.qs = if Wd.jobFault ks W j = 0 then Wd.jobsGo ks W (W.qs.drop (i + 1)) else Wd.jobFault ks W j) := by unfold Hid; rw [← GO.out, Wd.jobsGo_at hj]
                                have BAD : Hid (∀ n : Int, n ≠ 0 → Wd.jobFault ks W j = n → Wd.wfault ks W = n) := fun n hn h => by rw [FJ.out, GA.out, if_neg (by rw [h]; exact hn), h]
                                have x8 := XR.out.c8
                                clear hcell hx hj hil
                                go_upto_region 43 with fail
                                have BA : Hid (Below wr.heap.size wr (wr.alloc (Obj.cells #[.int .i64 j.player, .int .i64 j.unit, .int .i64 j.kind, .int .i64 j.left] 65))) := (Below.refl _ _).alloc (Nat.le_refl _) _
                                have J1 : Hid (Jbc (wr.alloc (Obj.cells #[.int .i64 j.player, .int .i64 j.unit, .int .i64 j.kind, .int .i64 j.left] 65)) ⟨wr.heap.size, 0, none⟩ j) := Jbc.mk' j rfl
                                generalize (wr.alloc (Obj.cells #[.int .i64 j.player, .int .i64 j.unit, .int .i64 j.kind, .int .i64 j.left] 65)) = w5 at *
                                have B5 : Hid (Below w.heap.size w w5) := BR.out.trans (BA.out.mono BR.out.size)
                                have X5 : Hid (Bw w5 w.heap.size W (.slice p1 W.gs.length q1) (.slice p2 W.os.length q2) (.slice p3 W.gold.length q3) (.slice p4 W.us.length q4) (.slice (some x) W.qs.length q5)) := XR.out.below BA.out XR.out.lt
                                clear d0 d1 d2 d3 x8 XR BR BA
                                obtain ⟨x0, x1, x2, x3, x4, x5, x6, x7, x8⟩ := X5.out
                                obtain ⟨j0, j1, j2, j3⟩ := J1.out
                                generalize wr.heap.size = zj at *
                                simp only [Nat.zero_add] at j1 j2 j3
                                go_wp2_with fail
                                refine (rfind_any _ W j.unit w5 (H.out.below B5.out)).mono ?_
                                rintro e w6 ⟨r, rfl, hf, hb6⟩
                                have B6 : Hid (Below w.heap.size w w6) := B5.out.trans (hb6.mono B5.out.size)
                                have X6 : Hid (Bw w6 w.heap.size W (.slice p1 W.gs.length q1) (.slice p2 W.os.length q2) (.slice p3 W.gold.length q3) (.slice p4 W.us.length q4) (.slice (some x) W.qs.length q5)) := X5.out.below hb6 X5.out.lt
                                have J6 : Hid (Jbc w6 ⟨zj, 0, none⟩ j) := J1.out.below hb6 J1.out.lt
                                clear hb6 x0 x1 x2 x3 x4 x5 x6 x7 x8 j0 j1 j2 j3 X5 B5 J1
                                obtain ⟨x0, x1, x2, x3, x4, x5, x6, x7, x8⟩ := X6.out
                                obtain ⟨j0, j1, j2, j3⟩ := J6.out
                                simp only [Nat.zero_add] at j1 j2 j3
                                rcases find_fst hf with ⟨rfl, hfn⟩ | ⟨n, u, rfl, hn, hfs⟩
                                · have F6 : Hid (Wd.wfault ks W = 6) := BAD.out 6 (by decide) (jf6 hfn)
                                  clear hf hfn
                                  go_wp2
                                  go_ret
                                  exact ⟨_, rfl, F6.out.symm, B6.out⟩
                                · have hnl : n < W.us.length := (List.getElem?_eq_some_iff.1 hn).1
                                  have hni : (n : Int) < (W.us.length : Int) := by omega
                                  have hn0 : ¬ (n : Int) < 0 := by omega
                                  have HF : Hid (W.us.find? (fun u => u.id == j.unit) = some u) := hfs
                                  obtain ⟨xu, rfl, hx, hcell⟩ := UC.out (by intro e; rw [e] at hnl; simp at hnl)
                                  obtain ⟨d0, d1, d2, d3, d4, d5, d6, d7⟩ := (hcell n u hn).below B6.out (by rw [add_block]; exact hx)
                                  have hku := ALL.out u (List.mem_of_getElem? hn)
                                  obtain ⟨kn, ek⟩ : ∃ kn : Nat, u.kind = kn := ⟨u.kind.toNat, by omega⟩
                                  have hkn : kn < ks.length := by omega
                                  have hkni : (kn : Int) < (ks.length : Int) := by omega
                                  obtain ⟨k, hkk⟩ : ∃ k, ks[kn]? = some k := ⟨_, List.getElem?_eq_getElem hkn⟩
                                  have HK : Hid (ks[u.kind.toNat]? = some k) := by unfold Hid; rw [ek, Int.toNat_natCast]; exact hkk
                                  obtain ⟨xk, rfl, hxk, hkc⟩ := KK.out (by intro e; rw [e] at hkn; simp at hkn)
                                  obtain ⟨l0, l1, l2, l3, l4, l5, l6, l7, l8, l9, l10⟩ := (hkc kn k hkk).below B6.out (by rw [add_block]; exact hxk)
                                  rw [ek] at d2
                                  clear hf hfs hcell hx hn hku hkc hxk hkk ek l0 l1 l2 l3 l4 l5 l6 l7 l8 l9
                                  by_cases hp : u.player = j.player
                                  · rw [hp] at d1
                                    cases ht : k.t with
                                    | false =>
                                      have F7 : Hid (Wd.wfault ks W = 7) := BAD.out 7 (by decide) (jf7 HF.out HK.out (.inr ht))
                                      rw [ht] at l10
                                      clear ht
                                      go_upto_region 46 with fail
                                      go_quiet (fail)
                                      go_wp2
                                      go_ret
                                      exact ⟨_, rfl, F7.out.symm, rck_drewN B6.out _⟩
                                    | true =>
                                      have HPT : Hid (u.player = j.player ∧ k.t = true) := ⟨hp, ht⟩
                                      rw [ht] at l10
                                      clear ht hp
                                      go_upto_region 46 with fail
                                      go_quiet (fail)
                                      have B7 : Hid (Below w.heap.size w (w6.drewN nq)) := rck_drewN B6.out nq
                                      have X7 : Hid (Bw (w6.drewN nq) w.heap.size W (.slice p1 W.gs.length q1) (.slice p2 W.os.length q2) (.slice p3 W.gold.length q3) (.slice (some xu) W.us.length q4) (.slice (some x) W.qs.length q5)) := X6.out.below (rck_drewN (Below.refl _ _) nq) X6.out.lt
                                      have J7 : Hid (Jbc (w6.drewN nq) ⟨zj, 0, none⟩ j) := J6.out.below (rck_drewN (Below.refl _ _) nq) J6.out.lt
                                      generalize w6.drewN nq = w7 at *
                                      clear x0 x1 x2 x3 x4 x5 x6 x7 x8 j0 j1 j2 j3 d0 d1 d2 d3 d4 d5 d6 d7 l10 X6 J6 B6
                                      obtain ⟨j0, j1, j2, j3⟩ := J7.out
                                      simp only [Nat.zero_add] at j1 j2 j3
                                      by_cases h1 : j.kind < 0
                                      · have F1 : Hid (Wd.wfault ks W = 1) := BAD.out 1 (by decide) (jf1 HF.out HK.out HPT.out.1 HPT.out.2 (.inl (decide_eq_false (by omega))))
                                        go_wp2
                                        go_ret
                                        exact ⟨_, rfl, F1.out.symm, B7.out⟩
                                      · by_cases h2 : (ks.length : Int) ≤ j.kind
                                        · have F1 : Hid (Wd.wfault ks W = 1) := BAD.out 1 (by decide) (jf1 HF.out HK.out HPT.out.1 HPT.out.2 (.inl (decide_eq_false (by omega))))
                                          go_wp2
                                          go_ret
                                          exact ⟨_, rfl, F1.out.symm, B7.out⟩
                                        · by_cases h3 : j.left < 1
                                          · have F1 : Hid (Wd.wfault ks W = 1) := BAD.out 1 (by decide) (jf1 HF.out HK.out HPT.out.1 HPT.out.2 (.inr (decide_eq_false (by omega))))
                                            go_wp2
                                            go_ret
                                            exact ⟨_, rfl, F1.out.symm, B7.out⟩
                                          · by_cases h4 : (1000 : Int) < j.left
                                            · have F1 : Hid (Wd.wfault ks W = 1) := BAD.out 1 (by decide) (jf1 HF.out HK.out HPT.out.1 HPT.out.2 (.inr (decide_eq_false (by omega))))
                                              go_wp2
                                              go_ret
                                              exact ⟨_, rfl, F1.out.symm, B7.out⟩
                                            · have G2 : Hid (Wd.jobsGo ks W (W.qs.drop (i + 1)) = Wd.jobsGo ks W W.qs) := by unfold Hid; rw [GA.out, if_pos (jf0 HF.out HK.out HPT.out.1 HPT.out.2 (decide_eq_true (by omega)) (decide_eq_true (by omega)))]
                                              go_wp2
                                              go_roundw
                                              case rel => exact ⟨i + 1, by omega, rfl, G2.out, X7.out, B7.out⟩
                                              case measure => simp [intOf]; omega
                                  · have F7 : Hid (Wd.wfault ks W = 7) := BAD.out 7 (by decide) (jf7 HF.out HK.out (.inl hp))
                                    have hpb : (u.player == j.player) = false := by simpa using hp
                                    have HP : Hid (¬ u.player = j.player) := hp
                                    clear hp
                                    go_upto_region 46 with fail
                                    have hpn : (u.player != j.player) = true := by simpa using HP.out
                                    go_quiet (fail)
                                    go_wp2
                                    go_ret
                                    exact ⟨_, rfl, F7.out.symm, rck_drewN B6.out _⟩
                        · as_aux_lemma =>
                          have hlt : i < W.us.length := by omega
                          have hli : (i : Int) < (W.us.length : Int) := by omega
                          obtain ⟨u, hu⟩ : ∃ u, W.us[i]? = some u := ⟨_, List.getElem?_eq_getElem hlt⟩
                          have HU : Hid (W.us[i]? = some u) := hu
                          have GA : Hid (Wd.unitsGo ks W 0 W.us = if Wd.unitFault ks W i u = 0 then Wd.unitsGo ks W (i + 1) (W.us.drop (i + 1)) else Wd.unitFault ks W i u) := by unfold Hid; rw [← GO.out, Wd.unitsGo_at hu]
                          have BAD : Hid (∀ n : Int, n ≠ 0 → Wd.unitFault ks W i u = n → Wd.wfault ks W = n) := fun n hn h => by
                            have EU : Wd.unitsGo ks W 0 W.us = n := by rw [GA.out, if_neg (by rw [h]; exact hn), h]
                            rw [WF.out (by rw [EU]; exact hn), EU]
                          obtain ⟨x, rfl, hx, hcell⟩ := UC.out (by intro e; rw [e] at hlt; simp at hlt)
                          have UX : Hid (x.block < w.heap.size ∧ ∀ (i : Nat) k, W.us[i]? = some k → Unc w (x.add (i * 8)) k) := ⟨hx, hcell⟩
                          obtain ⟨d0, d1, d2, d3, d4, d5, d6, d7⟩ := (hcell i u hu).below BR.out (by rw [add_block]; exact hx)
                          have x7 := XR.out.c7
                          clear hcell hx hu hil
                          go_upto_region 23 with fail
                          have BA : Hid (Below wr.heap.size wr (wr.alloc (Obj.cells #[.int .i64 u.id, .int .i64 u.player, .int .i64 u.kind, .int .i64 u.at_, .int .i64 u.life, .int .i64 u.load, .int .i64 u.task, .int .i64 u.goal] 59))) := (Below.refl _ _).alloc (Nat.le_refl _) _
                          have U5 : Hid (Unc (wr.alloc (Obj.cells #[.int .i64 u.id, .int .i64 u.player, .int .i64 u.kind, .int .i64 u.at_, .int .i64 u.life, .int .i64 u.load, .int .i64 u.task, .int .i64 u.goal] 59)) ⟨wr.heap.size, 0, none⟩ u) := Unc.mk' u rfl
                          generalize (wr.alloc (Obj.cells #[.int .i64 u.id, .int .i64 u.player, .int .i64 u.kind, .int .i64 u.at_, .int .i64 u.life, .int .i64 u.load, .int .i64 u.task, .int .i64 u.goal] 59)) = w5 at *
                          have B5 : Hid (Below w.heap.size w w5) := BR.out.trans (BA.out.mono BR.out.size)
                          have X5 : Hid (Bw w5 w.heap.size W (.slice p1 W.gs.length q1) (.slice p2 W.os.length q2) (.slice p3 W.gold.length q3) (.slice (some x) W.us.length q4) (.slice p5 W.qs.length q5)) := XR.out.below BA.out XR.out.lt
                          clear d0 d1 d2 d3 d4 d5 d6 d7 x7 XR BR BA
                          obtain ⟨x0, x1, x2, x3, x4, x5, x6, x7, x8⟩ := X5.out
                          obtain ⟨y0, y1, y2, y3, y4, y5, y6, y7⟩ := U5.out
                          generalize wr.heap.size = zu at *
                          simp only [Nat.zero_add] at y1 y2 y3 y4 y5 y6 y7
                          by_cases h1 : u.id < 1
                          · have FF : Hid (Wd.wfault ks W = 1) := BAD.out 1 (by decide) (uf1 (decide_eq_false (by omega)))
                            go_wp2
                            go_ret
                            exact ⟨_, rfl, FF.out.symm, B5.out⟩
                          · by_cases h2 : W.next ≤ u.id
                            · have FF : Hid (Wd.wfault ks W = 1) := BAD.out 1 (by decide) (uf1 (decide_eq_false (by omega)))
                              go_wp2
                              go_ret
                              exact ⟨_, rfl, FF.out.symm, B5.out⟩
                            · have HB1 : Hid (decide (1 ≤ u.id ∧ u.id ≤ W.next - 1) = true) := decide_eq_true (by omega)
                              obtain ⟨b2, hb2⟩ : ∃ b, Wd.notAbove W.us i u = b := ⟨_, rfl⟩
                              have HB2 : Hid (Wd.notAbove W.us i u = b2) := hb2
                              go_upto_region 25 with fail
                              go_cut [11, 115] from 80 to 230 (fun v11 v115 V => v11 = .int .i64 (i : Nat) ∧ v115 = .bool b2 ∧ Below w5.heap.size w5 V)
                              case first =>
                                rcases Nat.eq_zero_or_pos i with hi0 | hi0
                                · have g0 : ¬ (0 : Int) < (i : Int) := by omega
                                  have hbf : b2 = false := by rw [← hb2, hi0]; rfl
                                  subst hbf
                                  clear hb2
                                  have HI0 : Hid (i = 0) := hi0
                                  have hnp : ¬ 0 < i := by omega
                                  clear hi0
                                  go_quiet (fail)
                                  go_wp2
                                  go_meet
                                  case rel => exact ⟨by first | rfl | rw [HI0.out], rfl, rck_drewN (Below.refl _ _) _⟩
                                · obtain ⟨j, hj⟩ : ∃ j, i = j + 1 := ⟨i - 1, by omega⟩
                                  obtain ⟨v, hv⟩ : ∃ v, W.us[j]? = some v := ⟨_, List.getElem?_eq_getElem (by omega)⟩
                                  have e0 : (i : Int) - 1 = (j : Nat) := by omega
                                  have g0 : (0 : Int) < (i : Int) := by omega
                                  have wj : IntKind.i64.wrap ((j : Nat) : Int) = (j : Nat) := by rw [IntKind.wrap_i64]; omega
                                  have jl : (j : Int) < (W.us.length : Int) := by omega
                                  obtain ⟨d0, -, -, -, -, -, -, -⟩ := (UX.out.2 j v hv).below B5.out (by rw [add_block]; exact UX.out.1)
                                  have hb : decide (u.id ≤ v.id) = b2 := by rw [← hb2, hj]; unfold Wd.notAbove; simp only [hv]
                                  clear hj hb2 hv
                                  cases b2
                                  · have hgt : ¬ u.id ≤ v.id := of_decide_eq_false hb
                                    clear hb
                                    go_quiet (fail)
                                    go_wp2
                                    go_meet
                                    case rel => exact ⟨by first | rfl | rw [HI0.out], rfl, rck_drewN (Below.refl _ _) _⟩
                                  · have hle : u.id ≤ v.id := of_decide_eq_true hb
                                    clear hb
                                    go_quiet (fail)
                                    go_wp2
                                    go_meet
                                    case rel => exact ⟨by first | rfl | rw [HI0.out], rfl, rck_drewN (Below.refl _ _) _⟩
                              case rest =>
                                as_aux_lemma =>
                                obtain ⟨rfl, rfl, hbc⟩ := hcut
                                have BC : Hid (Below w.heap.size w wc) := B5.out.trans (hbc.mono B5.out.size)
                                have XC : Hid (Bw wc w.heap.size W (.slice p1 W.gs.length q1) (.slice p2 W.os.length q2) (.slice p3 W.gold.length q3) (.slice (some x) W.us.length q4) (.slice p5 W.qs.length q5)) := X5.out.below hbc X5.out.lt
                                have VC : Hid (Unc wc ⟨zu, 0, none⟩ u) := U5.out.below hbc U5.out.lt
                                clear hbc hb2 x0 x1 x2 x3 x4 x5 x6 x7 x8 y0 y1 y2 y3 y4 y5 y6 y7 X5 U5 B5 h1 h2
                                obtain ⟨x0, x1, x2, x3, x4, x5, x6, x7, x8⟩ := XC.out
                                obtain ⟨y0, y1, y2, y3, y4, y5, y6, y7⟩ := VC.out
                                simp only [Nat.zero_add] at y1 y2 y3 y4 y5 y6 y7
                                cases b2 with
                                | true =>
                                  have FF : Hid (Wd.wfault ks W = 5) := BAD.out 5 (by decide) (uf2 HB1.out HB2.out)
                                  go_wp2
                                  go_ret
                                  exact ⟨_, rfl, FF.out.symm, BC.out⟩
                                | false =>
                                  by_cases h3 : u.player < 0
                                  · have FF : Hid (Wd.wfault ks W = 1) := BAD.out 1 (by decide) (uf3 HB1.out HB2.out (decide_eq_false (by omega)))
                                    go_wp2
                                    go_ret
                                    exact ⟨_, rfl, FF.out.symm, BC.out⟩
                                  · by_cases h4 : (W.gold.length : Int) ≤ u.player
                                    · have FF : Hid (Wd.wfault ks W = 1) := BAD.out 1 (by decide) (uf3 HB1.out HB2.out (decide_eq_false (by omega)))
                                      go_wp2
                                      go_ret
                                      exact ⟨_, rfl, FF.out.symm, BC.out⟩
                                    · have HB3 : Hid (Wd.has W.gold.length u.player = true) := decide_eq_true (by omega)
                                      by_cases h5 : u.kind < 0
                                      · have FF : Hid (Wd.wfault ks W = 1) := BAD.out 1 (by decide) (uf4 HB1.out HB2.out HB3.out (decide_eq_false (by omega)))
                                        go_wp2
                                        go_ret
                                        exact ⟨_, rfl, FF.out.symm, BC.out⟩
                                      · by_cases h6 : (ks.length : Int) ≤ u.kind
                                        · have FF : Hid (Wd.wfault ks W = 1) := BAD.out 1 (by decide) (uf4 HB1.out HB2.out HB3.out (decide_eq_false (by omega)))
                                          go_wp2
                                          go_ret
                                          exact ⟨_, rfl, FF.out.symm, BC.out⟩
                                        · have HB4 : Hid (Wd.has ks.length u.kind = true) := decide_eq_true (by omega)
                                          obtain ⟨kn, ek⟩ : ∃ kn : Nat, u.kind = kn := ⟨u.kind.toNat, by omega⟩
                                          have hkn : kn < ks.length := by omega
                                          have hkni : (kn : Int) < (ks.length : Int) := by omega
                                          have hkn0 : ¬ (kn : Int) < 0 := by omega
                                          obtain ⟨k, hkk⟩ : ∃ k, ks[kn]? = some k := ⟨_, List.getElem?_eq_getElem hkn⟩
                                          have UF : Hid (Wd.unitFault ks W i u = Wd.kindPart W (W.us.take i) u k) := uf5 HB1.out HB2.out HB3.out HB4.out (by rw [ek, Int.toNat_natCast]; exact hkk)
                                          obtain ⟨xk, rfl, hxk, hkc⟩ := KK.out (by intro e; rw [e] at hkn; simp at hkn)
                                          have KC : Hid (Kc wc (xk.add (kn * 11)) k) := (hkc kn k hkk).below BC.out (by rw [add_block]; exact hxk)
                                          have EK : Hid (u.kind = kn) := ek
                                          rw [ek] at y2
                                          obtain ⟨l0, l1, l2, l3, l4, l5, l6, l7, l8, l9, l10⟩ := KC.out
                                          clear hkc hxk hkk h5 h6 ek
                                          go_upto_region 29 with fail
                                          by_cases a1 : u.life < 1
                                          · have FF : Hid (Wd.wfault ks W = 1) := BAD.out 1 (by decide) (by rw [UF.out, kp1 (.inl (by omega))])
                                            go_quiet (fail)
                                            go_wp2
                                            go_ret
                                            exact ⟨_, rfl, FF.out.symm, rck_drewN BC.out _⟩
                                          · skip
                                            by_cases a2 : k.n0 < u.life
                                            · have FF : Hid (Wd.wfault ks W = 1) := BAD.out 1 (by decide) (by rw [UF.out, kp1 (.inl (by omega))])
                                              go_quiet (fail)
                                              go_wp2
                                              go_ret
                                              exact ⟨_, rfl, FF.out.symm, rck_drewN BC.out _⟩
                                            · skip
                                              by_cases a3 : u.load < 0
                                              · have FF : Hid (Wd.wfault ks W = 1) := BAD.out 1 (by decide) (by rw [UF.out, kp1 (.inr (.inl (by omega)))])
                                                go_quiet (fail)
                                                go_wp2
                                                go_ret
                                                exact ⟨_, rfl, FF.out.symm, rck_drewN BC.out _⟩
                                              · skip
                                                by_cases a4 : k.n7 < u.load
                                                · have FF : Hid (Wd.wfault ks W = 1) := BAD.out 1 (by decide) (by rw [UF.out, kp1 (.inr (.inl (by omega)))])
                                                  go_quiet (fail)
                                                  go_wp2
                                                  go_ret
                                                  exact ⟨_, rfl, FF.out.symm, rck_drewN BC.out _⟩
                                                · skip
                                                  by_cases a5 : u.task < 0
                                                  · have FF : Hid (Wd.wfault ks W = 1) := BAD.out 1 (by decide) (by rw [UF.out, kp1 (.inr (.inr (by omega)))])
                                                    go_quiet (fail)
                                                    go_wp2
                                                    go_ret
                                                    exact ⟨_, rfl, FF.out.symm, rck_drewN BC.out _⟩
                                                  · skip
                                                    by_cases a6 : (2 : Int) < u.task
                                                    · have FF : Hid (Wd.wfault ks W = 1) := BAD.out 1 (by decide) (by rw [UF.out, kp1 (.inr (.inr (by omega)))])
                                                      go_quiet (fail)
                                                      go_wp2
                                                      go_ret
                                                      exact ⟨_, rfl, FF.out.symm, rck_drewN BC.out _⟩
                                                    · skip
                                                      as_aux_lemma =>
                                                      have L1 : 1 ≤ u.life ∧ u.life ≤ k.n0 := ⟨by omega, by omega⟩
                                                      have L2 : 0 ≤ u.load ∧ u.load ≤ k.n7 := ⟨by omega, by omega⟩
                                                      have L3 : 0 ≤ u.task ∧ u.task ≤ 2 := ⟨by omega, by omega⟩
                                                      have HL : Hid ((1 ≤ u.life ∧ u.life ≤ k.n0) ∧ (0 ≤ u.load ∧ u.load ≤ k.n7) ∧ (0 ≤ u.task ∧ u.task ≤ 2)) := ⟨L1, L2, L3⟩
                                                      clear L1 L2 L3
                                                      go_quiet (fail)
                                                      have B7 : Hid (Below w.heap.size w (wc.drewN nq)) := rck_drewN BC.out nq
                                                      have X7 : Hid (Bw (wc.drewN nq) w.heap.size W (.slice p1 W.gs.length q1) (.slice p2 W.os.length q2) (.slice p3 W.gold.length q3) (.slice (some x) W.us.length q4) (.slice p5 W.qs.length q5)) := XC.out.below (rck_drewN (Below.refl _ _) nq) XC.out.lt
                                                      have U7 : Hid (Unc (wc.drewN nq) ⟨zu, 0, none⟩ u) := VC.out.below (rck_drewN (Below.refl _ _) nq) VC.out.lt
                                                      have K7 : Hid (Kc (wc.drewN nq) (xk.add (kn * 11)) k) := KC.out.below (rck_drewN (Below.refl _ _) nq) KC.out.lt
                                                      generalize wc.drewN nq = w7 at *
                                                      clear x0 x1 x2 x3 x4 x5 x6 x7 x8 y0 y1 y2 y3 y4 y5 y6 y7 l0 l1 l2 l3 l4 l5 l6 l7 l8 l9 l10 a1 a2 a3 a4 a5 a6 BC XC VC KC
                                                      obtain ⟨x0, x1, x2, x3, x4, x5, x6, x7, x8⟩ := X7.out
                                                      obtain ⟨y0, y1, y2, y3, y4, y5, y6, y7⟩ := U7.out
                                                      simp only [Nat.zero_add] at y1 y2 y3 y4 y5 y6 y7
                                                      by_cases c1 : u.at_ < 0
                                                      · have FF : Hid (Wd.wfault ks W = 6) := BAD.out 6 (by decide) (by rw [UF.out, kp6 HL.out.1 HL.out.2.1 HL.out.2.2 (.inl (by omega))])
                                                        go_wp2
                                                        go_ret
                                                        exact ⟨_, rfl, FF.out.symm, B7.out⟩
                                                      · skip
                                                        by_cases c2 : (W.gs.length : Int) ≤ u.at_
                                                        · have FF : Hid (Wd.wfault ks W = 6) := BAD.out 6 (by decide) (by rw [UF.out, kp6 HL.out.1 HL.out.2.1 HL.out.2.2 (.inl (by omega))])
                                                          go_wp2
                                                          go_ret
                                                          exact ⟨_, rfl, FF.out.symm, B7.out⟩
                                                        · skip
                                                          by_cases c3 : u.goal < 0
                                                          · have FF : Hid (Wd.wfault ks W = 6) := BAD.out 6 (by decide) (by rw [UF.out, kp6 HL.out.1 HL.out.2.1 HL.out.2.2 (.inr (by omega))])
                                                            go_wp2
                                                            go_ret
                                                            exact ⟨_, rfl, FF.out.symm, B7.out⟩
                                                          · skip
                                                            by_cases c4 : (W.gs.length : Int) ≤ u.goal
                                                            · have FF : Hid (Wd.wfault ks W = 6) := BAD.out 6 (by decide) (by rw [UF.out, kp6 HL.out.1 HL.out.2.1 HL.out.2.2 (.inr (by omega))])
                                                              go_wp2
                                                              go_ret
                                                              exact ⟨_, rfl, FF.out.symm, B7.out⟩
                                                            · skip
                                                              have L1 : 0 ≤ u.at_ ∧ u.at_ < (W.gs.length : Int) := ⟨by omega, by omega⟩
                                                              have L2 : 0 ≤ u.goal ∧ u.goal < (W.gs.length : Int) := ⟨by omega, by omega⟩
                                                              have HM : Hid ((0 ≤ u.at_ ∧ u.at_ < (W.gs.length : Int)) ∧ (0 ≤ u.goal ∧ u.goal < (W.gs.length : Int))) := ⟨L1, L2⟩
                                                              obtain ⟨an, ea⟩ : ∃ an : Nat, u.at_ = an := ⟨u.at_.toNat, by omega⟩
                                                              have EA : Hid (u.at_ = an) := ea
                                                              have hanl : an < W.gs.length := by omega
                                                              obtain ⟨g, hg0⟩ : ∃ g, W.gs[an]? = some g := ⟨_, List.getElem?_eq_getElem hanl⟩
                                                              have HGA : Hid (W.gs[an]? = some g) := hg0
                                                              have GR : Hid (0 ≤ g ∧ g ≤ 3 ∧ W.gs.length ≤ 144) := by
                                                                have hG := GG.out.2.2
                                                                obtain ⟨o, ho⟩ : ∃ o, W.os[an]? = some o := ⟨_, List.getElem?_eq_getElem (by rw [hG.ol, ← hG.gl]; exact hanl)⟩
                                                                have := hG.cell an g o hg0 ho
                                                                have h1 := hG.gl
                                                                have h2 := hG.pos
                                                                exact ⟨by omega, by omega, by omega⟩
                                                              clear ea hg0
                                                              as_aux_lemma =>
                                                              go_upto_region 33 with fail
                                                              clear L1 L2 c1 c2 c3 c4
                                                              have FC : Hid (∀ V, Below w7.heap.size w7 V → V.cell? ⟨w.heap.size, 2, none⟩ = some (.int .i64 W.wide) ∧ V.cell? ⟨w.heap.size, 3, none⟩ = some (.int .i64 W.high) ∧ V.cell? ⟨w.heap.size, 4, none⟩ = some (.slice p1 W.gs.length q1) ∧ V.cell? ⟨w.heap.size, 5, none⟩ = some (.slice p2 W.os.length q2) ∧ V.cell? ⟨zu, 3, none⟩ = some (.int .i64 (an : Nat)) ∧ V.cell? ⟨zu, 2, none⟩ = some (.int .i64 (kn : Nat)) ∧ V.cell? ⟨(xk.add (kn * 11)).block, (xk.add (kn * 11)).off + 9, none⟩ = some (.bool k.f)) := fun V hV => by
                                                                obtain ⟨-, -, z2, z3, z4, z5, -, -, -⟩ := X7.out.below hV X7.out.lt
                                                                obtain ⟨-, -, g2, g3, -, -, -, -⟩ := U7.out.below hV U7.out.lt
                                                                obtain ⟨-, -, -, -, -, -, -, -, -, m9, -⟩ := K7.out.below hV K7.out.lt
                                                                rw [EK.out] at g2
                                                                rw [EA.out] at g3
                                                                simp only [Nat.zero_add] at g2 g3
                                                                exact ⟨z2, z3, z4, z5, g3, g2, m9⟩
                                                              have ONT : Hid (∀ V, Below w7.heap.size w7 V → Calls Tryz.prog 27 #[.agg #[.int .i64 W.wide, .int .i64 W.high, .slice p1 W.gs.length q1, .slice p2 W.os.length q2], .int .i64 (an : Nat), .bool k.f] V fun e w' => e = .returned (.int .i64 (Fd.onto g k.f)) ∧ Below w7.heap.size w7 w') := fun V hV => by
                                                                have BV : Below w.heap.size w V := B7.out.trans (hV.mono B7.out.size)
                                                                obtain ⟨r1, r2, -⟩ := (H.out.below BV).slices
                                                                exact (ref_onto _ W.wide W.high W.gs W.os an g k.f V ⟨_, _, rfl, r1, r2⟩ GR.out.2.2 HGA.out GR.out.1 GR.out.2.1).mono fun e w' ⟨h1, h2⟩ => ⟨h1, hV.trans (h2.mono hV.size)⟩
                                                              have eo : ∀ args w, (callFunc 27 args).run Tryz.prog w = .ok (.enter 27 args) w := by intro args w; go_simp
                                                              refine wp_region_class 11 (fun V => Below w7.heap.size w7 V) (by kernel_rfl) (by kernel_rfl) (Below.refl _ _).drew ?_
                                                              simp only [List.take_succ_cons, List.take_zero, List.drop_succ_cons, List.drop_zero]
                                                              refine head_step (.pointer (some ⟨w.heap.size, 2, none⟩)) (by go_simp) (fun V hV => by go_simp) ?_
                                                              go_simp
                                                              refine head_step (.agg #[.int .i64 W.wide, .int .i64 W.high, .slice p1 W.gs.length q1, .slice p2 W.os.length q2]) (by go_simp) (fun V hV => by obtain ⟨f2, f3, f4, f5, -⟩ := FC.out V hV; go_simp) ?_
                                                              go_simp
                                                              refine head_step (.pointer (some ⟨zu, 3, none⟩)) (by go_simp) (fun V hV => by go_simp) ?_
                                                              go_simp
                                                              refine head_step (.int .i64 (an : Nat)) (by go_simp) (fun V hV => by obtain ⟨-, -, -, -, f8, -⟩ := FC.out V hV; go_simp) ?_
                                                              go_simp
                                                              refine head_step (.slice (some xk) ks.length qk) (by go_simp) (fun V hV => by go_simp) ?_
                                                              go_simp
                                                              refine head_step (.pointer (some ⟨zu, 2, none⟩)) (by go_simp) (fun V hV => by go_simp) ?_
                                                              go_simp
                                                              refine head_step (.int .i64 (kn : Nat)) (by go_simp) (fun V hV => by obtain ⟨-, -, -, -, -, f9, -⟩ := FC.out V hV; go_simp) ?_
                                                              go_simp
                                                              refine head_step (.pointer (some (xk.add (kn * 11)))) (by go_simp) (fun V hV => by go_simp) ?_
                                                              go_simp
                                                              refine head_step (.pointer (some ⟨(xk.add (kn * 11)).block, (xk.add (kn * 11)).off + 9, none⟩)) (by go_simp) (fun V hV => by go_simp) ?_
                                                              go_simp
                                                              refine head_step (.bool k.f) (by go_simp) (fun V hV => by obtain ⟨-, -, -, -, -, -, f10⟩ := FC.out V hV; go_simp) ?_
                                                              go_simp
                                                              refine head_call (.int .i64 (Fd.onto g k.f)) 27 #[.agg #[.int .i64 W.wide, .int .i64 W.high, .slice p1 W.gs.length q1, .slice p2 W.os.length q2], .int .i64 (an : Nat), .bool k.f] (by go_simp) (fun V hV => by go_simp) (fun V hV => ONT.out V hV) ?_
                                                              go_simp
                                                              intro V hV
                                                              have BV : Hid (Below w.heap.size w V) := B7.out.trans (hV.mono B7.out.size)
                                                              have XV : Hid (Bw V w.heap.size W (.slice p1 W.gs.length q1) (.slice p2 W.os.length q2) (.slice p3 W.gold.length q3) (.slice (some x) W.us.length q4) (.slice p5 W.qs.length q5)) := X7.out.below hV X7.out.lt
                                                              have VV : Hid (Unc V ⟨zu, 0, none⟩ u) := U7.out.below hV U7.out.lt
                                                              obtain ⟨sv, hsv⟩ : ∃ sv, Fd.onto g k.f = sv := ⟨_, rfl⟩
                                                              have SV : Hid (Fd.onto g k.f = sv ∧ 0 ≤ sv) := ⟨hsv, by rw [← hsv]; exact onto_nonneg _ _⟩
                                                              rw [hsv]
                                                              clear hV FC ONT hsv x0 x1 x2 x3 x4 x5 x6 x7 x8 y0 y1 y2 y3 y4 y5 y6 y7 X7 U7 K7 B7
                                                              obtain ⟨x0, x1, x2, x3, x4, x5, x6, x7, x8⟩ := XV.out
                                                              obtain ⟨y0, y1, y2, y3, y4, y5, y6, y7⟩ := VV.out
                                                              simp only [Nat.zero_add] at y1 y2 y3 y4 y5 y6 y7
                                                              rw [EA.out] at y3
                                                              go_wp2_with fail
                                                              refine (ron_any _ W (an : Nat) V (H.out.below BV.out)).mono ?_
                                                              rintro e w8 ⟨r, rfl, hf, hb8⟩
                                                              have B8 : Hid (Below w.heap.size w w8) := BV.out.trans (hb8.mono BV.out.size)
                                                              have X8 : Hid (Bw w8 w.heap.size W (.slice p1 W.gs.length q1) (.slice p2 W.os.length q2) (.slice p3 W.gold.length q3) (.slice (some x) W.us.length q4) (.slice p5 W.qs.length q5)) := XV.out.below hb8 XV.out.lt
                                                              have U8 : Hid (Unc w8 ⟨zu, 0, none⟩ u) := VV.out.below hb8 VV.out.lt
                                                              have OF := on_fst HU.out EA.out hf
                                                              clear hb8 hf x0 x1 x2 x3 x4 x5 x6 x7 x8 y0 y1 y2 y3 y4 y5 y6 y7 XV VV BV
                                                              obtain ⟨y0, y1, y2, y3, y4, y5, y6, y7⟩ := U8.out
                                                              simp only [Nat.zero_add] at y1 y2 y3 y4 y5 y6 y7
                                                              have OP : Hid (Wd.open_ W.gs (W.us.take i) u.at_ k.f = (decide (0 < sv) && !(W.us.take i).any (fun u => u.at_ == (an : Int)))) := by unfold Hid; rw [EA.out, open_of HGA.out, SV.out.1]
                                                              have KP7 : Hid (Wd.open_ W.gs (W.us.take i) u.at_ k.f = false ∨ (u.goal ≠ 0 ∧ u.task = 0) → Wd.wfault ks W = 7) := fun h => BAD.out 7 (by decide) (by rw [UF.out, kp7 HL.out.1 HL.out.2.1 HL.out.2.2 HM.out.1 HM.out.2 h])
                                                              by_cases hs0 : sv = 0
                                                              · have FF : Hid (Wd.wfault ks W = 7) := KP7.out (.inl (by rw [OP.out, hs0]; rfl))
                                                                subst hs0
                                                                clear OF
                                                                go_wp2
                                                                go_ret
                                                                exact ⟨_, rfl, FF.out.symm, B8.out⟩
                                                              · have S1 : Hid (decide (0 < sv) = true) := decide_eq_true (by have := SV.out.2; omega)
                                                                have hsb : (sv == 0) = false := by simpa using hs0
                                                                clear hs0
                                                                rcases OF with ⟨n, rfl, hni, hany⟩ | ⟨rfl, hany⟩
                                                                · have FF : Hid (Wd.wfault ks W = 7) := KP7.out (.inl (by rw [OP.out, hany]; simp))
                                                                  have hnii : (n : Int) < (i : Int) := by omega
                                                                  clear hany
                                                                  go_wp2
                                                                  go_ret
                                                                  exact ⟨_, rfl, FF.out.symm, B8.out⟩
                                                                · have OPT : Hid (Wd.open_ W.gs (W.us.take i) u.at_ k.f = true) := by unfold Hid; rw [OP.out, hany, S1.out]; rfl
                                                                  clear hany
                                                                  by_cases hgo : u.goal = 0
                                                                  · have G2 : Hid (Wd.unitsGo ks W (i + 1) (W.us.drop (i + 1)) = Wd.unitsGo ks W 0 W.us) := by unfold Hid; rw [GA.out, if_pos (by rw [UF.out, kp0 HL.out.1 HL.out.2.1 HL.out.2.2 HM.out.1 HM.out.2 OPT.out (.inl hgo)])]
                                                                    rw [hgo] at y7
                                                                    clear hgo
                                                                    go_wp2
                                                                    go_roundw
                                                                    case rel => exact ⟨i + 1, by omega, rfl, G2.out, X8.out, B8.out⟩
                                                                    case measure => simp [intOf]; omega
                                                                  · by_cases hta : u.task = 0
                                                                    · have FF : Hid (Wd.wfault ks W = 7) := KP7.out (.inr ⟨hgo, hta⟩)
                                                                      rw [hta] at y6
                                                                      clear hta
                                                                      go_wp2
                                                                      go_ret
                                                                      exact ⟨_, rfl, FF.out.symm, B8.out⟩
                                                                    · have G2 : Hid (Wd.unitsGo ks W (i + 1) (W.us.drop (i + 1)) = Wd.unitsGo ks W 0 W.us) := by unfold Hid; rw [GA.out, if_pos (by rw [UF.out, kp0 HL.out.1 HL.out.2.1 HL.out.2.2 HM.out.1 HM.out.2 OPT.out (.inr hta)])]
                                                                      have htb : (u.task == 0) = false := by simpa using hta
                                                                      clear hta
                                                                      go_wp2
                                                                      go_roundw
                                                                      case rel => exact ⟨i + 1, by omega, rfl, G2.out, X8.out, B8.out⟩
                                                                      case measure => simp [intOf]; omega
                  · have hlt : i < W.gold.length := by omega
                    have hli : (i : Int) < (W.gold.length : Int) := by omega
                    obtain ⟨g, hg⟩ : ∃ g, W.gold[i]? = some g := ⟨_, List.getElem?_eq_getElem hlt⟩
                    obtain ⟨x, rfl, hx, hcell⟩ := GC.out (by intro e; rw [e] at hlt; simp at hlt)
                    have d0 : w2.cell? (x.add i) = some (.int .i64 g) := by rw [B2.out.cell (p := x.add i) (by rw [add_block]; exact hx)]; exact hcell i g hg
                    obtain ⟨t3, ht3⟩ : ∃ b, decide (0 ≤ g ∧ g ≤ 1000000) = b := ⟨_, rfl⟩
                    have T3 : Hid (decide (0 ≤ g ∧ g ≤ 1000000) = t3) := ht3
                    have G3 : Hid (W.gold[i]? = some g) := hg
                    clear ht3 hcell hx hg hil
                    go_wp2_with fail
                    refine (rnumber_q g t3 w2 T3).mono ?_
                    rintro e w3 ⟨rfl, hww⟩
                    obtain rfl := hww.symm
                    cases t3 with
                    | false =>
                      have FF : Hid (Wd.wfault ks W = 1) := wf_nums HZ.out (nb_gold G3.out T3.out)
                      go_wp2
                      go_ret
                      exact ⟨_, rfl, FF.out.symm, B2.out⟩
                    | true =>
                      have N2 : Hid ((W.gold.take (i + 1)).any (Wd.off 0) = false) := gany_next G3.out AN.out (by unfold Wd.off; rw [T3.out]; rfl)
                      go_wp2
                      go_roundw
                      case rel => exact ⟨i + 1, by omega, rfl, N2.out, trivial⟩
                      case measure => simp [intOf]; omega
    · have FF : Hid (Wd.wfault ks W = f2) := by unfold Hid; rw [gr_field F1.out (by rw [F2.out]; exact hz), F2.out]
      go_wp2
      go_ret
      exact ⟨_, rfl, FF.out.symm, B2.out⟩
  · have FF : Hid (Wd.wfault ks W = f1) := by unfold Hid; rw [gr_kinds (by rw [F1.out]; exact hz), F1.out]
    go_wp2
    go_ret
    exact ⟨_, rfl, FF.out.symm, B1.out⟩
end Go.Proofs.YtagnjmellcibhaaGreatDoor

namespace Go.Proofs.YtagnjmellcibhaaGreatDoor
open Go.RowKit Go.Extern.Stop Go.Stop Go.Extern

/-- the cell of errors.errorType. -/
def Et (w : World) : Prop := w.cell? ⟨0, 0, none⟩ = some (.iface 144 (.agg #[.pointer (some ⟨2, 35, none⟩)]))

theorem Et.lt {w : World} (h : Et w) : 0 < w.heap.size := by
  rcases Nat.lt_or_ge 0 w.heap.size with h1 | h1
  · exact h1
  · unfold Et at h
    simp [World.cell?, Array.getElem?_eq_none h1] at h
theorem Et.below {w w' : World} (h : Et w) (hb : Below w.heap.size w w') : Et w' := by
  unfold Et
  rw [hb.cell (p := ⟨0, 0, none⟩) h.lt]
  exact h
theorem Et.alloc {w : World} (h : Et w) (o : Obj) : Et (w.alloc o) := h.below ((Below.refl _ _).alloc (Nat.le_refl _) _)
theorem Et.drew {w : World} (h : Et w) : Et w.drew := h.below (Below.refl _ _).drew

theorem tk_valueOfP (t : Addr) (w : World) : (ReflectliteValue.unpack (.iface 97 (.pointer (some t)))).run Tryz.prog w
    = .ok (.agg #[.pointer (some ⟨2, 97, none⟩), .pointer (some ⟨w.heap.size, 0, none⟩), .int .u64 150]) (w.alloc (.cells #[.pointer (some t)] 97)) := by kernel_rfl
theorem tk_typeP (a : Addr) (w : World) : (ReflectliteValue.methodAny (ReflectliteValue.valueError "reflectlite.Value.Type" 0) (fun t _ _ _ => ReflectliteType.toType t) #[.agg #[.pointer (some ⟨2, 97, none⟩), .pointer (some a), .int .u64 150]]).run Tryz.prog w
    = .ok (.iface 144 (.agg #[.pointer (some ⟨2, 97, none⟩)])) w := by kernel_rfl
theorem tk_methodKind (h : Value) (w : World) : (Go.method 328 144 (.agg #[h]) "Kind").run Tryz.prog w = .ok (163, h) w := by kernel_rfl
theorem tk_kindP (w : World) : ((ReflectliteType.abiMethod fun t => (fun a : Nat => Value.int IntKind.u8 (a : Int)) <$> Rtype.kind t) #[.pointer (some ⟨2, 97, none⟩)]).run Tryz.prog w = .ok (.int .u8 22) w := by kernel_rfl
theorem tk_kindE (w : World) : ((ReflectliteType.abiMethod fun t => (fun a : Nat => Value.int IntKind.u8 (a : Int)) <$> Rtype.kind t) #[.pointer (some ⟨2, 75, none⟩)]).run Tryz.prog w = .ok (.int .u8 2) w := by kernel_rfl
theorem tk_open (z : Sem Value) (f : TypeId → Addr → Nat → Nat → Sem Value) (v : Value) :
    ReflectliteValue.method z f #[v] = (ReflectliteValue.parts v >>= fun o => o.elim z fun q => f q.1 q.2.1 q.2.2 (q.2.2 % 32)) := by
  refine (show ReflectliteValue.method z f #[v] = (ReflectliteValue.parts v >>= _) from rfl).trans ?_
  refine congrArg (ReflectliteValue.parts v >>= ·) (funext fun o => ?_)
  cases o <;> rfl
theorem tk_partsP (a : Addr) (w : World) : (ReflectliteValue.parts (.agg #[.pointer (some ⟨2, 97, none⟩), .pointer (some a), .int .u64 150])).run Tryz.prog w = .ok (some (97, a, 150)) w := by kernel_rfl
theorem tk_isNilP (a p : Addr) (W : World) (ha : W.cell? a = some (.pointer (some p))) :
    (ReflectliteValue.method (ReflectliteValue.valueError "reflectlite.Value.IsNil" 0) ReflectliteValue.isNil #[.agg #[.pointer (some ⟨2, 97, none⟩), .pointer (some a), .int .u64 150]]).run Tryz.prog W = .ok (.bool false) W := by
  rw [tk_open]
  simp only [Sem.run_bind, tk_partsP, Result.andThen]
  simp [ReflectliteValue.isNil, loadVar, isAgg, underlying, Tryz.underlying97, ha, Result.andThen]
theorem tk_methodElem (h : Value) (w : World) : (Go.method 328 144 (.agg #[h]) "Elem").run Tryz.prog w = .ok (173, .agg #[h]) w := by kernel_rfl
theorem tk_methodImplements (h : Value) (w : World) : (Go.method 328 144 (.agg #[h]) "Implements").run Tryz.prog w = .ok (174, .agg #[h]) w := by kernel_rfl
theorem tk_methodAssignableTo (h : Value) (w : World) : (Go.method 328 144 (.agg #[h]) "AssignableTo").run Tryz.prog w = .ok (171, .agg #[h]) w := by kernel_rfl
theorem tk_elemP (w : World) : (ReflectliteType.method ReflectliteType.elem #[.agg #[.pointer (some ⟨2, 97, none⟩)]]).run Tryz.prog w = .ok (.iface 144 (.agg #[.pointer (some ⟨2, 75, none⟩)])) w := by kernel_rfl
theorem tk_implementsE (w : World) : (ReflectliteType.relation "Implements" ReflectliteType.implements_ #[.agg #[.pointer (some ⟨2, 75, none⟩)], .iface 144 (.agg #[.pointer (some ⟨2, 35, none⟩)])]).run Tryz.prog w = .ok (.bool true) w := by kernel_rfl
theorem tk_typeOfE (v : Value) (w : World) : (ReflectliteType.typeOf #[.iface 75 v]).run Tryz.prog w = .ok (.iface 144 (.agg #[.pointer (some ⟨2, 75, none⟩)])) w := by kernel_rfl
theorem tk_assignableE (w : World) : (ReflectliteType.relation "AssignableTo" ReflectliteType.assignableTo #[.agg #[.pointer (some ⟨2, 75, none⟩)], .iface 144 (.agg #[.pointer (some ⟨2, 75, none⟩)])]).run Tryz.prog w = .ok (.bool true) w := by kernel_rfl
theorem tk_valueOfE (n : Int) (w : World) : (ReflectliteValue.unpack (.iface 75 (.int .i64 n))).run Tryz.prog w
    = .ok (.agg #[.pointer (some ⟨2, 75, none⟩), .pointer (some ⟨w.heap.size, 0, none⟩), .int .u64 130]) (w.alloc (.cells #[.int .i64 n] 75)) := by kernel_rfl
theorem tk_elemOfP (w : World) : (Rtype.elem? 97).run Tryz.prog w = .ok (some 75) w := by kernel_rfl
theorem tk_mkE (p : Addr) (w : World) : (ReflectliteValue.mk 75 p ReflectliteValue.flagAddr).run Tryz.prog w = .ok (.agg #[.pointer (some ⟨2, 75, none⟩), .pointer (some p), .int .u64 386]) w := by kernel_rfl
theorem tk_elemV (a p : Addr) (W : World) (ha : W.cell? a = some (.pointer (some p))) :
    (ReflectliteValue.method (ReflectliteValue.valueError "reflectlite.Value.Elem" 0) ReflectliteValue.elem #[.agg #[.pointer (some ⟨2, 97, none⟩), .pointer (some a), .int .u64 150]]).run Tryz.prog W
      = .ok (.agg #[.pointer (some ⟨2, 75, none⟩), .pointer (some p), .int .u64 386]) W := by
  rw [tk_open]
  simp only [Sem.run_bind, tk_partsP, Result.andThen]
  simp [ReflectliteValue.elem, loadVar, isAgg, underlying, Tryz.underlying97, ha, Result.andThen, tk_elemOfP, tk_mkE]
theorem tk_partsEa (a : Addr) (w : World) : (ReflectliteValue.parts (.agg #[.pointer (some ⟨2, 75, none⟩), .pointer (some a), .int .u64 386])).run Tryz.prog w = .ok (some (75, a, 386)) w := by kernel_rfl
theorem tk_partsE (a : Addr) (w : World) : (ReflectliteValue.parts (.agg #[.pointer (some ⟨2, 75, none⟩), .pointer (some a), .int .u64 130])).run Tryz.prog w = .ok (some (75, a, 130)) w := by kernel_rfl
theorem tk_directE (w : World) : (Rtype.directlyAssignable 75 75).run Tryz.prog w = .ok true w := by kernel_rfl
theorem tk_setE (ta b : Addr) (n : Int) (old : Value) (W : World) (hb : W.cell? b = some (.int .i64 n)) (ht : W.cell? ta = some old) (hf : W.frozen? ta = false) :
    (ReflectliteValue.set #[.agg #[.pointer (some ⟨2, 75, none⟩), .pointer (some ta), .int .u64 386], .agg #[.pointer (some ⟨2, 75, none⟩), .pointer (some b), .int .u64 130]]).run Tryz.prog W
      = .ok (.tuple #[]) (W.setCell ta (.int .i64 n)) := by
  rw [show ∀ X Y : Value, ReflectliteValue.set #[X, Y] = (ReflectliteValue.parts X >>= fun p => ReflectliteValue.parts Y >>= fun q => _) from fun _ _ => rfl]
  simp only [Sem.run_bind, tk_partsEa, tk_partsE, Result.andThen]
  simp [ReflectliteValue.flagAddr, loadVar, isAgg, underlying, Tryz.underlying75, hb, Result.andThen, tk_directE, storeVar, Value.cells, storeCells, Addr.add]
  rw [run_store Tryz.prog W ta _ _ (by rfl)]
  simp [ht, hf]

set_option maxHeartbeats 4000000 in
theorem as_hit (n : Int) (t : Addr) (old : Value) (w : World) (hg : w.cell? ⟨0, 0, none⟩ = some (.iface 144 (.agg #[.pointer (some ⟨2, 35, none⟩)]))) (ht0 : w.cell? t = some old) (hf0 : w.frozen? t = false) :
    Calls Tryz.prog 64 #[.iface 75 (.int .i64 n), .iface 97 (.pointer (some t))] w fun ev w' => ev = .returned (.bool true) ∧ w' = ((((w.alloc (.cells #[.pointer (some t)] 97)).alloc (.cells #[.pointer (some ⟨2, 97, none⟩), .pointer (some ⟨w.heap.size, 0, none⟩), .int .u64 150] 122)).alloc (.cells #[.pointer (some ⟨2, 97, none⟩), .pointer (some ⟨w.heap.size, 0, none⟩), .int .u64 150] 122)).alloc (.cells #[.int .i64 n] 75)).setCell t (.int .i64 n) := by
  have h6 := @run_callFunc_extern Tryz.prog 92 _ (fun args => ReflectliteValue.unpack (args.getD 0 (.tuple #[]))) Tryz.func92 (by kernel_rfl) (by kernel_rfl) (by kernel_rfl) (by kernel_rfl)
  have h7 := @run_callFunc_extern Tryz.prog 93 _ (ReflectliteValue.methodAny (ReflectliteValue.valueError "reflectlite.Value.Type" 0) (fun t _ _ _ => ReflectliteType.toType t)) Tryz.func93 (by kernel_rfl) (by kernel_rfl) (by kernel_rfl) (by kernel_rfl)
  have h8 := @run_callFunc_extern Tryz.prog 94 _ (ReflectliteValue.method (ReflectliteValue.valueError "reflectlite.Value.IsNil" 0) ReflectliteValue.isNil) Tryz.func94 (by kernel_rfl) (by kernel_rfl) (by kernel_rfl) (by kernel_rfl)
  have h27 := @run_callFunc_extern Tryz.prog 163 _ (ReflectliteType.abiMethod fun t => do pure (.int .u8 (← Rtype.kind t))) Tryz.func163 (by kernel_rfl) (by kernel_rfl) (by kernel_rfl) (by kernel_rfl)
  have h37 := @run_callFunc_extern Tryz.prog 173 _ (ReflectliteType.method ReflectliteType.elem) Tryz.func173 (by kernel_rfl) (by kernel_rfl) (by kernel_rfl) (by kernel_rfl)
  have h38 := @run_callFunc_extern Tryz.prog 174 _ (ReflectliteType.relation "Implements" ReflectliteType.implements_) Tryz.func174 (by kernel_rfl) (by kernel_rfl) (by kernel_rfl) (by kernel_rfl)
  have h10 := @run_callFunc_extern Tryz.prog 110 _ ReflectliteType.typeOf Tryz.func110 (by kernel_rfl) (by kernel_rfl) (by kernel_rfl) (by kernel_rfl)
  have h35 := @run_callFunc_extern Tryz.prog 171 _ (ReflectliteType.relation "AssignableTo" ReflectliteType.assignableTo) Tryz.func171 (by kernel_rfl) (by kernel_rfl) (by kernel_rfl) (by kernel_rfl)
  have h11 := @run_callFunc_extern Tryz.prog 111 _ (ReflectliteValue.method (ReflectliteValue.valueError "reflectlite.Value.Elem" 0) ReflectliteValue.elem) Tryz.func111 (by kernel_rfl) (by kernel_rfl) (by kernel_rfl) (by kernel_rfl)
  have h12 := @run_callFunc_extern Tryz.prog 112 _ ReflectliteValue.set Tryz.func112 (by kernel_rfl) (by kernel_rfl) (by kernel_rfl) (by kernel_rfl)
  have tO := tk_typeOfE
  have mA := tk_methodAssignableTo
  have a25 := tk_assignableE
  have v25 := tk_valueOfE
  have f6 := tk_valueOfP
  have f7 := tk_typeP
  have mK := tk_methodKind
  have mE := tk_methodElem
  have mI := tk_methodImplements
  have k27 := tk_kindP
  have k25 := tk_kindE
  have e27 := tk_elemP
  have i25 := tk_implementsE
  have n8 := tk_isNilP ⟨w.heap.size, 0, none⟩ t ((w.alloc (.cells #[.pointer (some t)] 97)).alloc (.cells #[.pointer (some ⟨2, 97, none⟩), .pointer (some ⟨w.heap.size, 0, none⟩), .int .u64 150] 122)) (by simp)
  have hlt : 0 < w.heap.size := Et.lt hg
  have hg2 : ((w.alloc (.cells #[.pointer (some t)] 97)).alloc (.cells #[.pointer (some ⟨2, 97, none⟩), .pointer (some ⟨w.heap.size, 0, none⟩), .int .u64 150] 122)).cell? ⟨0, 0, none⟩ = some (.iface 144 (.agg #[.pointer (some ⟨2, 35, none⟩)])) := by
    rw [World.cell?_alloc_lt _ _ ⟨0, 0, none⟩ (by simp; try omega), World.cell?_alloc_lt _ _ ⟨0, 0, none⟩ hlt]; exact hg
  have htl : t.block < w.heap.size := by
    rcases Nat.lt_or_ge t.block w.heap.size with h | h
    · exact h
    · simp [World.cell?, Array.getElem?_eq_none h] at ht0
  have el := tk_elemV ⟨w.heap.size, 0, none⟩ t (((w.alloc (.cells #[.pointer (some t)] 97)).alloc (.cells #[.pointer (some ⟨2, 97, none⟩), .pointer (some ⟨w.heap.size, 0, none⟩), .int .u64 150] 122)).alloc (.cells #[.pointer (some ⟨2, 97, none⟩), .pointer (some ⟨w.heap.size, 0, none⟩), .int .u64 150] 122)) (by rw [World.cell?_alloc_lt _ _ ⟨w.heap.size, 0, none⟩ (by simp; omega)]; simp)
  have st := tk_setE t ⟨w.heap.size + 1 + 1 + 1, 0, none⟩ n old ((((w.alloc (.cells #[.pointer (some t)] 97)).alloc (.cells #[.pointer (some ⟨2, 97, none⟩), .pointer (some ⟨w.heap.size, 0, none⟩), .int .u64 150] 122)).alloc (.cells #[.pointer (some ⟨2, 97, none⟩), .pointer (some ⟨w.heap.size, 0, none⟩), .int .u64 150] 122)).alloc (.cells #[.int .i64 n] 75))
    (by rw [World.cell?_alloc_at _ _ _ _ (by simp)]; rfl)
    (by rw [World.cell?_alloc_lt _ _ t (by simp; omega), World.cell?_alloc_lt _ _ t (by simp; omega), World.cell?_alloc_lt _ _ t (by simp; omega), World.cell?_alloc_lt _ _ t htl]; exact ht0)
    (by rw [World.frozen?_alloc_old _ _ t (by simp; omega), World.frozen?_alloc_old _ _ t (by simp; omega), World.frozen?_alloc_old _ _ t (by simp; omega), World.frozen?_alloc_old _ _ t (Nat.ne_of_lt htl)]; exact hf0)
  go_enter Tryz.func64, Tryz.ntmps64
  go_wp2
  refine wp_loop_rounds 1 ?_
  rw [rounds_succ]
  go_wp2
  go_ret
  exact ⟨rfl, rfl⟩

set_option maxHeartbeats 400000 in
theorem told_nil (w : World) : Calls Tryz.prog 39 #[.nilIface] w fun e w' => e = .returned (.int .i64 0) ∧ w' = w := by
  go_enter Tryz.func39, Tryz.ntmps39
  go_wp2
  go_ret
  exact ⟨rfl, rfl⟩

set_option maxHeartbeats 1000000 in
theorem told_hit (n : Int) (w : World) (hg : Et w) :
    Calls Tryz.prog 39 #[.iface 75 (.int .i64 n)] w fun e w' => e = .returned (.int .i64 n) ∧ Below w.heap.size w w' := by
  have hA : (w.alloc (.cells #[.int .i64 0] 75)).cell? ⟨0, 0, none⟩ = some (.iface 144 (.agg #[.pointer (some ⟨2, 35, none⟩)])) := hg.alloc _
  have hB : (w.alloc (.cells #[.int .i64 0] 75)).cell? ⟨w.heap.size, 0, none⟩ = some (.int .i64 0) := by simp
  have hC : (w.alloc (.cells #[.int .i64 0] 75)).frozen? ⟨w.heap.size, 0, none⟩ = false := by simp
  go_enter Tryz.func39, Tryz.ntmps39
  go_wp2_with (go_at_call 64; refine (as_hit _ _ (.int .i64 0) _ hA hB hC).mono ?_; rintro e w' ⟨rfl, rfl⟩)
  go_ret
  refine ⟨rfl, ?_⟩
  repeat (first | exact Below.refl _ _ | refine Below.alloc ?_ (by simp; try omega) _)

set_option maxHeartbeats 400000 in
theorem same_nil (x : Int) (w : World) : Calls Tryz.prog 9 #[.nilIface, .int .i64 x] w fun e w' => e = .returned (.bool (0 == x)) ∧ w' = w := by
  go_enter Tryz.func9, Tryz.ntmps9
  go_wp2_with (go_at_call 39; refine (told_nil _).mono ?_; rintro e w' ⟨rfl, rfl⟩)
  go_ret
  exact ⟨rfl, rfl⟩

set_option maxHeartbeats 400000 in
theorem same_hit (n x : Int) (w : World) (hg : Et w) : Calls Tryz.prog 9 #[.iface 75 (.int .i64 n), .int .i64 x] w fun e w' => e = .returned (.bool (n == x)) ∧ Below w.heap.size w w' := by
  have Hg : Hid (Et w) := hg
  clear hg
  go_enter Tryz.func9, Tryz.ntmps9
  go_wp2_with fail
  refine (told_hit _ _ Hg).mono ?_
  rintro e w1 ⟨rfl, hb⟩
  have Hb : Hid (Below w.heap.size w w1) := hb
  clear hb
  go_wp2
  go_ret
  exact ⟨rfl, Hb⟩
end Go.Proofs.YtagnjmellcibhaaGreatDoor

namespace Go.Proofs.YtagnjmellcibhaaGreatDoor
open Go.RowKit

theorem er_same (u : Value) (n : Int) (w : World) (h : Er u n) (hg : Et w) :
    Calls Tryz.prog 9 #[u, .int .i64 n] w fun e w' => e = .returned (.bool true) ∧ Below w.heap.size w w' := by
  rcases h with ⟨rfl, rfl⟩ | ⟨h0, rfl⟩
  · exact (same_nil 0 w).mono fun e w' ⟨h1, h2⟩ => ⟨h1, by rw [h2]; exact Below.refl _ _⟩
  · exact (same_hit n n w hg).mono fun e w' ⟨h1, h2⟩ => ⟨by rw [h1, beq_self_eq_true], h2⟩
end Go.Proofs.YtagnjmellcibhaaGreatDoor

namespace Go.Proofs.YtagnjmellcibhaaGreatDoor
open Go.RowKit

set_option maxHeartbeats 400000 in
theorem ints_any (u v : Value) (xs ys : List Int) (w : World) (hu : Ro w u xs) (hv : Ro w v ys) :
    Calls Tryz.prog 19 #[u, v] w fun e w' => e = .returned (.bool (decide (xs = ys))) ∧ ∃ n, w' = w.drewN n := by
  obtain ⟨a, c, rfl, hc1, hc2, ha⟩ := hu
  obtain ⟨b, d, rfl, hd1, hd2, hb⟩ := hv
  have Ha : Hid (Cells w a xs) := ha
  have Hb : Hid (Cells w b ys) := hb
  clear ha hb
  by_cases hl : xs.length = ys.length
  · have Hl : Hid (xs.length = ys.length) := hl
    rw [← hl] at hd1 ⊢
    clear hl
    go_enter Tryz.func19, Tryz.ntmps19
    go_wp2_with fail
    go_loopw [5] (fun i W => ∃ (k q : Nat), k ≤ xs.length ∧ i = .int .i64 (k : Nat) ∧ xs.take k = ys.take k ∧ W = w.drewN q) (fun i _ => xs.length - (intOf i).toNat)
    case atStart => exact ⟨0, 0, Nat.zero_le _, rfl, by simp, rfl⟩
    case round =>
      obtain ⟨k, q, hk, rfl, ht, rfl⟩ := hrel
      have Ht : Hid (xs.take k = ys.take k) := ht
      clear ht
      by_cases h0 : k = xs.length
      · subst h0
        go_wp2
        go_ret
        refine ⟨?_, q, rfl⟩
        have e := Ht.out
        rw [List.take_of_length_le (Nat.le_refl _), Hl.out, List.take_of_length_le (Nat.le_refl _)] at e
        simp [e]
      · have hkx : k < xs.length := by omega
        have hky : k < ys.length := by rw [← Hl.out]; exact hkx
        obtain ⟨x, rfl, -, hx⟩ := Ha.out (by intro h; rw [h] at hkx; simp at hkx)
        obtain ⟨y, rfl, -, hy⟩ := Hb.out (by intro h; rw [h] at hky; simp at hky)
        have cx := hx k xs[k] (List.getElem?_eq_getElem hkx)
        have cy := hy k ys[k] (List.getElem?_eq_getElem hky)
        have Te : Hid (xs.take (k + 1) = ys.take (k + 1) ↔ xs[k] = ys[k]) := by
          unfold Hid
          rw [List.take_succ_eq_append_getElem hkx, List.take_succ_eq_append_getElem hky, Ht.out]
          exact ⟨fun h => (List.cons.inj (List.append_cancel_left h)).1, fun h => by rw [h]⟩
        generalize xs[k] = p at *
        generalize ys[k] = r at *
        clear hx hy
        by_cases hpr : p = r
        · subst hpr
          go_wp2
          go_quiet (fail)
          go_wp2
          go_round
          case rel => exact ⟨k + 1, q + nq, by omega, by go_num, by first | exact Te.out.2 rfl | exact Te.out.2 trivial, rfl⟩
          case measure => simp [intOf]; omega
        · go_wp2
          go_quiet (fail)
          go_wp2
          go_ret
          refine ⟨?_, q + nq, by rw [World.drewN_drewN]⟩
          have : xs ≠ ys := fun h => hpr (Te.out.1 (by rw [h]))
          simp [this]
  · go_enter Tryz.func19, Tryz.ntmps19
    go_wp2
    go_ret
    refine ⟨?_, 0, rfl⟩
    have : xs ≠ ys := fun h => hl (by rw [h])
    simp [this]
end Go.Proofs.YtagnjmellcibhaaGreatDoor

namespace Go.Proofs.YtagnjmellcibhaaGreatDoor
open Go.RowKit
set_option linter.unusedVariables false

set_option maxHeartbeats 1000000 in
theorem same_field (u v : Value) (W H : Int) (gs os : List Int) (w : World) (hu : Fl w u W H gs os) (hv : Fl w v W H gs os) :
    Calls Tryz.prog 40 #[u, v] w fun e w' => e = .returned (.bool true) ∧ Below w.heap.size w w' := by
  obtain ⟨a1, a2, rfl, ha1, ha2⟩ := hu
  obtain ⟨b1, b2, rfl, hb1, hb2⟩ := hv
  have A1 : Hid (Ro w a1 gs) := ha1
  have A2 : Hid (Ro w a2 os) := ha2
  have B1 : Hid (Ro w b1 gs) := hb1
  have B2 : Hid (Ro w b2 os) := hb2
  clear ha1 ha2 hb1 hb2
  go_enter Tryz.func40, Tryz.ntmps40
  go_wp2_with fail
  have K0 : Below w.heap.size w ((w.alloc (Obj.cells #[.int .i64 W, .int .i64 H, a1, a2] 25)).alloc (Obj.cells #[.int .i64 W, .int .i64 H, b1, b2] 25)) := ((Below.refl _ _).alloc (Nat.le_refl _) _).alloc (by simp) _
  have X0 := (Bf.mk' (w := w) W H a1 a2 rfl).below ((Below.refl _ _).alloc (Nat.le_refl _) (Obj.cells #[.int .i64 W, .int .i64 H, b1, b2] 25)) (by simp)
  have Y0 := Bf.mk' (w := w.alloc (Obj.cells #[.int .i64 W, .int .i64 H, a1, a2] 25)) (z := w.heap.size + 1) W H b1 b2 (by simp)
  generalize (w.alloc (Obj.cells #[.int .i64 W, .int .i64 H, a1, a2] 25)).alloc (Obj.cells #[.int .i64 W, .int .i64 H, b1, b2] 25) = w0 at *
  refine (ints_any _ _ gs gs _ (A1.out.below K0) (B1.out.below K0)).mono ?_
  rintro e w1 ⟨rfl, q1, hq1⟩
  rw [decide_eq_true rfl]
  have k1 : Below w0.heap.size w0 w1 := by rw [hq1]; exact _root_.Go.below_drewN (Below.refl _ _) _
  have K1 : Below w.heap.size w w1 := K0.trans (k1.mono K0.size)
  have X1 : Hid (Bf w1 w.heap.size W H a1 a2) := X0.below k1 X0.lt
  have Y1 : Hid (Bf w1 (w.heap.size + 1) W H b1 b2) := Y0.below k1 Y0.lt
  clear hq1 k1 X0 Y0 K0
  obtain ⟨x0, x1, x2, x3⟩ := X1.out
  obtain ⟨y0, y1, y2, y3⟩ := Y1.out
  have K1' : Hid (Below w.heap.size w w1) := K1
  clear K1
  go_wp2_with fail
  refine (ints_any _ _ os os _ (A2.out.below K1'.out) (B2.out.below K1'.out)).mono ?_
  rintro e w2 ⟨rfl, q2, hq2⟩
  rw [decide_eq_true rfl]
  have k2 : Below w1.heap.size w1 w2 := by rw [hq2]; exact _root_.Go.below_drewN (Below.refl _ _) _
  have K2 : Hid (Below w.heap.size w w2) := K1'.out.trans (k2.mono K1'.out.size)
  have X2 : Hid (Bf w2 w.heap.size W H a1 a2) := X1.out.below k2 X1.out.lt
  have Y2 : Hid (Bf w2 (w.heap.size + 1) W H b1 b2) := Y1.out.below k2 Y1.out.lt
  clear hq2 k2 x0 x1 x2 x3 y0 y1 y2 y3 X1 Y1 K1'
  obtain ⟨x0, x1, x2, x3⟩ := X2.out
  obtain ⟨y0, y1, y2, y3⟩ := Y2.out
  go_wp2
  go_ret
  exact ⟨rfl, K2⟩
end Go.Proofs.YtagnjmellcibhaaGreatDoor

namespace Go.Proofs.YtagnjmellcibhaaGreatDoor
open Go.RowKit
set_option linter.unusedVariables false

theorem ints_like (u v : Value) (xs : List Int) (w : World) (hu : Ro w u xs) (hv : Ro w v xs) :
    Calls Tryz.prog 19 #[u, v] w fun e w' => e = .returned (.bool true) ∧ Below w.heap.size w w' :=
  (ints_any u v xs xs w hu hv).mono fun e w' ⟨h1, q, h2⟩ => ⟨by rw [h1, decide_eq_true rfl], by rw [h2]; exact _root_.Go.below_drewN (Below.refl _ _) _⟩
set_option maxRecDepth 100000 in
set_option maxHeartbeats 4000000 in
theorem worlds_like (u v : Value) (W : WV) (w : World) (hu : Wl w u W) (hv : Wl w v W) :
    Calls Tryz.prog 10 #[u, v] w fun e w' => e = .returned (.bool true) ∧ Below w.heap.size w w' := by
  obtain ⟨u1, u2, u3, u4, u5, rfl, g1, g2, g3, g4, g5⟩ := hu
  obtain ⟨v1, v2, v3, v4, v5, rfl, k1, k2, k3, k4, k5⟩ := hv
  obtain ⟨a4, c4, rfl, gl4, gc4, ga4⟩ := g4
  obtain ⟨b4, d4, rfl, kl4, kc4, ka4⟩ := k4
  obtain ⟨a5, c5, rfl, gl5, gc5, ga5⟩ := g5
  obtain ⟨b5, d5, rfl, kl5, kc5, ka5⟩ := k5
  have R : Hid (Ro w u1 W.gs ∧ Ro w u2 W.os ∧ Ro w u3 W.gold ∧ Ro w v1 W.gs ∧ Ro w v2 W.os ∧ Ro w v3 W.gold) := ⟨g1, g2, g3, k1, k2, k3⟩
  have GU : Hid (W.us ≠ [] → ∃ x, a4 = some x ∧ x.block < w.heap.size ∧ ∀ (i : Nat) k, W.us[i]? = some k → Unc w (x.add (i * 8)) k) := ga4
  have KU : Hid (W.us ≠ [] → ∃ x, b4 = some x ∧ x.block < w.heap.size ∧ ∀ (i : Nat) k, W.us[i]? = some k → Unc w (x.add (i * 8)) k) := ka4
  have GJ : Hid (W.qs ≠ [] → ∃ x, a5 = some x ∧ x.block < w.heap.size ∧ ∀ (i : Nat) k, W.qs[i]? = some k → Jbc w (x.add (i * 4)) k) := ga5
  have KJ : Hid (W.qs ≠ [] → ∃ x, b5 = some x ∧ x.block < w.heap.size ∧ ∀ (i : Nat) k, W.qs[i]? = some k → Jbc w (x.add (i * 4)) k) := ka5
  have hul : W.us.length ≤ 9223372036854775807 := by omega
  have hql : W.qs.length ≤ 9223372036854775807 := by omega
  clear g1 g2 g3 k1 k2 k3 ga4 ka4 ga5 ka5 gl4 gc4 kl4 kc4 gl5 gc5 kl5 kc5
  go_enter Tryz.func10, Tryz.ntmps10
  go_wp2_with fail
  have K0 : Below w.heap.size w ((w.alloc (Obj.cells #[.int .i64 W.turn, .int .i64 W.next, .int .i64 W.wide, .int .i64 W.high, u1, u2, u3, .slice a4 W.us.length c4, .slice a5 W.qs.length c5] 29)).alloc (Obj.cells #[.int .i64 W.turn, .int .i64 W.next, .int .i64 W.wide, .int .i64 W.high, v1, v2, v3, .slice b4 W.us.length d4, .slice b5 W.qs.length d5] 29)) := ((Below.refl _ _).alloc (Nat.le_refl _) _).alloc (by simp) _
  have X0 := (Bw.mk' (w := w) W u1 u2 u3 (.slice a4 W.us.length c4) (.slice a5 W.qs.length c5) rfl).below ((Below.refl _ _).alloc (Nat.le_refl _) (Obj.cells #[.int .i64 W.turn, .int .i64 W.next, .int .i64 W.wide, .int .i64 W.high, v1, v2, v3, .slice b4 W.us.length d4, .slice b5 W.qs.length d5] 29)) (by simp)
  have Y0 := Bw.mk' (w := w.alloc (Obj.cells #[.int .i64 W.turn, .int .i64 W.next, .int .i64 W.wide, .int .i64 W.high, u1, u2, u3, .slice a4 W.us.length c4, .slice a5 W.qs.length c5] 29)) (z := w.heap.size + 1) W v1 v2 v3 (.slice b4 W.us.length d4) (.slice b5 W.qs.length d5) (by simp)
  generalize ((w.alloc (Obj.cells #[.int .i64 W.turn, .int .i64 W.next, .int .i64 W.wide, .int .i64 W.high, u1, u2, u3, .slice a4 W.us.length c4, .slice a5 W.qs.length c5] 29)).alloc (Obj.cells #[.int .i64 W.turn, .int .i64 W.next, .int .i64 W.wide, .int .i64 W.high, v1, v2, v3, .slice b4 W.us.length d4, .slice b5 W.qs.length d5] 29)) = w0 at *
  refine (same_field _ _ W.wide W.high W.gs W.os w0 ⟨_, _, rfl, R.out.1.below K0, R.out.2.1.below K0⟩ ⟨_, _, rfl, R.out.2.2.2.1.below K0, R.out.2.2.2.2.1.below K0⟩).mono ?_
  rintro e w1 ⟨rfl, hb1⟩
  have K1 : Hid (Below w.heap.size w w1) := K0.trans (hb1.mono K0.size)
  have X1 : Hid (Bw w1 w.heap.size W u1 u2 u3 (.slice a4 W.us.length c4) (.slice a5 W.qs.length c5)) := X0.below hb1 X0.lt
  have Y1 : Hid (Bw w1 (w.heap.size + 1) W v1 v2 v3 (.slice b4 W.us.length d4) (.slice b5 W.qs.length d5)) := Y0.below hb1 Y0.lt
  clear K0 X0 Y0 hb1
  obtain ⟨x0, x1, x2, x3, x4, x5, x6, x7, x8⟩ := X1.out
  obtain ⟨y0, y1, y2, y3, y4, y5, y6, y7, y8⟩ := Y1.out
  go_wp2_with fail
  refine (ints_like _ _ W.gold w1 (R.out.2.2.1.below K1.out) (R.out.2.2.2.2.2.below K1.out)).mono ?_
  rintro e w2 ⟨rfl, hb2⟩
  have K2' : Hid (Below w.heap.size w w2) := K1.out.trans (hb2.mono K1.out.size)
  have X2 : Hid (Bw w2 w.heap.size W u1 u2 u3 (.slice a4 W.us.length c4) (.slice a5 W.qs.length c5)) := X1.out.below hb2 X1.out.lt
  have Y2 : Hid (Bw w2 (w.heap.size + 1) W v1 v2 v3 (.slice b4 W.us.length d4) (.slice b5 W.qs.length d5)) := Y1.out.below hb2 Y1.out.lt
  clear hb2 x0 x1 x2 x3 x4 x5 x6 x7 x8 y0 y1 y2 y3 y4 y5 y6 y7 y8 X1 Y1 K1
  obtain ⟨x0, x1, x2, x3, x4, x5, x6, x7, x8⟩ := X2.out
  obtain ⟨y0, y1, y2, y3, y4, y5, y6, y7, y8⟩ := Y2.out
  go_wp2
  clear x0 x1 x2 x3 x4 x5 x6 x7 x8 y0 y1 y2 y3 y4 y5 y6 y7 y8
  go_loopw [7] (fun i W' => ∃ k : Nat, k ≤ W.us.length ∧ i = .int .i64 (k : Nat) ∧ Bw W' w.heap.size W u1 u2 u3 (.slice a4 W.us.length c4) (.slice a5 W.qs.length c5) ∧ Bw W' (w.heap.size + 1) W v1 v2 v3 (.slice b4 W.us.length d4) (.slice b5 W.qs.length d5) ∧ Below w.heap.size w W') (fun i _ => W.us.length - (intOf i).toNat)
  case atStart => exact ⟨0, Nat.zero_le _, rfl, X2.out, Y2.out, K2'.out⟩
  case round =>
    obtain ⟨k, hk, rfl, hX, hY, hB⟩ := hrel
    have XB : Hid (Bw wr w.heap.size W u1 u2 u3 (.slice a4 W.us.length c4) (.slice a5 W.qs.length c5)) := hX
    have YB : Hid (Bw wr (w.heap.size + 1) W v1 v2 v3 (.slice b4 W.us.length d4) (.slice b5 W.qs.length d5)) := hY
    have B : Hid (Below w.heap.size w wr) := hB
    clear hX hY hB X2 Y2 K2'
    by_cases h0 : k = W.us.length
    · subst h0
      have x7 := XB.out.c7
      clear hk
      go_wp2
      clear x7
      go_loopw [8] (fun i W' => ∃ k : Nat, k ≤ W.qs.length ∧ i = .int .i64 (k : Nat) ∧ Bw W' w.heap.size W u1 u2 u3 (.slice a4 W.us.length c4) (.slice a5 W.qs.length c5) ∧ Bw W' (w.heap.size + 1) W v1 v2 v3 (.slice b4 W.us.length d4) (.slice b5 W.qs.length d5) ∧ Below w.heap.size w W') (fun i _ => W.qs.length - (intOf i).toNat)
      case atStart => exact ⟨0, Nat.zero_le _, rfl, XB.out, YB.out, B.out⟩
      case round =>
        obtain ⟨k, hk, rfl, hX, hY, hB⟩ := hrel
        have XB : Hid (Bw wr w.heap.size W u1 u2 u3 (.slice a4 W.us.length c4) (.slice a5 W.qs.length c5)) := hX
        have YB : Hid (Bw wr (w.heap.size + 1) W v1 v2 v3 (.slice b4 W.us.length d4) (.slice b5 W.qs.length d5)) := hY
        have B : Hid (Below w.heap.size w wr) := hB
        clear hX hY hB
        by_cases h0 : k = W.qs.length
        · subst h0
          have x8 := XB.out.c8
          clear hk
          go_wp2
          go_ret
          exact ⟨rfl, B.out⟩
        · have hlt : k < W.qs.length := by omega
          have hlti : ((k : Nat) : Int) < (W.qs.length : Nat) := by omega
          obtain ⟨o, ho⟩ : ∃ o, W.qs[k]? = some o := ⟨_, List.getElem?_eq_getElem hlt⟩
          have hne : W.qs ≠ [] := by intro e; rw [e] at hlt; simp at hlt
          obtain ⟨x, rfl, hx, hxc⟩ := GJ.out hne
          obtain ⟨y, rfl, hy, hyc⟩ := KJ.out hne
          obtain ⟨q0, q1, q2, q3⟩ := (hxc k o ho).below B.out (by rw [add_block]; exact hx)
          obtain ⟨r0, r1, r2, r3⟩ := (hyc k o ho).below B.out (by rw [add_block]; exact hy)
          have x8 := XB.out.c8
          have y8 := YB.out.c8
          clear hxc hyc hne ho hx hy
          go_wp2
          go_quiet (fail)
          go_wp2
          go_round
          case rel => exact ⟨k + 1, by omega, by go_num, XB.out.below (_root_.Go.below_drewN (Below.refl _ _) _) XB.out.lt, YB.out.below (_root_.Go.below_drewN (Below.refl _ _) _) YB.out.lt, _root_.Go.below_drewN B.out _⟩
          case measure => simp [intOf]; omega
    · have hlt : k < W.us.length := by omega
      have hlti : ((k : Nat) : Int) < (W.us.length : Nat) := by omega
      obtain ⟨o, ho⟩ : ∃ o, W.us[k]? = some o := ⟨_, List.getElem?_eq_getElem hlt⟩
      have hne : W.us ≠ [] := by intro e; rw [e] at hlt; simp at hlt
      obtain ⟨x, rfl, hx, hxc⟩ := GU.out hne
      obtain ⟨y, rfl, hy, hyc⟩ := KU.out hne
      obtain ⟨q0, q1, q2, q3, q4, q5, q6, q7⟩ := (hxc k o ho).below B.out (by rw [add_block]; exact hx)
      obtain ⟨r0, r1, r2, r3, r4, r5, r6, r7⟩ := (hyc k o ho).below B.out (by rw [add_block]; exact hy)
      have x7 := XB.out.c7
      have y7 := YB.out.c7
      clear hxc hyc hne ho hx hy
      go_wp2
      go_quiet (fail)
      go_wp2
      go_round
      case rel => exact ⟨k + 1, by omega, by go_num, XB.out.below (_root_.Go.below_drewN (Below.refl _ _) _) XB.out.lt, YB.out.below (_root_.Go.below_drewN (Below.refl _ _) _) YB.out.lt, _root_.Go.below_drewN B.out _⟩
      case measure => simp [intOf]; omega
end Go.Proofs.YtagnjmellcibhaaGreatDoor

namespace Go.Proofs.YtagnjmellcibhaaGreatDoor
open Go.RowKit
set_option linter.unusedVariables false

set_option maxRecDepth 100000 in
set_option maxHeartbeats 4000000 in
theorem events_like (u v : Value) (ks : List EvV) (w : World) (hu : Evl w u ks) (hv : Evl w v ks) :
    Calls Tryz.prog 11 #[u, v] w fun e w' => e = .returned (.bool true) ∧ Below w.heap.size w w' := by
  obtain ⟨a, c, rfl, hc1, hc2, ha⟩ := hu
  obtain ⟨b, d, rfl, hd1, hd2, hb⟩ := hv
  have Ha : Hid (ks ≠ [] → ∃ x, a = some x ∧ x.block < w.heap.size ∧ ∀ (i : Nat) k, ks[i]? = some k → Evc w (x.add (i * 3)) k) := ha
  have Hb : Hid (ks ≠ [] → ∃ x, b = some x ∧ x.block < w.heap.size ∧ ∀ (i : Nat) k, ks[i]? = some k → Evc w (x.add (i * 3)) k) := hb
  clear ha hb
  go_enter Tryz.func11, Tryz.ntmps11
  go_wp2
  go_loopw [5] (fun i W' => ∃ k : Nat, k ≤ ks.length ∧ i = .int .i64 (k : Nat) ∧ ∃ n, W' = w.drewN n) (fun i _ => ks.length - (intOf i).toNat)
  case atStart => exact ⟨0, Nat.zero_le _, rfl, 0, rfl⟩
  case round =>
    obtain ⟨k, hk, rfl, n, rfl⟩ := hrel
    by_cases h0 : k = ks.length
    · subst h0
      have B : Hid (Below w.heap.size w (w.drewN n)) := ⟨rfl, rfl, rfl, Nat.le_refl _, fun _ _ => rfl⟩
      go_wp2
      go_ret
      exact ⟨rfl, B⟩
    · have hlt : k < ks.length := by omega
      have hlti : ((k : Nat) : Int) < (ks.length : Nat) := by omega
      obtain ⟨o, ho⟩ : ∃ o, ks[k]? = some o := ⟨_, List.getElem?_eq_getElem hlt⟩
      have hne : ks ≠ [] := by rintro rfl; simp at hlt
      obtain ⟨x, rfl, hx, hxc⟩ := Ha.out hne
      obtain ⟨y, rfl, hy, hyc⟩ := Hb.out hne
      have cx := hxc k o ho
      have cy := hyc k o ho
      obtain ⟨q0, q1, q2⟩ := cx
      obtain ⟨r0, r1, r2⟩ := cy
      clear hxc hyc hne ho
      go_wp2
      go_quiet (fail)
      go_wp2
      go_round
      case rel => exact ⟨k + 1, by omega, by go_num, n + nq, rfl⟩
      case measure => simp [intOf]; omega
end Go.Proofs.YtagnjmellcibhaaGreatDoor

namespace Go.Proofs.YtagnjmellcibhaaGreatDoor
open Go.ChangeShapes Go.WideShapes Go.ChangeAt Go.RowKit
set_option linter.unusedVariables false

theorem in64_of_wf {n : Int} (h : (Lit.int .i64 n).wf = true) : Wd.In64 n := by
  unfold Wd.In64
  simp only [Lit.wf, Bool.and_eq_true, decide_eq_true_eq] at h
  have h1 : IntKind.i64.min = -9223372036854775808 := by decide
  have h2 : IntKind.i64.max = 9223372036854775807 := by decide
  omega
theorem byte_of_wf {n : Int} (h : (Lit.int .u8 n).wf = true) : 0 ≤ n ∧ n < 256 := by
  simp only [Lit.wf, Bool.and_eq_true, decide_eq_true_eq] at h
  have h1 : IntKind.u8.min = 0 := by decide
  have h2 : IntKind.u8.max = 255 := by decide
  omega
theorem bulk_pos {H : Type} : ∀ d : DataW H, 1 ≤ Rows.uptoBulk d
  | .lit (.string bytes) => by simp [Rows.uptoBulk]
  | .lit (.int _ _) => by simp [Rows.uptoBulk]
  | .lit (.bool _) => by simp [Rows.uptoBulk]
  | .lit (.float .f32 _) => by simp [Rows.uptoBulk]
  | .lit (.float .f64 _) => by simp [Rows.uptoBulk]
  | .lit .nil => by simp [Rows.uptoBulk]
  | .nil => by simp [Rows.uptoBulk]
  | .ptr d => by simp [Rows.uptoBulk]
  | .slice _ _ => by simp [Rows.uptoBulk]
  | .agg _ => by simp [Rows.uptoBulk]
  | .iface _ _ => by simp [Rows.uptoBulk]
  | .map _ => by simp [Rows.uptoBulk]
  | .held _ => by simp [Rows.uptoBulk]
theorem bulk_len {H : Type} : ∀ ds : List (DataW H), ds.length ≤ Rows.uptoBulkAll ds
  | [] => by simp
  | d :: ds => by
    have h1 := bulk_pos d
    have h2 := bulk_len ds
    simp only [Rows.uptoBulkAll, List.length_cons]
    omega
theorem bulk_slice {H : Type} (es sp : List (DataW H)) : es.length ≤ Rows.uptoBulk (.slice es sp) := by
  have := bulk_len es
  simp only [Rows.uptoBulk]
  omega

set_option maxRecDepth 100000 in
theorem open_row64 {H : Type} {enc : TypeId × Value → H} {W : World} {base : Nat} {held : Bool} {fuel : Nat} {v : Value} {y : DataW H × List MemPlace} (h : DataW.trod enc Tryz.prog W base (fun _ => true) held fuel 23 [v] = some y) :
    ∃ zs, Ro W v zs ∧ (∀ n ∈ zs, Wd.In64 n) ∧ zs.length ≤ Rows.uptoBulk y.1 := by
  rcases open_ints Tryz.underlying23 Tryz.underlying3 (by kernel_rfl) h with ⟨hcs, rfl⟩ | ⟨x, l, c, zs, hcs, _, hl, hm, hz, rfl, hcell, hwz⟩
  · simp at hcs
    subst hcs
    exact ⟨_, IsRow.ro (.inl ⟨rfl, rfl, rfl, rfl⟩), by simp, by simp⟩
  · simp at hcs
    subst hcs
    refine ⟨_, IsRow.ro (zs := zs) (.inr ⟨_, rfl, hl, hm, by simpa using hz, hcell, hwz⟩), fun n hn => in64_of_wf (hwz n (List.mem_of_mem_take hn)), ?_⟩
    have := bulk_slice (H := H) (lits .i64 (zs.take l)) (lits .i64 (zs.drop l))
    simpa [lits] using this
theorem un_flds : ∃ f0 f1 f2 f3 f4 f5 f6 f7 : Field, Tryz.prog.underlying 59 = some (.struct #[f0, f1, f2, f3, f4, f5, f6, f7]) ∧ f0.offset = 0 ∧ f0.type = 3 ∧ f1.offset = 1 ∧ f1.type = 3 ∧ f2.offset = 2 ∧ f2.type = 3 ∧ f3.offset = 3 ∧ f3.type = 3 ∧ f4.offset = 4 ∧ f4.type = 3 ∧ f5.offset = 5 ∧ f5.type = 3 ∧ f6.offset = 6 ∧ f6.type = 3 ∧ f7.offset = 7 ∧ f7.type = 3 := ⟨_, _, _, _, _, _, _, _, Tryz.underlying59, rfl, rfl, rfl, rfl, rfl, rfl, rfl, rfl, rfl, rfl, rfl, rfl, rfl, rfl, rfl, rfl⟩
set_option maxRecDepth 100000 in
theorem open_un64 {H : Type} {enc : TypeId × Value → H} {W : World} {base : Nat} {held : Bool} {fuel : Nat} {cs : List Value} {y : DataW H × List MemPlace} (h : DataW.trod enc Tryz.prog W base (fun _ => true) held fuel 59 cs = some y) :
    ∃ k : UnV, cs = [.int .i64 k.id, .int .i64 k.player, .int .i64 k.kind, .int .i64 k.at_, .int .i64 k.life, .int .i64 k.load, .int .i64 k.task, .int .i64 k.goal] ∧ ∀ n ∈ Wd.unums k, Wd.In64 n := by
  obtain ⟨f0, f1, f2, f3, f4, f5, f6, f7, he, o0, t0, o1, t1, o2, t2, o3, t3, o4, t4, o5, t5, o6, t6, o7, t7⟩ := un_flds
  obtain ⟨xs, m, -, -, hlen, hxl, hf⟩ := DataW.trod_struct he h
  have csi : Tryz.prog.cellsOf 3 = 1 := by kernel_rfl
  have csk : Tryz.prog.cellsOf 59 = 8 := by kernel_rfl
  rw [csk] at hlen
  match cs, hlen with
  | [v0, v1, v2, v3, v4, v5, v6, v7], _ =>
    have hx : xs.length = 8 := hxl
    match xs, hx with
    | [x0, x1, x2, x3, x4, x5, x6, x7], _ =>
      have g0 := hf 0 f0 rfl
      rw [o0, t0, csi] at g0
      have g1 := hf 1 f1 rfl
      rw [o1, t1, csi] at g1
      have g2 := hf 2 f2 rfl
      rw [o2, t2, csi] at g2
      have g3 := hf 3 f3 rfl
      rw [o3, t3, csi] at g3
      have g4 := hf 4 f4 rfl
      rw [o4, t4, csi] at g4
      have g5 := hf 5 f5 rfl
      rw [o5, t5, csi] at g5
      have g6 := hf 6 f6 rfl
      rw [o6, t6, csi] at g6
      have g7 := hf 7 f7 rfl
      rw [o7, t7, csi] at g7
      obtain ⟨m0, e0, -, w0⟩ := DataW.trod_int Tryz.underlying3 g0
      obtain ⟨m1, e1, -, w1⟩ := DataW.trod_int Tryz.underlying3 g1
      obtain ⟨m2, e2, -, w2⟩ := DataW.trod_int Tryz.underlying3 g2
      obtain ⟨m3, e3, -, w3⟩ := DataW.trod_int Tryz.underlying3 g3
      obtain ⟨m4, e4, -, w4⟩ := DataW.trod_int Tryz.underlying3 g4
      obtain ⟨m5, e5, -, w5⟩ := DataW.trod_int Tryz.underlying3 g5
      obtain ⟨m6, e6, -, w6⟩ := DataW.trod_int Tryz.underlying3 g6
      obtain ⟨m7, e7, -, w7⟩ := DataW.trod_int Tryz.underlying3 g7
      simp at e0 e1 e2 e3 e4 e5 e6 e7
      subst e0 e1 e2 e3 e4 e5 e6 e7
      refine ⟨⟨m0, m1, m2, m3, m4, m5, m6, m7⟩, rfl, ?_⟩
      intro n hn
      simp only [Wd.unums, List.mem_cons, List.not_mem_nil, or_false] at hn
      rcases hn with rfl | rfl | rfl | rfl | rfl | rfl | rfl | rfl
      · exact in64_of_wf w0
      · exact in64_of_wf w1
      · exact in64_of_wf w2
      · exact in64_of_wf w3
      · exact in64_of_wf w4
      · exact in64_of_wf w5
      · exact in64_of_wf w6
      · exact in64_of_wf w7
theorem open_uns64 {H : Type} {enc : TypeId × Value → H} {W : World} {base : Nat} {held : Bool} {fuel : Nat} {v : Value} {y : DataW H × List MemPlace} (h : DataW.trod enc Tryz.prog W base (fun _ => true) held fuel 26 [v] = some y) :
    ∃ ks : List UnV, Unl W v ks ∧ (∀ k ∈ ks, ∀ n ∈ Wd.unums k, Wd.In64 n) ∧ ks.length ≤ Rows.uptoBulk y.1 := by
  have csk : Tryz.prog.cellsOf 59 = 8 := by kernel_rfl
  rcases Go.Deep.open_slice Tryz.underlying26 h with ⟨hcs, -⟩ | ⟨a, len, cap, m, q, D, Pl, hcs, hb, hl, hm, hmm, rfl, hx⟩
  · simp at hcs
    subst hcs
    exact ⟨[], ⟨none, 0, rfl, Nat.le_refl _, by omega, fun h => absurd rfl h⟩, by simp, by simp⟩
  · simp at hcs
    subst hcs
    have hlm : len ≤ m := by rw [hmm]; simp; exact hl
    have each : ∀ i, i < len → ∃ k : UnV, Unc W (a.add (i * 8)) k ∧ (∀ n ∈ Wd.unums k, Wd.In64 n) := by
      intro i hi
      obtain ⟨cs', h1, h2⟩ := hx i (by omega)
      obtain ⟨k, rfl, hk⟩ := open_un64 h2
      rw [csk] at h1
      obtain ⟨-, -, hcell⟩ := World.cells?_some h1
      refine ⟨k, ?_, hk⟩
      generalize a.add (i * 8) = y at *
      exact ⟨hcell 0 (by decide), hcell 1 (by decide), hcell 2 (by decide), hcell 3 (by decide), hcell 4 (by decide), hcell 5 (by decide), hcell 6 (by decide), hcell 7 (by decide)⟩
    have inh : Inhabited UnV := ⟨⟨0, 0, 0, 0, 0, 0, 0, 0⟩⟩
    obtain ⟨q, hq⟩ := Go.Deep.choose_lt each
    refine ⟨(List.range len).map q, ⟨some a, cap, by simp, by simpa using hl, by unfold maxLen at hm; omega, fun hn => ⟨a, rfl, ?_, fun i k hk => ?_⟩⟩, ?_, ?_⟩
    · have h0 : 0 < len := by
        rcases Nat.eq_zero_or_pos len with h | h
        · subst h; simp at hn
        · exact h
      have := (hq 0 h0).1.lt
      rwa [add_block] at this
    · have hi : i < len := by
        have := (List.getElem?_eq_some_iff.1 hk).1
        simpa using this
      rw [List.getElem?_map, List.getElem?_range hi] at hk
      injection hk with hk
      subst hk
      exact (hq i hi).1
    · intro k hk
      obtain ⟨i, hi, rfl⟩ := List.mem_map.1 hk
      exact (hq i (List.mem_range.1 hi)).2
    · have := bulk_slice ((List.range len).map D) ((List.range (m - len)).map fun j => D (len + j))
      simpa using this
theorem jb_flds : ∃ f0 f1 f2 f3 : Field, Tryz.prog.underlying 65 = some (.struct #[f0, f1, f2, f3]) ∧ f0.offset = 0 ∧ f0.type = 3 ∧ f1.offset = 1 ∧ f1.type = 3 ∧ f2.offset = 2 ∧ f2.type = 3 ∧ f3.offset = 3 ∧ f3.type = 3 := ⟨_, _, _, _, Tryz.underlying65, rfl, rfl, rfl, rfl, rfl, rfl, rfl, rfl⟩
set_option maxRecDepth 100000 in
theorem open_jb64 {H : Type} {enc : TypeId × Value → H} {W : World} {base : Nat} {held : Bool} {fuel : Nat} {cs : List Value} {y : DataW H × List MemPlace} (h : DataW.trod enc Tryz.prog W base (fun _ => true) held fuel 65 cs = some y) :
    ∃ k : JbV, cs = [.int .i64 k.player, .int .i64 k.unit, .int .i64 k.kind, .int .i64 k.left] ∧ ∀ n ∈ Wd.jnums k, Wd.In64 n := by
  obtain ⟨f0, f1, f2, f3, he, o0, t0, o1, t1, o2, t2, o3, t3⟩ := jb_flds
  obtain ⟨xs, m, -, -, hlen, hxl, hf⟩ := DataW.trod_struct he h
  have csi : Tryz.prog.cellsOf 3 = 1 := by kernel_rfl
  have csk : Tryz.prog.cellsOf 65 = 4 := by kernel_rfl
  rw [csk] at hlen
  match cs, hlen with
  | [v0, v1, v2, v3], _ =>
    have hx : xs.length = 4 := hxl
    match xs, hx with
    | [x0, x1, x2, x3], _ =>
      have g0 := hf 0 f0 rfl
      rw [o0, t0, csi] at g0
      have g1 := hf 1 f1 rfl
      rw [o1, t1, csi] at g1
      have g2 := hf 2 f2 rfl
      rw [o2, t2, csi] at g2
      have g3 := hf 3 f3 rfl
      rw [o3, t3, csi] at g3
      obtain ⟨m0, e0, -, w0⟩ := DataW.trod_int Tryz.underlying3 g0
      obtain ⟨m1, e1, -, w1⟩ := DataW.trod_int Tryz.underlying3 g1
      obtain ⟨m2, e2, -, w2⟩ := DataW.trod_int Tryz.underlying3 g2
      obtain ⟨m3, e3, -, w3⟩ := DataW.trod_int Tryz.underlying3 g3
      simp at e0 e1 e2 e3
      subst e0 e1 e2 e3
      refine ⟨⟨m0, m1, m2, m3⟩, rfl, ?_⟩
      intro n hn
      simp only [Wd.jnums, List.mem_cons, List.not_mem_nil, or_false] at hn
      rcases hn with rfl | rfl | rfl | rfl
      · exact in64_of_wf w0
      · exact in64_of_wf w1
      · exact in64_of_wf w2
      · exact in64_of_wf w3
theorem open_jbs64 {H : Type} {enc : TypeId × Value → H} {W : World} {base : Nat} {held : Bool} {fuel : Nat} {v : Value} {y : DataW H × List MemPlace} (h : DataW.trod enc Tryz.prog W base (fun _ => true) held fuel 27 [v] = some y) :
    ∃ ks : List JbV, Jbl W v ks ∧ (∀ k ∈ ks, ∀ n ∈ Wd.jnums k, Wd.In64 n) ∧ ks.length ≤ Rows.uptoBulk y.1 := by
  have csk : Tryz.prog.cellsOf 65 = 4 := by kernel_rfl
  rcases Go.Deep.open_slice Tryz.underlying27 h with ⟨hcs, -⟩ | ⟨a, len, cap, m, q, D, Pl, hcs, hb, hl, hm, hmm, rfl, hx⟩
  · simp at hcs
    subst hcs
    exact ⟨[], ⟨none, 0, rfl, Nat.le_refl _, by omega, fun h => absurd rfl h⟩, by simp, by simp⟩
  · simp at hcs
    subst hcs
    have hlm : len ≤ m := by rw [hmm]; simp; exact hl
    have each : ∀ i, i < len → ∃ k : JbV, Jbc W (a.add (i * 4)) k ∧ (∀ n ∈ Wd.jnums k, Wd.In64 n) := by
      intro i hi
      obtain ⟨cs', h1, h2⟩ := hx i (by omega)
      obtain ⟨k, rfl, hk⟩ := open_jb64 h2
      rw [csk] at h1
      obtain ⟨-, -, hcell⟩ := World.cells?_some h1
      refine ⟨k, ?_, hk⟩
      generalize a.add (i * 4) = y at *
      exact ⟨hcell 0 (by decide), hcell 1 (by decide), hcell 2 (by decide), hcell 3 (by decide)⟩
    have inh : Inhabited JbV := ⟨⟨0, 0, 0, 0⟩⟩
    obtain ⟨q, hq⟩ := Go.Deep.choose_lt each
    refine ⟨(List.range len).map q, ⟨some a, cap, by simp, by simpa using hl, by unfold maxLen at hm; omega, fun hn => ⟨a, rfl, ?_, fun i k hk => ?_⟩⟩, ?_, ?_⟩
    · have h0 : 0 < len := by
        rcases Nat.eq_zero_or_pos len with h | h
        · subst h; simp at hn
        · exact h
      have := (hq 0 h0).1.lt
      rwa [add_block] at this
    · have hi : i < len := by
        have := (List.getElem?_eq_some_iff.1 hk).1
        simpa using this
      rw [List.getElem?_map, List.getElem?_range hi] at hk
      injection hk with hk
      subst hk
      exact (hq i hi).1
    · intro k hk
      obtain ⟨i, hi, rfl⟩ := List.mem_map.1 hk
      exact (hq i (List.mem_range.1 hi)).2
    · have := bulk_slice ((List.range len).map D) ((List.range (m - len)).map fun j => D (len + j))
      simpa using this
theorem world_flds : ∃ f0 f1 f2 f3 f4 f5 : Field, Tryz.prog.underlying 29 = some (.struct #[f0, f1, f2, f3, f4, f5]) ∧ f0.offset = 0 ∧ f0.type = 3 ∧ f1.offset = 1 ∧ f1.type = 3 ∧ f2.offset = 2 ∧ f2.type = 25 ∧ f3.offset = 6 ∧ f3.type = 23 ∧ f4.offset = 7 ∧ f4.type = 26 ∧ f5.offset = 8 ∧ f5.type = 27 := ⟨_, _, _, _, _, _, Tryz.underlying29, rfl, rfl, rfl, rfl, rfl, rfl, rfl, rfl, rfl, rfl, rfl, rfl⟩
theorem field_flds : ∃ f0 f1 f2 f3 : Field, Tryz.prog.underlying 25 = some (.struct #[f0, f1, f2, f3]) ∧ f0.offset = 0 ∧ f0.type = 3 ∧ f1.offset = 1 ∧ f1.type = 3 ∧ f2.offset = 2 ∧ f2.type = 23 ∧ f3.offset = 3 ∧ f3.type = 23 := ⟨_, _, _, _, Tryz.underlying25, rfl, rfl, rfl, rfl, rfl, rfl, rfl, rfl⟩
theorem ro_len {w : World} {v : Value} {xs : List Int} (h : Ro w v xs) : Wd.In64 (xs.length : Int) := by
  obtain ⟨a, c, -, h1, h2, -⟩ := h
  unfold Wd.In64; omega
set_option maxRecDepth 100000 in
theorem open_world64 {H : Type} {enc : TypeId × Value → H} {W : World} {base : Nat} {held : Bool} {fuel : Nat} {cs : List Value} {y : DataW H × List MemPlace} (h : DataW.trod enc Tryz.prog W base (fun _ => true) held fuel 29 cs = some y) :
    ∃ X : WV, Wl W (.agg cs.toArray) X ∧ (∀ n ∈ Wd.nums X, Wd.In64 n) ∧ (Rows.uptoBulk y.1 ≤ 1048576 → WSmall X) := by
  obtain ⟨f0, f1, f2, f3, f4, f5, he, o0, t0, o1, t1, o2, t2, o3, t3, o4, t4, o5, t5⟩ := world_flds
  obtain ⟨xs, m, -, rfl, hlen, hxl, hf⟩ := DataW.trod_struct he h
  have csi : Tryz.prog.cellsOf 3 = 1 := by kernel_rfl
  have csf : Tryz.prog.cellsOf 25 = 4 := by kernel_rfl
  have csl : Tryz.prog.cellsOf 23 = 1 := by kernel_rfl
  have csu : Tryz.prog.cellsOf 26 = 1 := by kernel_rfl
  have csj : Tryz.prog.cellsOf 27 = 1 := by kernel_rfl
  have csk : Tryz.prog.cellsOf 29 = 9 := by kernel_rfl
  rw [csk] at hlen
  match cs, hlen with
  | [v0, v1, v2, v3, v4, v5, v6, v7, v8], _ =>
    have hx : xs.length = 6 := hxl
    match xs, hx with
    | [x0, x1, x2, x3, x4, x5], _ =>
      have g0 := hf 0 f0 rfl
      rw [o0, t0, csi] at g0
      have g1 := hf 1 f1 rfl
      rw [o1, t1, csi] at g1
      have g2 := hf 2 f2 rfl
      rw [o2, t2, csf] at g2
      have g3 := hf 3 f3 rfl
      rw [o3, t3, csl] at g3
      have g4 := hf 4 f4 rfl
      rw [o4, t4, csu] at g4
      have g5 := hf 5 f5 rfl
      rw [o5, t5, csj] at g5
      obtain ⟨m0, e0, -, w0⟩ := DataW.trod_int Tryz.underlying3 g0
      obtain ⟨m1, e1, -, w1⟩ := DataW.trod_int Tryz.underlying3 g1
      obtain ⟨r0, r1, r2, r3, he', p0, s0, p1, s1, p2, s2, p3, s3⟩ := field_flds
      obtain ⟨ys, m', -, rfl, hlen', hyl, hg⟩ := DataW.trod_struct he' g2
      have hy : ys.length = 4 := hyl
      match ys, hy with
      | [y0, y1, y2, y3], _ =>
        have k0 := hg 0 r0 rfl
        rw [p0, s0, csi] at k0
        have k1 := hg 1 r1 rfl
        rw [p1, s1, csi] at k1
        have k2 := hg 2 r2 rfl
        rw [p2, s2, csl] at k2
        have k3 := hg 3 r3 rfl
        rw [p3, s3, csl] at k3
        obtain ⟨m2, e2, -, w2⟩ := DataW.trod_int Tryz.underlying3 k0
        obtain ⟨m3, e3, -, w3⟩ := DataW.trod_int Tryz.underlying3 k1
        simp at e0 e1 e2 e3
        subst e0 e1 e2 e3
        obtain ⟨gs, hgs, igs, bgs⟩ := open_row64 k2
        obtain ⟨os, hos, ios, bos⟩ := open_row64 k3
        obtain ⟨gold, hgold, igold, bgold⟩ := open_row64 g3
        obtain ⟨us, hus, ius, bus⟩ := open_uns64 g4
        obtain ⟨qs, hqs, iqs, bqs⟩ := open_jbs64 g5
        have lu : Wd.In64 (us.length : Int) := by
          obtain ⟨a, c, -, h1, h2, -⟩ := hus
          unfold Wd.In64; omega
        have lq : Wd.In64 (qs.length : Int) := by
          obtain ⟨a, c, -, h1, h2, -⟩ := hqs
          unfold Wd.In64; omega
        refine ⟨⟨m0, m1, m2, m3, gs, os, gold, us, qs⟩, ⟨_, _, _, _, _, rfl, hgs, hos, hgold, hus, hqs⟩, ?_, ?_⟩
        · intro n hn
          simp only [Wd.nums, List.mem_append, List.mem_cons, List.not_mem_nil, or_false, List.mem_flatMap] at hn
          rcases hn with (((((rfl | rfl | rfl | rfl) | (rfl | hn)) | (rfl | hn)) | (rfl | hn)) | (rfl | ⟨u, hu, hn⟩)) | (rfl | ⟨u, hu, hn⟩)
          · exact in64_of_wf w0
          · exact in64_of_wf w1
          · exact in64_of_wf w2
          · exact in64_of_wf w3
          · exact ro_len hgs
          · exact igs _ hn
          · exact ro_len hos
          · exact ios _ hn
          · exact ro_len hgold
          · exact igold _ hn
          · exact lu
          · exact ius u hu n hn
          · exact lq
          · exact iqs u hu n hn
        · intro hb
          simp only [Rows.uptoBulk, Rows.uptoBulkAll, List.map_cons, List.map_nil] at hb
          exact ⟨by simp only; omega, by simp only; omega, by simp only; omega, by simp only; omega, by simp only; omega⟩
set_option maxRecDepth 100000 in
theorem world_in {H : Type} {enc : TypeId × Value → H} {W : World} {base b0 : Nat} {held : Bool} {v : Value} {d : DataW H} {p : List MemPlace} (hv : Value.okWide Tryz.prog W .any b0 29 v) (h : DataW.Trod enc Tryz.prog W base (fun _ => true) held 29 v d p) :
    ∃ X : WV, Wl W v X ∧ (∀ n ∈ Wd.nums X, Wd.In64 n) ∧ (Rows.uptoBulk d ≤ 1048576 → WSmall X) := by
  obtain ⟨cs, rfl, hsz⟩ := okWide_struct Tryz.underlying29 hv
  obtain ⟨fuel, hf⟩ := h
  have := open_world64 hf
  simpa [Value.cells] using this
end Go.Proofs.YtagnjmellcibhaaGreatDoor

namespace Go.Proofs.YtagnjmellcibhaaGreatDoor
open Go.ChangeShapes Go.WideShapes Go.ChangeAt Go.RowKit
set_option linter.unusedVariables false

theorem kind_fields : ∃ f0 f1 f2 f3 f4 f5 f6 f7 f8 f9 f10 : Field, Tryz.prog.underlying 61 = some (.struct #[f0, f1, f2, f3, f4, f5, f6, f7, f8, f9, f10]) ∧
    f0.offset = 0 ∧ f0.type = 9 ∧ f1.offset = 1 ∧ f1.type = 3 ∧ f2.offset = 2 ∧ f2.type = 3 ∧ f3.offset = 3 ∧ f3.type = 3 ∧ f4.offset = 4 ∧ f4.type = 3 ∧ f5.offset = 5 ∧ f5.type = 3 ∧ f6.offset = 6 ∧ f6.type = 3 ∧ f7.offset = 7 ∧ f7.type = 3 ∧ f8.offset = 8 ∧ f8.type = 3 ∧ f9.offset = 9 ∧ f9.type = 4 ∧ f10.offset = 10 ∧ f10.type = 4 := ⟨_, _, _, _, _, _, _, _, _, _, _, Tryz.underlying61, rfl, rfl, rfl, rfl, rfl, rfl, rfl, rfl, rfl, rfl, rfl, rfl, rfl, rfl, rfl, rfl, rfl, rfl, rfl, rfl, rfl, rfl⟩


set_option maxRecDepth 100000 in
theorem open_kind {H : Type} {enc : TypeId × Value → H} {W : World} {base : Nat} {held : Bool} {fuel : Nat} {cs : List Value} {y : DataW H × List MemPlace} (h : DataW.trod enc Tryz.prog W base (fun _ => true) held fuel 61 cs = some y) :
    ∃ k : KV, cs = [.string k.b, .int .i64 k.n0, .int .i64 k.n1, .int .i64 k.n2, .int .i64 k.n3, .int .i64 k.n4, .int .i64 k.n5, .int .i64 k.n6, .int .i64 k.n7, .bool k.f, .bool k.t] ∧ k.b.size ≤ maxLen := by
  obtain ⟨f0, f1, f2, f3, f4, f5, f6, f7, f8, f9, f10, he, o0, t0, o1, t1, o2, t2, o3, t3, o4, t4, o5, t5, o6, t6, o7, t7, o8, t8, o9, t9, o10, t10⟩ := kind_fields
  obtain ⟨xs, n, -, -, hlen, hxl, hf⟩ := DataW.trod_struct he h
  have cs9 : Tryz.prog.cellsOf 9 = 1 := by kernel_rfl
  have cs3 : Tryz.prog.cellsOf 3 = 1 := by kernel_rfl
  have cs4 : Tryz.prog.cellsOf 4 = 1 := by kernel_rfl
  have csk : Tryz.prog.cellsOf 61 = 11 := by kernel_rfl
  rw [csk] at hlen
  match cs, hlen with
  | [v0, v1, v2, v3, v4, v5, v6, v7, v8, v9, v10], _ =>
    have hx11 : xs.length = 11 := hxl
    match xs, hx11 with
    | [x0, x1, x2, x3, x4, x5, x6, x7, x8, x9, x10], _ =>
      have g0 := hf 0 f0 rfl
      rw [o0, t0, cs9] at g0
      have g1 := hf 1 f1 rfl
      rw [o1, t1, cs3] at g1
      have g2 := hf 2 f2 rfl
      rw [o2, t2, cs3] at g2
      have g3 := hf 3 f3 rfl
      rw [o3, t3, cs3] at g3
      have g4 := hf 4 f4 rfl
      rw [o4, t4, cs3] at g4
      have g5 := hf 5 f5 rfl
      rw [o5, t5, cs3] at g5
      have g6 := hf 6 f6 rfl
      rw [o6, t6, cs3] at g6
      have g7 := hf 7 f7 rfl
      rw [o7, t7, cs3] at g7
      have g8 := hf 8 f8 rfl
      rw [o8, t8, cs3] at g8
      have g9 := hf 9 f9 rfl
      rw [o9, t9, cs4] at g9
      have g10 := hf 10 f10 rfl
      rw [o10, t10, cs4] at g10
      obtain ⟨b, e0, -, hb⟩ := DataW.trod_string Tryz.underlying9 g0
      obtain ⟨m1, e1, -, -⟩ := DataW.trod_int Tryz.underlying3 g1
      obtain ⟨m2, e2, -, -⟩ := DataW.trod_int Tryz.underlying3 g2
      obtain ⟨m3, e3, -, -⟩ := DataW.trod_int Tryz.underlying3 g3
      obtain ⟨m4, e4, -, -⟩ := DataW.trod_int Tryz.underlying3 g4
      obtain ⟨m5, e5, -, -⟩ := DataW.trod_int Tryz.underlying3 g5
      obtain ⟨m6, e6, -, -⟩ := DataW.trod_int Tryz.underlying3 g6
      obtain ⟨m7, e7, -, -⟩ := DataW.trod_int Tryz.underlying3 g7
      obtain ⟨m8, e8, -, -⟩ := DataW.trod_int Tryz.underlying3 g8
      obtain ⟨bf, e9, -⟩ := DataW.trod_bool Tryz.underlying4 g9
      obtain ⟨bt, e10, -⟩ := DataW.trod_bool Tryz.underlying4 g10
      simp at e0 e1 e2 e3 e4 e5 e6 e7 e8 e9 e10
      subst e0 e1 e2 e3 e4 e5 e6 e7 e8 e9 e10
      exact ⟨⟨b, m1, m2, m3, m4, m5, m6, m7, m8, bf, bt⟩, rfl, hb⟩

/-- kinds that came in. -/
theorem open_kinds {H : Type} {enc : TypeId × Value → H} {W : World} {base : Nat} {held : Bool} {fuel : Nat} {v : Value} {y : DataW H × List MemPlace} (h : DataW.trod enc Tryz.prog W base (fun _ => true) held fuel 22 [v] = some y) :
    ∃ ks : List KV, Kl W v ks ∧ ∀ k ∈ ks, k.b.size ≤ maxLen := by
  have csk : Tryz.prog.cellsOf 61 = 11 := by kernel_rfl
  rcases Go.Deep.open_slice Tryz.underlying22 h with ⟨hcs, -⟩ | ⟨a, len, cap, m, n, D, Pl, hcs, hb, hl, hm, hmm, -, hx⟩
  · simp at hcs
    subst hcs
    exact ⟨[], ⟨none, 0, rfl, Nat.le_refl _, by omega, fun h => absurd rfl h⟩, by simp⟩
  · simp at hcs
    subst hcs
    have hlm : len ≤ m := by rw [hmm]; simp; exact hl
    have each : ∀ i, i < len → ∃ k : KV, Kc W (a.add (i * 11)) k ∧ k.b.size ≤ maxLen := by
      intro i hi
      obtain ⟨cs', h1, h2⟩ := hx i (by omega)
      obtain ⟨k, rfl, hk⟩ := open_kind h2
      rw [csk] at h1
      obtain ⟨-, -, hcell⟩ := World.cells?_some h1
      refine ⟨k, ?_, hk⟩
      generalize a.add (i * 11) = y at *
      exact ⟨hcell 0 (by decide), hcell 1 (by decide), hcell 2 (by decide), hcell 3 (by decide), hcell 4 (by decide), hcell 5 (by decide), hcell 6 (by decide), hcell 7 (by decide), hcell 8 (by decide), hcell 9 (by decide), hcell 10 (by decide)⟩
    have inh : Inhabited KV := ⟨⟨ByteArray.empty, 0, 0, 0, 0, 0, 0, 0, 0, false, false⟩⟩
    obtain ⟨q, hq⟩ := Go.Deep.choose_lt each
    refine ⟨(List.range len).map q, ⟨some a, cap, by simp, by simpa using hl, by unfold maxLen at hm; omega, fun hn => ⟨a, rfl, ?_, fun i k hk => ?_⟩⟩, ?_⟩
    · have h0 : 0 < len := by
        rcases Nat.eq_zero_or_pos len with h | h
        · subst h; simp at hn
        · exact h
      have := (hq 0 h0).1.lt
      rwa [add_block] at this
    · have hi : i < len := by
        have := (List.getElem?_eq_some_iff.1 hk).1
        simpa using this
      rw [List.getElem?_map, List.getElem?_range hi] at hk
      injection hk with hk
      subst hk
      exact (hq i hi).1
    · intro k hk
      obtain ⟨i, hi, rfl⟩ := List.mem_map.1 hk
      exact (hq i (List.mem_range.1 hi)).2
set_option maxRecDepth 100000 in
theorem kinds_in {H : Type} {enc : TypeId × Value → H} {W : World} {base b0 : Nat} {held : Bool} {v : Value} {d : DataW H} {p : List MemPlace} (hv : Value.okWide Tryz.prog W .any b0 22 v) (h : DataW.Trod enc Tryz.prog W base (fun _ => true) held 22 v d p) :
    ∃ ks : List KV, Kl W v ks ∧ ∀ k ∈ ks, k.b.size ≤ maxLen := by
  obtain ⟨a, len, cap, rfl⟩ := okWide_slice Tryz.underlying22 hv
  obtain ⟨fuel, hf⟩ := h
  exact open_kinds hf
end Go.Proofs.YtagnjmellcibhaaGreatDoor

namespace Go.Proofs.YtagnjmellcibhaaGreatDoor.moveGoes
open Go.RowKit
set_option linter.unusedVariables false

theorem tar_bad {ks : List KV} {X : WV} {i t F f : Int} (hf : Wd.wfault ks X = f) (hn : f ≠ 0) (h : WisSays ks X i t F) : F = f ∧ t = 0 := by
  rcases h with ⟨-, h1, h2⟩ | ⟨h, -⟩ | ⟨h, -⟩
  · exact ⟨h1.trans hf, h2⟩
  · exact absurd (hf.symm.trans h) hn
  · exact absurd (hf.symm.trans h) hn
theorem tar_out {ks : List KV} {X : WV} {i t F : Int} (hf : Wd.wfault ks X = 0) (hn : ¬ (0 ≤ i ∧ i < (X.us.length : Int))) (h : WisSays ks X i t F) : F = 6 ∧ t = 0 := by
  rcases h with ⟨h, -⟩ | ⟨-, -, h1, h2⟩ | ⟨-, -, n, cn, Wn, Hn, u, k, rfl, -, hu, -⟩
  · exact absurd hf h
  · exact ⟨h1, h2⟩
  · have := (List.getElem?_eq_some_iff.1 hu).1
    exact absurd ⟨by omega, by omega⟩ hn
theorem tar_in {ks : List KV} {X : WV} {n Wn Hn : Nat} {u : UnV} {k : KV} {t F : Int} (hf : Wd.wfault ks X = 0) (hu : X.us[n]? = some u) (hk : ks[u.kind.toNat]? = some k) (hw : X.wide = (Wn : Nat)) (hh : X.high = (Hn : Nat)) (h : WisSays ks X (n : Nat) t F) : F = 0 ∧ ∃ c : Nat, t = c ∧ WishSays ks X Wn Hn u k c := by
  rcases h with ⟨h, -⟩ | ⟨-, h, -⟩ | ⟨-, h1, m, cn, Wm, Hm, u', k', hm, ht, hu', hw', hh', -, hk', hW, -⟩
  · exact absurd hf h
  · have := (List.getElem?_eq_some_iff.1 hu).1
    exact absurd ⟨by omega, by omega⟩ h
  · obtain rfl : n = m := by omega
    obtain rfl : Wn = Wm := by omega
    obtain rfl : Hn = Hm := by omega
    rw [hu] at hu'
    cases hu'
    rw [hk] at hk'
    cases hk'
    exact ⟨h1, cn, ht, hW⟩
set_option maxRecDepth 100000 in
set_option maxHeartbeats 16000000 in
theorem walk (vk : Value) (ks : List KV) (vw : Value) (X : WV) (i : Int) (w : World)
    (h0 : Kl w vk ks ∧ ∀ k ∈ ks, k.b.size ≤ maxLen) (h1 : Wl w vw X ∧ ∀ n ∈ Wd.nums X, Wd.In64 n) (h2 : (Lit.int .i64 i).wf = true) (hg : Et w) (hsd : Sd w) :
    Calls Tryz.prog 5 #[vk, vw, .int .i64 i] w fun e w' => e = .returned (.bool true) ∧ Below w.heap.size w w' := by
  have K : Hid (Kl w vk ks ∧ ∀ k ∈ ks, k.b.size ≤ 9223372036854775807) := ⟨h0.1, fun k hk => by have := h0.2 k hk; unfold maxLen at this; omega⟩
  have H : Hid (Wl w vw X) := h1.1
  have HG : Hid (Et w) := hg
  have S : Hid (Sd w) := hsd
  obtain ⟨p1, q1, p2, q2, p3, q3, p4, q4, p5, q5, rfl⟩ := wl_shape9 h1.1
  obtain ⟨pk, qk, rfl, -⟩ := h0.1
  clear h0 h1 hg h2 hsd
  go_enter Tryz.func5, Tryz.ntmps5
  go_upto_region 1 with fail
  have B0 : Hid (Below w.heap.size w (w.alloc (Obj.cells #[.int .i64 X.turn, .int .i64 X.next, .int .i64 X.wide, .int .i64 X.high, .slice p1 X.gs.length q1, .slice p2 X.os.length q2, .slice p3 X.gold.length q3, .slice p4 X.us.length q4, .slice p5 X.qs.length q5] 29))) := (Below.refl _ _).alloc (Nat.le_refl _) _
  have X0 : Hid (Bw (w.alloc (Obj.cells #[.int .i64 X.turn, .int .i64 X.next, .int .i64 X.wide, .int .i64 X.high, .slice p1 X.gs.length q1, .slice p2 X.os.length q2, .slice p3 X.gold.length q3, .slice p4 X.us.length q4, .slice p5 X.qs.length q5] 29)) w.heap.size X (.slice p1 X.gs.length q1) (.slice p2 X.os.length q2) (.slice p3 X.gold.length q3) (.slice p4 X.us.length q4) (.slice p5 X.qs.length q5)) := Bw.mk' X _ _ _ _ _ rfl
  generalize (w.alloc (Obj.cells #[.int .i64 X.turn, .int .i64 X.next, .int .i64 X.wide, .int .i64 X.high, .slice p1 X.gs.length q1, .slice p2 X.os.length q2, .slice p3 X.gold.length q3, .slice p4 X.us.length q4, .slice p5 X.qs.length q5] 29)) = w0 at *
  obtain ⟨x0, x1, x2, x3, x4, x5, x6, x7, x8⟩ := X0.out
  go_wp2_with fail
  refine (rcheck_any _ _ ks X w0 (K.out.1.below B0.out) K.out.2 (H.out.below B0.out)).mono ?_
  rintro e w1 ⟨f, rfl, hf, hb⟩
  have HF : Hid (Wd.wfault ks X = f) := hf.symm
  have B1 : Hid (Below w.heap.size w w1) := B0.out.trans (hb.mono B0.out.size)
  have X1 : Hid (Bw w1 w.heap.size X (.slice p1 X.gs.length q1) (.slice p2 X.os.length q2) (.slice p3 X.gold.length q3) (.slice p4 X.us.length q4) (.slice p5 X.qs.length q5)) := X0.out.below hb X0.out.lt
  clear hf hb X0 B0 x0 x1 x2 x3 x4 x5 x6 x7 x8
  go_upto_region 4 with fail
  have BA : Hid (Below w1.heap.size w1 (w1.alloc (Obj.cells #[.int .i64 0, .int .i64 0, .int .i64 0, .int .i64 0, .slice none 0 0, .slice none 0 0, .slice none 0 0, .slice none 0 0, .slice none 0 0] 29))) := (Below.refl _ _).alloc (Nat.le_refl _) _
  obtain ⟨bz, hbz⟩ : ∃ z, w1.heap.size = z := ⟨_, rfl⟩
  have Z2 : Hid (Wx (w1.alloc (Obj.cells #[.int .i64 0, .int .i64 0, .int .i64 0, .int .i64 0, .slice none 0 0, .slice none 0 0, .slice none 0 0, .slice none 0 0, .slice none 0 0] 29)) bz (.int .i64 0) (.int .i64 0) (.int .i64 0) (.int .i64 0) (.slice none 0 0) (.slice none 0 0) (.slice none 0 0) (.slice none 0 0) (.slice none 0 0)) := Wx.new _ _ _ _ _ _ _ _ _ hbz
  rw [hbz]
  generalize (w1.alloc (Obj.cells #[.int .i64 0, .int .i64 0, .int .i64 0, .int .i64 0, .slice none 0 0, .slice none 0 0, .slice none 0 0, .slice none 0 0, .slice none 0 0] 29)) = w2 at *
  have B2 : Hid (Below w.heap.size w w2) := B1.out.trans (BA.out.mono B1.out.size)
  have X2 : Hid (Bw w2 w.heap.size X (.slice p1 X.gs.length q1) (.slice p2 X.os.length q2) (.slice p3 X.gold.length q3) (.slice p4 X.us.length q4) (.slice p5 X.qs.length q5)) := X1.out.below BA.out X1.out.lt
  have NZ : Hid (w.heap.size < bz) := by have := X1.out.lt; unfold Hid; omega
  clear hbz BA B1 X1
  by_cases hf0 : f = 0
  case neg =>
    have HN : Hid (f ≠ 0) := hf0
    have hf1 : (f == 0) = false := by rw [beq_eq_false_iff_ne]; exact hf0
    obtain ⟨x0, x1, x2, x3, x4, x5, x6, x7, x8⟩ := X2.out
    go_wp2_with fail
    refine (Move_any _ _ ks X w2 (K.out.1.below B2.out) K.out.2 (H.out.below B2.out) (S.out.below B2.out)).mono ?_
    rintro e w3 ⟨v3, ev3, r3, rfl, hr, hy, hb⟩
    rw [HF.out] at hr
    have EV3 : Hid (Er r3 f) := hr
    have B3 : Hid (Below w.heap.size w w3) := B2.out.trans (hb.mono B2.out.size)
    have X3 : Hid (Bw w3 w.heap.size X (.slice p1 X.gs.length q1) (.slice p2 X.os.length q2) (.slice p3 X.gold.length q3) (.slice p4 X.us.length q4) (.slice p5 X.qs.length q5)) := X2.out.below hb X2.out.lt
    have Z3 : Hid (Wx w3 bz (.int .i64 0) (.int .i64 0) (.int .i64 0) (.int .i64 0) (.slice none 0 0) (.slice none 0 0) (.slice none 0 0) (.slice none 0 0) (.slice none 0 0)) := Z2.out.below hb Z2.out.lt

    clear hr hb x0 x1 x2 x3 x4 x5 x6 x7 x8 X2 B2 Z2
    obtain ⟨hv3, he3⟩ : v3 = .agg #[.int .i64 0, .int .i64 0, .int .i64 0, .int .i64 0, .slice none 0 0, .slice none 0 0, .slice none 0 0, .slice none 0 0, .slice none 0 0] ∧ ev3 = .slice none 0 0 := by
      rcases hy with ⟨-, h1, h2⟩ | ⟨h, -⟩
      · exact ⟨h1, h2⟩
      · rw [HF.out] at h; exact absurd h HN.out
    subst hv3
    subst he3
    clear hy
    obtain ⟨Y, hY⟩ : ∃ Y, WV.zero = Y := ⟨_, rfl⟩
    obtain ⟨es, hes⟩ : ∃ l : List EvV, [] = l := ⟨_, rfl⟩
    have L3 : Hid (Wl w3 (.agg #[.int .i64 0, .int .i64 0, .int .i64 0, .int .i64 0, .slice none 0 0, .slice none 0 0, .slice none 0 0, .slice none 0 0, .slice none 0 0]) Y ∧ Wl w3 (.agg #[.int .i64 0, .int .i64 0, .int .i64 0, .int .i64 0, .slice none 0 0, .slice none 0 0, .slice none 0 0, .slice none 0 0, .slice none 0 0]) Y ∧ Evl w3 (.slice none 0 0) es ∧ Evl w3 (.slice none 0 0) es) := by
      rw [← hY, ← hes]
      exact ⟨(zero_wo w3 0).l, (zero_wo w3 0).l, (Evo.nil w3 0).l, (Evo.nil w3 0).l⟩
    clear hY hes
    go_upto_region 7 with fail
    have BA : Hid (Below w3.heap.size w3 (w3.alloc (Obj.cells #[.int .i64 0, .int .i64 0, .int .i64 0, .int .i64 0, .slice none 0 0, .slice none 0 0, .slice none 0 0, .slice none 0 0, .slice none 0 0] 29))) := (Below.refl _ _).alloc (Nat.le_refl _) _
    obtain ⟨bq, hbq⟩ : ∃ z, w3.heap.size = z := ⟨_, rfl⟩
    have Q4 : Hid (Wx (w3.alloc (Obj.cells #[.int .i64 0, .int .i64 0, .int .i64 0, .int .i64 0, .slice none 0 0, .slice none 0 0, .slice none 0 0, .slice none 0 0, .slice none 0 0] 29)) bq (.int .i64 0) (.int .i64 0) (.int .i64 0) (.int .i64 0) (.slice none 0 0) (.slice none 0 0) (.slice none 0 0) (.slice none 0 0) (.slice none 0 0)) := Wx.new _ _ _ _ _ _ _ _ _ hbq
    rw [hbq]
    generalize (w3.alloc (Obj.cells #[.int .i64 0, .int .i64 0, .int .i64 0, .int .i64 0, .slice none 0 0, .slice none 0 0, .slice none 0 0, .slice none 0 0, .slice none 0 0] 29)) = w4 at *
    have B4 : Hid (Below w.heap.size w w4) := B3.out.trans (BA.out.mono B3.out.size)
    have X4 : Hid (Bw w4 w.heap.size X (.slice p1 X.gs.length q1) (.slice p2 X.os.length q2) (.slice p3 X.gold.length q3) (.slice p4 X.us.length q4) (.slice p5 X.qs.length q5)) := X3.out.below BA.out X3.out.lt
    have Z4 : Hid (Wx w4 bz (.int .i64 0) (.int .i64 0) (.int .i64 0) (.int .i64 0) (.slice none 0 0) (.slice none 0 0) (.slice none 0 0) (.slice none 0 0) (.slice none 0 0)) := Z3.out.below BA.out Z3.out.lt
    have L4 : Hid (Wl w4 (.agg #[.int .i64 0, .int .i64 0, .int .i64 0, .int .i64 0, .slice none 0 0, .slice none 0 0, .slice none 0 0, .slice none 0 0, .slice none 0 0]) Y ∧ Wl w4 (.agg #[.int .i64 0, .int .i64 0, .int .i64 0, .int .i64 0, .slice none 0 0, .slice none 0 0, .slice none 0 0, .slice none 0 0, .slice none 0 0]) Y ∧ Evl w4 (.slice none 0 0) es ∧ Evl w4 (.slice none 0 0) es) := ⟨L3.out.1.below BA.out, L3.out.2.1.below BA.out, L3.out.2.2.1.below BA.out, L3.out.2.2.2.below BA.out⟩
    clear hbq BA B3 X3 Z3 L3
    go_wp2_with fail
    refine (er_same _ _ w4 EV3.out (HG.out.below B4.out)).mono ?_
    rintro e w5 ⟨rfl, hb⟩
    have B5 : Hid (Below w.heap.size w w5) := B4.out.trans (hb.mono B4.out.size)
    have X5 : Hid (Bw w5 w.heap.size X (.slice p1 X.gs.length q1) (.slice p2 X.os.length q2) (.slice p3 X.gold.length q3) (.slice p4 X.us.length q4) (.slice p5 X.qs.length q5)) := X4.out.below hb X4.out.lt
    have Z5 : Hid (Wx w5 bz (.int .i64 0) (.int .i64 0) (.int .i64 0) (.int .i64 0) (.slice none 0 0) (.slice none 0 0) (.slice none 0 0) (.slice none 0 0) (.slice none 0 0)) := Z4.out.below hb Z4.out.lt
    have Q5 : Hid (Wx w5 bq (.int .i64 0) (.int .i64 0) (.int .i64 0) (.int .i64 0) (.slice none 0 0) (.slice none 0 0) (.slice none 0 0) (.slice none 0 0) (.slice none 0 0)) := Q4.out.below hb Q4.out.lt
    have L5 : Hid (Wl w5 (.agg #[.int .i64 0, .int .i64 0, .int .i64 0, .int .i64 0, .slice none 0 0, .slice none 0 0, .slice none 0 0, .slice none 0 0, .slice none 0 0]) Y ∧ Wl w5 (.agg #[.int .i64 0, .int .i64 0, .int .i64 0, .int .i64 0, .slice none 0 0, .slice none 0 0, .slice none 0 0, .slice none 0 0, .slice none 0 0]) Y ∧ Evl w5 (.slice none 0 0) es ∧ Evl w5 (.slice none 0 0) es) := ⟨L4.out.1.below hb, L4.out.2.1.below hb, L4.out.2.2.1.below hb, L4.out.2.2.2.below hb⟩
    clear hb B4 X4 Z4 Q4 L4
    obtain ⟨z0, z1, z2, z3, z4, z5, z6, z7, z8⟩ := Z5.out.cells
    obtain ⟨y0, y1, y2, y3, y4, y5, y6, y7, y8⟩ := Q5.out.cells
    go_wp2_with fail
    refine (worlds_like _ _ Y w5 L5.out.1 L5.out.2.1).mono ?_
    rintro e w6 ⟨rfl, hb⟩
    have B6 : Hid (Below w.heap.size w w6) := B5.out.trans (hb.mono B5.out.size)
    have X6 : Hid (Bw w6 w.heap.size X (.slice p1 X.gs.length q1) (.slice p2 X.os.length q2) (.slice p3 X.gold.length q3) (.slice p4 X.us.length q4) (.slice p5 X.qs.length q5)) := X5.out.below hb X5.out.lt
    have L6 : Hid (Evl w6 (.slice none 0 0) es ∧ Evl w6 (.slice none 0 0) es) := ⟨L5.out.2.2.1.below hb, L5.out.2.2.2.below hb⟩
    clear hb z0 z1 z2 z3 z4 z5 z6 z7 z8 y0 y1 y2 y3 y4 y5 y6 y7 y8 B5 X5 Z5 Q5 L5
    go_wp2_with fail
    refine (events_like _ _ es w6 L6.out.1 L6.out.2).mono ?_
    rintro e w8 ⟨rfl, hb⟩
    have B8 : Hid (Below w.heap.size w w8) := B6.out.trans (hb.mono B6.out.size)
    have X8 : Hid (Bw w8 w.heap.size X (.slice p1 X.gs.length q1) (.slice p2 X.os.length q2) (.slice p3 X.gold.length q3) (.slice p4 X.us.length q4) (.slice p5 X.qs.length q5)) := X6.out.below hb X6.out.lt
    clear hb B6 X6 L6
    obtain ⟨x0, x1, x2, x3, x4, x5, x6, x7, x8⟩ := X8.out
    go_wp2_with fail
    refine (Wish_any _ _ ks X _ w8 (K.out.1.below B8.out) K.out.2 (H.out.below B8.out) (S.out.below B8.out)).mono ?_
    rintro e w9 ⟨t, r9, F, rfl, hr, hy, hb⟩
    obtain ⟨e1, e2⟩ := tar_bad HF.out HN.out hy
    rw [e1] at hr
    rw [e2]
    have EV9 : Hid (Er r9 f) := hr
    have B9 : Hid (Below w.heap.size w w9) := B8.out.trans (hb.mono B8.out.size)
    clear e1 e2 hr hy hb x0 x1 x2 x3 x4 x5 x6 x7 x8 X8 B8
    go_wp2_with fail
    refine (er_same _ _ w9 EV9.out (HG.out.below B9.out)).mono ?_
    rintro e w10 ⟨rfl, hb⟩
    have B10 : Hid (Below w.heap.size w w10) := B9.out.trans (hb.mono B9.out.size)
    clear hb
    go_wp2
    go_ret
    exact ⟨rfl, B10.out⟩
  subst hf0
  have WR : Hid (WRight ks X) := wright_of HF.out
  obtain ⟨Wn, Hn, e1, e2, G, us', evs, hm⟩ : ∃ Wn Hn : Nat, X.wide = (Wn : Nat) ∧ X.high = (Hn : Nat) ∧ Fd.Good Wn Hn X.gs X.os ∧ ∃ us' evs, Moves ks X Wn Hn 0 X.us evs us' := by
    obtain ⟨e0, v0, -, ⟨va, vb, vc, -, -, hy0, -⟩, -⟩ := (Move_any _ _ ks X w2 (K.out.1.below B2.out) K.out.2 (H.out.below B2.out) (S.out.below B2.out)) []
    rcases hy0 with ⟨h, -⟩ | ⟨-, Wn, Hn, h1, h2, h3, us', evs, h4, -⟩
    · exact absurd HF.out h
    · exact ⟨Wn, Hn, h1, h2, h3, us', evs, h4⟩
  have GD : Hid (X.wide = (Wn : Nat)) := e1
  have GH : Hid (X.high = (Hn : Nat) ∧ Fd.Good Wn Hn X.gs X.os) := ⟨e2, G⟩
  have MV : Hid (Moves ks X Wn Hn 0 X.us evs us') := hm
  clear e1 e2 G hm
  obtain ⟨Y, hY⟩ : ∃ Y, ({ X with us := us' } : WV) = Y := ⟨_, rfl⟩
  obtain ⟨es, hes⟩ : ∃ l, evs = l := ⟨_, rfl⟩
  have FY : Hid (({ X with us := us' } : WV) = Y ∧ evs = es) := ⟨hY, hes⟩
  clear hY hes
  obtain ⟨x0, x1, x2, x3, x4, x5, x6, x7, x8⟩ := X2.out
  go_wp2_with fail
  refine (rmove_any _ _ ks X Wn Hn us' evs w2 (K.out.1.below B2.out) (H.out.below B2.out) WR.out GH.out.2 GD.out GH.out.1 MV.out).mono ?_
  rintro e wf ⟨vf, ev2, rfl, hw, he, hb⟩
  rw [FY.out.1] at hw
  rw [FY.out.2] at he
  obtain ⟨g1, g2, g3, g4, g5, hvf, o1, o2, o3, o4, o5⟩ := hw
  subst hvf
  obtain ⟨m1, n1, rfl⟩ := o1.len
  obtain ⟨m2, n2, rfl⟩ := o2.len
  obtain ⟨m3, n3, rfl⟩ := o3.len
  obtain ⟨m4, n4, rfl⟩ := o4.len
  obtain ⟨m5, n5, rfl⟩ := o5.len
  have OW : Hid (Ow wf w2.heap.size (.slice m1 Y.gs.length n1) Y.gs ∧ Ow wf w2.heap.size (.slice m2 Y.os.length n2) Y.os ∧ Ow wf w2.heap.size (.slice m3 Y.gold.length n3) Y.gold ∧ Uno wf w2.heap.size (.slice m4 Y.us.length n4) Y.us ∧ Jbo wf w2.heap.size (.slice m5 Y.qs.length n5) Y.qs ∧ Evo wf w2.heap.size ev2 es) := ⟨o1, o2, o3, o4, o5, he⟩
  have Bf : Hid (Below w.heap.size w wf) := B2.out.trans (hb.mono B2.out.size)
  have Xf : Hid (Bw wf w.heap.size X (.slice p1 X.gs.length q1) (.slice p2 X.os.length q2) (.slice p3 X.gold.length q3) (.slice p4 X.us.length q4) (.slice p5 X.qs.length q5)) := X2.out.below hb X2.out.lt
  have Zf : Hid (Wx wf bz (.int .i64 0) (.int .i64 0) (.int .i64 0) (.int .i64 0) (.slice none 0 0) (.slice none 0 0) (.slice none 0 0) (.slice none 0 0) (.slice none 0 0)) := Z2.out.below hb Z2.out.lt
  have ZL : Hid (bz < w2.heap.size) := Z2.out.lt
  clear hb o1 o2 o3 o4 o5 he x0 x1 x2 x3 x4 x5 x6 x7 x8 B2 X2 Z2
  obtain ⟨z0, z1, z2, z3, z4, z5, z6, z7, z8⟩ := Zf.out.cells
  obtain ⟨t0, t1, t2, t3, t4, t5, t6, t7, t8⟩ := Zf.out.thaws
  have KZ : Hid (Kp bz wf (((((((((wf.setCell ⟨bz, 0, none⟩ (.int .i64 Y.turn)).setCell ⟨bz, 1, none⟩ (.int .i64 Y.next)).setCell ⟨bz, 2, none⟩ (.int .i64 Y.wide)).setCell ⟨bz, 3, none⟩ (.int .i64 Y.high)).setCell ⟨bz, 4, none⟩ (.slice m1 Y.gs.length n1)).setCell ⟨bz, 5, none⟩ (.slice m2 Y.os.length n2)).setCell ⟨bz, 6, none⟩ (.slice m3 Y.gold.length n3)).setCell ⟨bz, 7, none⟩ (.slice m4 Y.us.length n4)).setCell ⟨bz, 8, none⟩ (.slice m5 Y.qs.length n5))) := put_kp _ _ _ _ _ _ _ _ _ _ _
  have Zg : Hid (Wx (((((((((wf.setCell ⟨bz, 0, none⟩ (.int .i64 Y.turn)).setCell ⟨bz, 1, none⟩ (.int .i64 Y.next)).setCell ⟨bz, 2, none⟩ (.int .i64 Y.wide)).setCell ⟨bz, 3, none⟩ (.int .i64 Y.high)).setCell ⟨bz, 4, none⟩ (.slice m1 Y.gs.length n1)).setCell ⟨bz, 5, none⟩ (.slice m2 Y.os.length n2)).setCell ⟨bz, 6, none⟩ (.slice m3 Y.gold.length n3)).setCell ⟨bz, 7, none⟩ (.slice m4 Y.us.length n4)).setCell ⟨bz, 8, none⟩ (.slice m5 Y.qs.length n5)) bz (.int .i64 Y.turn) (.int .i64 Y.next) (.int .i64 Y.wide) (.int .i64 Y.high) (.slice m1 Y.gs.length n1) (.slice m2 Y.os.length n2) (.slice m3 Y.gold.length n3) (.slice m4 Y.us.length n4) (.slice m5 Y.qs.length n5)) := Zf.out.put (.int .i64 Y.turn) (.int .i64 Y.next) (.int .i64 Y.wide) (.int .i64 Y.high) (.slice m1 Y.gs.length n1) (.slice m2 Y.os.length n2) (.slice m3 Y.gold.length n3) (.slice m4 Y.us.length n4) (.slice m5 Y.qs.length n5)
  go_upto_region 6 with fail
  clear z0 z1 z2 z3 z4 z5 z6 z7 z8 t0 t1 t2 t3 t4 t5 t6 t7 t8
  generalize (((((((((wf.setCell ⟨bz, 0, none⟩ (.int .i64 Y.turn)).setCell ⟨bz, 1, none⟩ (.int .i64 Y.next)).setCell ⟨bz, 2, none⟩ (.int .i64 Y.wide)).setCell ⟨bz, 3, none⟩ (.int .i64 Y.high)).setCell ⟨bz, 4, none⟩ (.slice m1 Y.gs.length n1)).setCell ⟨bz, 5, none⟩ (.slice m2 Y.os.length n2)).setCell ⟨bz, 6, none⟩ (.slice m3 Y.gold.length n3)).setCell ⟨bz, 7, none⟩ (.slice m4 Y.us.length n4)).setCell ⟨bz, 8, none⟩ (.slice m5 Y.qs.length n5)) = wg at *
  have Bg : Hid (Below w.heap.size w wg) := KZ.out.below Bf.out Bf.out.size (by have := NZ.out; omega)
  have Xg : Hid (Bw wg w.heap.size X (.slice p1 X.gs.length q1) (.slice p2 X.os.length q2) (.slice p3 X.gold.length q3) (.slice p4 X.us.length q4) (.slice p5 X.qs.length q5)) := Xf.out.kp9 KZ.out (by have := NZ.out; omega)
  have Lg : Hid (Wl wg (.agg #[.int .i64 Y.turn, .int .i64 Y.next, .int .i64 Y.wide, .int .i64 Y.high, .slice m1 Y.gs.length n1, .slice m2 Y.os.length n2, .slice m3 Y.gold.length n3, .slice m4 Y.us.length n4, .slice m5 Y.qs.length n5]) Y ∧ Evl wg ev2 es) := ⟨⟨_, _, _, _, _, rfl, (OW.out.1.kp KZ.out ZL.out).ro, (OW.out.2.1.kp KZ.out ZL.out).ro, (OW.out.2.2.1.kp KZ.out ZL.out).ro, (OW.out.2.2.2.1.kp KZ.out ZL.out).l, (OW.out.2.2.2.2.1.kp KZ.out ZL.out).l⟩, (OW.out.2.2.2.2.2.kp9 KZ.out ZL.out).l⟩
  clear OW Bf Xf Zf KZ ZL
  have f := (0 : Int)
  clear f
  obtain ⟨f, hf⟩ : ∃ f : Int, 0 = f := ⟨_, rfl⟩
  have B2 := Bg
  have X2 := Xg
  have Z2 := Zg
  have L2 := Lg
  clear Bg Xg Zg Lg hf f
  generalize wg = w2 at *
  obtain ⟨x0, x1, x2, x3, x4, x5, x6, x7, x8⟩ := X2.out
  go_wp2_with fail
  refine (Move_any _ _ ks X w2 (K.out.1.below B2.out) K.out.2 (H.out.below B2.out) (S.out.below B2.out)).mono ?_
  rintro e w3 ⟨v3, ev3, r3, rfl, hr, hy, hb⟩
  rw [HF.out] at hr
  have EV3 : Hid (Er r3 0) := hr
  have B3 : Hid (Below w.heap.size w w3) := B2.out.trans (hb.mono B2.out.size)
  have X3 : Hid (Bw w3 w.heap.size X (.slice p1 X.gs.length q1) (.slice p2 X.os.length q2) (.slice p3 X.gold.length q3) (.slice p4 X.us.length q4) (.slice p5 X.qs.length q5)) := X2.out.below hb X2.out.lt
  have Z3 : Hid (Wx w3 bz (.int .i64 Y.turn) (.int .i64 Y.next) (.int .i64 Y.wide) (.int .i64 Y.high) (.slice m1 Y.gs.length n1) (.slice m2 Y.os.length n2) (.slice m3 Y.gold.length n3) (.slice m4 Y.us.length n4) (.slice m5 Y.qs.length n5)) := Z2.out.below hb Z2.out.lt
  have L3 : Hid (Wl w3 (.agg #[.int .i64 Y.turn, .int .i64 Y.next, .int .i64 Y.wide, .int .i64 Y.high, .slice m1 Y.gs.length n1, .slice m2 Y.os.length n2, .slice m3 Y.gold.length n3, .slice m4 Y.us.length n4, .slice m5 Y.qs.length n5]) Y ∧ Evl w3 ev2 es) := ⟨L2.out.1.below hb, L2.out.2.below hb⟩
  clear L2
  clear hr hb x0 x1 x2 x3 x4 x5 x6 x7 x8 X2 B2 Z2
  have R3 : Hid (Wl w3 v3 Y ∧ Evl w3 ev3 es) := by
    rcases hy with ⟨h, -⟩ | ⟨-, Wm, Hm, h1, h1', -, us2, evs2, hm, -, h2, h3⟩
    · exact absurd HF.out h
    · obtain rfl : Wm = Wn := by have := GD.out; omega
      obtain rfl : Hm = Hn := by have := GH.out.1; omega
      obtain ⟨ee, eu⟩ := moves_uniq hm MV.out
      rw [eu, FY.out.1] at h2
      rw [ee, FY.out.2] at h3
      exact ⟨h2.l, h3.l⟩
  clear hy
  obtain ⟨s1, l1, s2, l2, s3, l3, s4, l4, s5, l5, hv3⟩ := wl_shape9 R3.out.1
  subst hv3
  have L3' : Hid (Wl w3 (.agg #[.int .i64 Y.turn, .int .i64 Y.next, .int .i64 Y.wide, .int .i64 Y.high, .slice s1 Y.gs.length l1, .slice s2 Y.os.length l2, .slice s3 Y.gold.length l3, .slice s4 Y.us.length l4, .slice s5 Y.qs.length l5]) Y ∧ Wl w3 (.agg #[.int .i64 Y.turn, .int .i64 Y.next, .int .i64 Y.wide, .int .i64 Y.high, .slice m1 Y.gs.length n1, .slice m2 Y.os.length n2, .slice m3 Y.gold.length n3, .slice m4 Y.us.length n4, .slice m5 Y.qs.length n5]) Y ∧ Evl w3 ev3 es ∧ Evl w3 ev2 es) := ⟨R3.out.1, L3.out.1, R3.out.2, L3.out.2⟩
  clear L3 R3
  have L3 := L3'
  clear L3'
  go_upto_region 7 with fail
  have BA : Hid (Below w3.heap.size w3 (w3.alloc (Obj.cells #[.int .i64 Y.turn, .int .i64 Y.next, .int .i64 Y.wide, .int .i64 Y.high, .slice s1 Y.gs.length l1, .slice s2 Y.os.length l2, .slice s3 Y.gold.length l3, .slice s4 Y.us.length l4, .slice s5 Y.qs.length l5] 29))) := (Below.refl _ _).alloc (Nat.le_refl _) _
  obtain ⟨bq, hbq⟩ : ∃ z, w3.heap.size = z := ⟨_, rfl⟩
  have Q4 : Hid (Wx (w3.alloc (Obj.cells #[.int .i64 Y.turn, .int .i64 Y.next, .int .i64 Y.wide, .int .i64 Y.high, .slice s1 Y.gs.length l1, .slice s2 Y.os.length l2, .slice s3 Y.gold.length l3, .slice s4 Y.us.length l4, .slice s5 Y.qs.length l5] 29)) bq (.int .i64 Y.turn) (.int .i64 Y.next) (.int .i64 Y.wide) (.int .i64 Y.high) (.slice s1 Y.gs.length l1) (.slice s2 Y.os.length l2) (.slice s3 Y.gold.length l3) (.slice s4 Y.us.length l4) (.slice s5 Y.qs.length l5)) := Wx.new _ _ _ _ _ _ _ _ _ hbq
  rw [hbq]
  generalize (w3.alloc (Obj.cells #[.int .i64 Y.turn, .int .i64 Y.next, .int .i64 Y.wide, .int .i64 Y.high, .slice s1 Y.gs.length l1, .slice s2 Y.os.length l2, .slice s3 Y.gold.length l3, .slice s4 Y.us.length l4, .slice s5 Y.qs.length l5] 29)) = w4 at *
  have B4 : Hid (Below w.heap.size w w4) := B3.out.trans (BA.out.mono B3.out.size)
  have X4 : Hid (Bw w4 w.heap.size X (.slice p1 X.gs.length q1) (.slice p2 X.os.length q2) (.slice p3 X.gold.length q3) (.slice p4 X.us.length q4) (.slice p5 X.qs.length q5)) := X3.out.below BA.out X3.out.lt
  have Z4 : Hid (Wx w4 bz (.int .i64 Y.turn) (.int .i64 Y.next) (.int .i64 Y.wide) (.int .i64 Y.high) (.slice m1 Y.gs.length n1) (.slice m2 Y.os.length n2) (.slice m3 Y.gold.length n3) (.slice m4 Y.us.length n4) (.slice m5 Y.qs.length n5)) := Z3.out.below BA.out Z3.out.lt
  have L4 : Hid (Wl w4 (.agg #[.int .i64 Y.turn, .int .i64 Y.next, .int .i64 Y.wide, .int .i64 Y.high, .slice s1 Y.gs.length l1, .slice s2 Y.os.length l2, .slice s3 Y.gold.length l3, .slice s4 Y.us.length l4, .slice s5 Y.qs.length l5]) Y ∧ Wl w4 (.agg #[.int .i64 Y.turn, .int .i64 Y.next, .int .i64 Y.wide, .int .i64 Y.high, .slice m1 Y.gs.length n1, .slice m2 Y.os.length n2, .slice m3 Y.gold.length n3, .slice m4 Y.us.length n4, .slice m5 Y.qs.length n5]) Y ∧ Evl w4 ev3 es ∧ Evl w4 ev2 es) := ⟨L3.out.1.below BA.out, L3.out.2.1.below BA.out, L3.out.2.2.1.below BA.out, L3.out.2.2.2.below BA.out⟩
  clear hbq BA B3 X3 Z3 L3
  go_wp2_with fail
  refine (er_same _ _ w4 EV3.out (HG.out.below B4.out)).mono ?_
  rintro e w5 ⟨rfl, hb⟩
  have B5 : Hid (Below w.heap.size w w5) := B4.out.trans (hb.mono B4.out.size)
  have X5 : Hid (Bw w5 w.heap.size X (.slice p1 X.gs.length q1) (.slice p2 X.os.length q2) (.slice p3 X.gold.length q3) (.slice p4 X.us.length q4) (.slice p5 X.qs.length q5)) := X4.out.below hb X4.out.lt
  have Z5 : Hid (Wx w5 bz (.int .i64 Y.turn) (.int .i64 Y.next) (.int .i64 Y.wide) (.int .i64 Y.high) (.slice m1 Y.gs.length n1) (.slice m2 Y.os.length n2) (.slice m3 Y.gold.length n3) (.slice m4 Y.us.length n4) (.slice m5 Y.qs.length n5)) := Z4.out.below hb Z4.out.lt
  have Q5 : Hid (Wx w5 bq (.int .i64 Y.turn) (.int .i64 Y.next) (.int .i64 Y.wide) (.int .i64 Y.high) (.slice s1 Y.gs.length l1) (.slice s2 Y.os.length l2) (.slice s3 Y.gold.length l3) (.slice s4 Y.us.length l4) (.slice s5 Y.qs.length l5)) := Q4.out.below hb Q4.out.lt
  have L5 : Hid (Wl w5 (.agg #[.int .i64 Y.turn, .int .i64 Y.next, .int .i64 Y.wide, .int .i64 Y.high, .slice s1 Y.gs.length l1, .slice s2 Y.os.length l2, .slice s3 Y.gold.length l3, .slice s4 Y.us.length l4, .slice s5 Y.qs.length l5]) Y ∧ Wl w5 (.agg #[.int .i64 Y.turn, .int .i64 Y.next, .int .i64 Y.wide, .int .i64 Y.high, .slice m1 Y.gs.length n1, .slice m2 Y.os.length n2, .slice m3 Y.gold.length n3, .slice m4 Y.us.length n4, .slice m5 Y.qs.length n5]) Y ∧ Evl w5 ev3 es ∧ Evl w5 ev2 es) := ⟨L4.out.1.below hb, L4.out.2.1.below hb, L4.out.2.2.1.below hb, L4.out.2.2.2.below hb⟩
  clear hb B4 X4 Z4 Q4 L4
  obtain ⟨z0, z1, z2, z3, z4, z5, z6, z7, z8⟩ := Z5.out.cells
  obtain ⟨y0, y1, y2, y3, y4, y5, y6, y7, y8⟩ := Q5.out.cells
  go_wp2_with fail
  refine (worlds_like _ _ Y w5 L5.out.1 L5.out.2.1).mono ?_
  rintro e w6 ⟨rfl, hb⟩
  have B6 : Hid (Below w.heap.size w w6) := B5.out.trans (hb.mono B5.out.size)
  have X6 : Hid (Bw w6 w.heap.size X (.slice p1 X.gs.length q1) (.slice p2 X.os.length q2) (.slice p3 X.gold.length q3) (.slice p4 X.us.length q4) (.slice p5 X.qs.length q5)) := X5.out.below hb X5.out.lt
  have L6 : Hid (Evl w6 ev3 es ∧ Evl w6 ev2 es) := ⟨L5.out.2.2.1.below hb, L5.out.2.2.2.below hb⟩
  clear hb z0 z1 z2 z3 z4 z5 z6 z7 z8 y0 y1 y2 y3 y4 y5 y6 y7 y8 B5 X5 Z5 Q5 L5
  go_wp2_with fail
  refine (events_like _ _ es w6 L6.out.1 L6.out.2).mono ?_
  rintro e w8 ⟨rfl, hb⟩
  have B8 : Hid (Below w.heap.size w w8) := B6.out.trans (hb.mono B6.out.size)
  have X8 : Hid (Bw w8 w.heap.size X (.slice p1 X.gs.length q1) (.slice p2 X.os.length q2) (.slice p3 X.gold.length q3) (.slice p4 X.us.length q4) (.slice p5 X.qs.length q5)) := X6.out.below hb X6.out.lt
  clear hb B6 X6 L6
  by_cases hi : 0 ≤ i ∧ i < (X.us.length : Int)
  case neg =>
    have HI : Hid (¬ (0 ≤ i ∧ i < (X.us.length : Int))) := hi
    have x7 := X8.out.c7
    clear hi
    by_cases hi0 : i < 0
    · go_upto_region 15 with fail
      clear x7
      obtain ⟨x0, x1, x2, x3, x4, x5, x6, x7, x8⟩ := X8.out
      go_wp2_with fail
      refine (Wish_any _ _ ks X _ w8 (K.out.1.below B8.out) K.out.2 (H.out.below B8.out) (S.out.below B8.out)).mono ?_
      rintro e w9 ⟨t, r9, F, rfl, hr, hy, hb⟩
      obtain ⟨e1, e2⟩ := tar_out HF.out HI.out hy
      rw [e1] at hr
      rw [e2]
      have EV9 : Hid (Er r9 6) := hr
      have B9 : Hid (Below w.heap.size w w9) := B8.out.trans (hb.mono B8.out.size)
      clear e1 e2 hr hy hb x0 x1 x2 x3 x4 x5 x6 x7 x8 X8 B8
      go_wp2_with fail
      refine (er_same _ _ w9 EV9.out (HG.out.below B9.out)).mono ?_
      rintro e w10 ⟨rfl, hb⟩
      have B10 : Hid (Below w.heap.size w w10) := B9.out.trans (hb.mono B9.out.size)
      clear hb
      go_wp2
      go_ret
      exact ⟨rfl, B10.out⟩
    have hi1 : (X.us.length : Int) ≤ i := by have := HI.out; omega
    have hi2 : decide (i < 0) = false := decide_eq_false hi0
    clear hi0
    go_upto_region 15 with fail
    clear x7
    obtain ⟨x0, x1, x2, x3, x4, x5, x6, x7, x8⟩ := X8.out
    go_wp2_with fail
    refine (Wish_any _ _ ks X _ w8 (K.out.1.below B8.out) K.out.2 (H.out.below B8.out) (S.out.below B8.out)).mono ?_
    rintro e w9 ⟨t, r9, F, rfl, hr, hy, hb⟩
    obtain ⟨e1, e2⟩ := tar_out HF.out HI.out hy
    rw [e1] at hr
    rw [e2]
    have EV9 : Hid (Er r9 6) := hr
    have B9 : Hid (Below w.heap.size w w9) := B8.out.trans (hb.mono B8.out.size)
    clear e1 e2 hr hy hb x0 x1 x2 x3 x4 x5 x6 x7 x8 X8 B8
    go_wp2_with fail
    refine (er_same _ _ w9 EV9.out (HG.out.below B9.out)).mono ?_
    rintro e w10 ⟨rfl, hb⟩
    have B10 : Hid (Below w.heap.size w w10) := B9.out.trans (hb.mono B9.out.size)
    clear hb
    go_wp2
    go_ret
    exact ⟨rfl, B10.out⟩
  obtain ⟨n, rfl⟩ : ∃ n : Nat, i = n := ⟨i.toNat, by omega⟩
  have hnl : n < X.us.length := by omega
  obtain ⟨u, hu⟩ : ∃ u, X.us[n]? = some u := ⟨_, List.getElem?_eq_getElem hnl⟩
  obtain ⟨k, fu⟩ := WR.out.fine hu
  have UK : Hid (X.us[n]? = some u ∧ ks[u.kind.toNat]? = some k) := ⟨hu, fu.kk⟩
  have hi0 : decide (((n : Nat) : Int) < 0) = false := decide_eq_false (by omega)
  have hi1 : ¬ (X.us.length : Int) ≤ ((n : Nat) : Int) := by omega
  have FW : Hid ((∀ h ∈ X.us, Fit ks (Wn * Hn) h) ∧ (0 ≤ u.goal ∧ u.goal < (Wn * Hn : Nat)) ∧ Able X u k) := ⟨fun h hh => (right_fits WR.out GH.out.2 h hh).1, (right_fits WR.out GH.out.2 u (List.mem_of_getElem? hu)).2, ⟨fu.task, fu.load.2⟩⟩
  obtain ⟨c0, hc0⟩ : ∃ c : Nat, WishSays ks X Wn Hn u k c := by
    obtain ⟨e0, v0, -, ⟨va, vb, vc, -, -, hy0, -⟩, -⟩ := (Wish_any _ _ ks X (n : Nat) w8 (K.out.1.below B8.out) K.out.2 (H.out.below B8.out) (S.out.below B8.out)) []
    obtain ⟨-, c, -, hc⟩ := tar_in HF.out UK.out.1 UK.out.2 GD.out GH.out.1 hy0
    exact ⟨c, hc⟩
  have TT : Hid (WishSays ks X Wn Hn u k c0) := hc0
  clear hu fu hi hc0
  obtain ⟨x0, x1, x2, x3, x4, x5, x6, x7, x8⟩ := X8.out
  go_wp2_with fail
  refine (rwish_any _ _ ks X n Wn Hn u k c0 w8 (K.out.1.below B8.out) (H.out.below B8.out) GH.out.2 GD.out GH.out.1 WR.out.ul UK.out.1 UK.out.2 FW.out.1 FW.out.2.1 FW.out.2.2 TT.out).mono ?_
  rintro e w7 ⟨rfl, hb⟩
  have B7 : Hid (Below w.heap.size w w7) := B8.out.trans (hb.mono B8.out.size)
  have X7 : Hid (Bw w7 w.heap.size X (.slice p1 X.gs.length q1) (.slice p2 X.os.length q2) (.slice p3 X.gold.length q3) (.slice p4 X.us.length q4) (.slice p5 X.qs.length q5)) := X8.out.below hb X8.out.lt
  clear hb x0 x1 x2 x3 x4 x5 x6 x7 x8 B8 X8
  have B8 := B7
  have X8 := X7
  clear B7 X7
  generalize w7 = w8 at *
  obtain ⟨x0, x1, x2, x3, x4, x5, x6, x7, x8⟩ := X8.out
  go_wp2_with fail
  refine (Wish_any _ _ ks X _ w8 (K.out.1.below B8.out) K.out.2 (H.out.below B8.out) (S.out.below B8.out)).mono ?_
  rintro e w9 ⟨t, r9, F, rfl, hr, hy, hb⟩
  obtain ⟨e1, e2⟩ : F = 0 ∧ t = ((c0 : Nat) : Int) := by
    obtain ⟨h1, c1, h2, h3⟩ := tar_in HF.out UK.out.1 UK.out.2 GD.out GH.out.1 hy
    obtain rfl := wish_uniq h3 TT.out
    exact ⟨h1, h2⟩
  rw [e1] at hr
  rw [e2]
  have EV9 : Hid (Er r9 0) := hr
  have B9 : Hid (Below w.heap.size w w9) := B8.out.trans (hb.mono B8.out.size)
  clear e1 e2 hr hy hb x0 x1 x2 x3 x4 x5 x6 x7 x8 X8 B8
  go_wp2_with fail
  refine (er_same _ _ w9 EV9.out (HG.out.below B9.out)).mono ?_
  rintro e w10 ⟨rfl, hb⟩
  have B10 : Hid (Below w.heap.size w w10) := B9.out.trans (hb.mono B9.out.size)
  clear hb
  go_wp2
  go_ret
  exact ⟨rfl, B10.out⟩
end Go.Proofs.YtagnjmellcibhaaGreatDoor.moveGoes

