/- The reference's orders: the fault of one. · The reference: Orders (what is wrong with orders), behind. · The reference's Last as mathematics: an order stays where no later one takes its place. · Slices of api.Order that the call itself makes, by append. · Slices of api.Order: a whole list behind another one. · Orders in a block that may be sorted in place. · The program's orders: compare. · slices.insertionSortCmpFunc of orders by compare. -/
import Derived.Test.YteieikgkmfglaaaGreatDoorZTurnPlays4
import Derived.Test.YteieikgkmfglaaaGreatDoorZTurnPlays1
import Derived.Laws.Closers25
import Derived.IntWalk
import Derived.Test.YteieikgkmfglaaaGreatDoorZTurnPlays5
import Derived.LoopN
import Derived.Deep.DeepCutAuto
import Derived.OwnWalk
import Derived.Deep.AppendLies
import Derived.Test.YteieikgkmfglaaaGreatDoorZTurnPlays2
import Derived.BigRegion
import Derived.Shelf.Abstract
namespace Go.Proofs.YteieikgkmfglaaaGreatDoor
open Go.RowKit
set_option linter.unusedVariables false

set_option maxRecDepth 100000 in
set_option maxHeartbeats 4000000 in
theorem ref_order (o : OrV) (w : World) : Calls Tryz.prog 45 #[o.val] w fun e w' => e = .returned (.int .i64 (Od.fault o)) ∧ Below w.heap.size w w' := by
  obtain ⟨p, u, n, a⟩ := o
  have BB : Hid (Below w.heap.size w (w.alloc (Obj.cells #[.int .i64 p, .int .i64 u, .int .i64 n, .int .i64 a] 89))) := (Below.refl _ _).alloc (Nat.le_refl _) _
  have B1 : Hid (Od.bad ⟨p, u, n, a⟩ → Od.fault ⟨p, u, n, a⟩ = 1) := Od.fault_bad
  have B0 : Hid (¬ Od.bad ⟨p, u, n, a⟩ → Od.fault ⟨p, u, n, a⟩ = 0) := Od.fault_ok
  unfold OrV.val
  simp only
  by_cases h0 : p < 0
  · go_enter Tryz.func45, Tryz.ntmps45
    go_wp2
    go_ret
    exact ⟨by rw [B1.out (by unfold Od.bad; simp only; omega)]; rfl, BB⟩
  · skip
    by_cases h1 : 3 < p
    · go_enter Tryz.func45, Tryz.ntmps45
      go_wp2
      go_ret
      exact ⟨by rw [B1.out (by unfold Od.bad; simp only; omega)]; rfl, BB⟩
    · skip
      by_cases h2 : u < 0
      · go_enter Tryz.func45, Tryz.ntmps45
        go_wp2
        go_ret
        exact ⟨by rw [B1.out (by unfold Od.bad; simp only; omega)]; rfl, BB⟩
      · skip
        by_cases h3 : 1000000 < u
        · go_enter Tryz.func45, Tryz.ntmps45
          go_wp2
          go_ret
          exact ⟨by rw [B1.out (by unfold Od.bad; simp only; omega)]; rfl, BB⟩
        · skip
          by_cases h4 : a < 0
          · go_enter Tryz.func45, Tryz.ntmps45
            go_wp2
            go_ret
            exact ⟨by rw [B1.out (by unfold Od.bad; simp only; omega)]; rfl, BB⟩
          · skip
            by_cases h5 : 1000000 < a
            · go_enter Tryz.func45, Tryz.ntmps45
              go_wp2
              go_ret
              exact ⟨by rw [B1.out (by unfold Od.bad; simp only; omega)]; rfl, BB⟩
            · skip
              by_cases h6 : n < 0
              · go_enter Tryz.func45, Tryz.ntmps45
                go_wp2
                go_ret
                exact ⟨by rw [B1.out (by unfold Od.bad; simp only; omega)]; rfl, BB⟩
              · skip
                by_cases h7 : 3 < n
                · go_enter Tryz.func45, Tryz.ntmps45
                  go_wp2
                  go_ret
                  exact ⟨by rw [B1.out (by unfold Od.bad; simp only; omega)]; rfl, BB⟩
                · skip
                  by_cases h8 : n = 0
                  · subst h8
                    by_cases h9 : a = 0
                    · subst h9
                      go_enter Tryz.func45, Tryz.ntmps45
                      go_wp2
                      go_ret
                      exact ⟨by rw [B0.out (by unfold Od.bad; simp only; omega)]; rfl, BB⟩
                    · have h9b : (a == 0) = false := beq_eq_false_iff_ne.2 h9
                      go_enter Tryz.func45, Tryz.ntmps45
                      go_wp2
                      go_ret
                      exact ⟨by rw [B1.out (.inr (.inr (.inr (.inr (.inr (.inr (.inr (.inr ⟨rfl, h9⟩))))))))]; rfl, BB⟩
                  · have h8b : (n == 0) = false := beq_eq_false_iff_ne.2 h8
                    go_enter Tryz.func45, Tryz.ntmps45
                    go_wp2
                    go_ret
                    exact ⟨by rw [B0.out (by unfold Od.bad; simp only; omega)]; rfl, BB⟩
end Go.Proofs.YteieikgkmfglaaaGreatDoor

namespace Go.Proofs.YteieikgkmfglaaaGreatDoor
open Go.RowKit Go.Proofs.YteieikgkmfglaaaGreatDoor.So
set_option linter.unusedVariables false

def RcI (ks : List OrV) (w : World) (j : Value) (W' : World) : Prop := ∃ q : Nat, q ≤ ks.length ∧ j = .int .i64 (q : Nat) ∧ (∀ (i : Nat) o, i < q → ks[i]? = some o → ¬ Od.bad o) ∧ Below w.heap.size w W'
set_option maxRecDepth 100000 in
set_option maxHeartbeats 4000000 in
theorem ref_orders (v : Value) (ks : List OrV) (w : World) (h : Orl w v ks) :
    Calls Tryz.prog 17 #[v] w fun e w' => e = .returned (.int .i64 (Od.faults ks)) ∧ Below w.heap.size w w' := by
  have K0 : Hid (Orl w v ks) := h
  obtain ⟨R, hR⟩ : ∃ R, Od.faults ks = R := ⟨_, rfl⟩
  have HR : Hid (Od.faults ks = R) := hR
  rw [hR]
  clear hR
  obtain ⟨a, c, rfl, c1, c2, -⟩ := h
  by_cases h8 : 60 < ks.length
  · have E : Hid (R = 4) := by unfold Hid; rw [← HR.out]; unfold Od.faults; rw [if_pos h8]
    have h8' : (60 : Int) < (ks.length : Int) := by omega
    go_enter Tryz.func17, Tryz.ntmps17
    go_wp2
    go_ret
    exact ⟨by rw [E.out]; rfl, Below.refl _ _⟩
  · have h8' : ¬ (60 : Int) < (ks.length : Int) := by omega
    have LE : Hid (ks.length ≤ 60) := by unfold Hid; omega
    go_enter Tryz.func17, Tryz.ntmps17
    go_wp2_with fail
    go_loopw [3] (fun j W' => RcI ks w j W') (fun j _ => ks.length - (intOf j).toNat)
    case atStart => exact ⟨0, Nat.zero_le _, rfl, fun i o hi => by omega, Below.refl _ _⟩
    case round =>
      obtain ⟨q, hq, rfl, hg, hb⟩ := hrel
      have Gq : Hid (∀ (i : Nat) o, i < q → ks[i]? = some o → ¬ Od.bad o) := hg
      have B : Hid (Below w.heap.size w wr) := hb
      clear hg hb
      by_cases hql : q = ks.length
      · have E : Hid (R = 0) := by
          unfold Hid
          rw [← HR.out]
          refine Od.faults_of LE.out fun o ho => ?_
          obtain ⟨i, hi⟩ := List.mem_iff_getElem?.1 ho
          exact Gq.out i o (by rw [hql]; exact (List.getElem?_eq_some_iff.1 hi).1) hi
        subst hql
        go_wp2
        go_ret
        exact ⟨by rw [E.out]; rfl, B⟩
      · have hqk : q < ks.length := by omega
        obtain ⟨k, hk⟩ : ∃ k, ks[q]? = some k := ⟨_, List.getElem?_eq_getElem hqk⟩
        have HK : Hid (ks[q]? = some k) := hk
        have K1 := K0.out.below B.out
        have CK : Hid (∀ W : World, Calls Tryz.prog 45 #[k.val] W fun e w' => e = .returned (.int .i64 (Od.fault k)) ∧ Below W.heap.size W w') := fun W => ref_order k W
        obtain ⟨a', c', e, -, -, h3⟩ := K1
        injection e with e1 e2 e3
        subst e1 e3
        obtain ⟨x, rfl, hx1, hx⟩ := h3 (by rintro rfl; simp at hqk)
        have Yc := hx q k hk
        clear hx h3 e2 hk
        obtain ⟨q0, q1, q2, q3⟩ := Yc
        unfold OrV.val at CK
        go_wp2_with fail
        refine Calls.mono (CK.out wr) ?_
        rintro e w2 ⟨rfl, b2⟩
        have B3 : Hid (Below w.heap.size w w2) := B.out.trans (b2.mono B.out.size)
        clear b2 CK q0 q1 q2 q3
        by_cases hbad : Od.bad k
        · have E : Hid (R = 1) := by
            unfold Hid
            rw [← HR.out]
            unfold Od.faults
            rw [if_neg (by have := LE.out; omega), if_pos (List.any_eq_true.2 ⟨k, List.mem_of_getElem? HK.out, decide_eq_true hbad⟩)]
          rw [Od.fault_bad hbad]
          clear hbad
          go_wp2
          go_ret
          exact ⟨by rw [E.out]; rfl, B3⟩
        · have G2 : Hid (∀ (i : Nat) o, i < q + 1 → ks[i]? = some o → ¬ Od.bad o) := fun i o hi ho => by
            by_cases e : i = q
            · subst e
              rw [HK.out] at ho
              obtain rfl := Option.some.inj ho
              exact hbad
            · exact Gq.out i o (by omega) ho
          rw [Od.fault_ok hbad]
          clear hbad
          go_wp2
          go_round
          case rel => exact ⟨q + 1, by omega, by go_num, G2, B3⟩
          case measure => simp [intOf]; omega
set_option maxRecDepth 100000 in
set_option maxHeartbeats 4000000 in
theorem ref_behind (a b : OrV) (w : World) : Calls Tryz.prog 68 #[a.val, b.val] w fun e w' => e = .returned (.bool (decide (klt b a))) ∧ Below w.heap.size w w' := by
  have BB : Hid (∀ o1 o2, Below w.heap.size w ((w.alloc o1).alloc o2)) := fun o1 o2 => ((Below.refl _ _).alloc (Nat.le_refl _) _).alloc (by simp) _
  have KT : Hid (klt b a ↔ klt b a) := Iff.rfl
  unfold OrV.val
  by_cases h1 : a.player = b.player
  · by_cases h2 : a.unit = b.unit
    · by_cases h3 : a.what = 3
      · have E : Hid (decide (klt b a) = false) := decide_eq_false (by unfold klt rnk; rw [if_pos h3]; split <;> omega)
        go_enter Tryz.func68, Tryz.ntmps68
        go_wp2
        go_ret
        exact ⟨by rw [E.out]; rfl, BB.out _ _⟩
      · by_cases h4 : b.what = 3
        · have E : Hid (decide (klt b a) = true) := decide_eq_true (by unfold klt rnk; rw [if_neg h3, if_pos h4]; omega)
          have H3 : Hid ((a.what != 3) = true) := bne_iff_ne.2 h3
          have h3b : (a.what == 3) = false := beq_eq_false_iff_ne.2 h3
          go_enter Tryz.func68, Tryz.ntmps68
          go_wp2
          go_ret
          exact ⟨by rw [E.out]; show Ending.returned (Value.bool (a.what != 3)) = _; rw [H3.out], BB.out _ _⟩
        · have E : Hid (decide (klt b a) = false) := decide_eq_false (by unfold klt rnk; rw [if_neg h3, if_neg h4]; omega)
          have h3b : (a.what == 3) = false := beq_eq_false_iff_ne.2 h3
          have h4b : (b.what == 3) = false := beq_eq_false_iff_ne.2 h4
          go_enter Tryz.func68, Tryz.ntmps68
          go_wp2
          go_ret
          exact ⟨by rw [E.out]; rfl, BB.out _ _⟩
    · have h2b : (a.unit == b.unit) = false := beq_eq_false_iff_ne.2 h2
      have E : Hid (decide (klt b a) = decide (b.unit < a.unit)) := by
        unfold Hid
        congr 1
        unfold klt
        exact propext ⟨fun h => by omega, fun h => by omega⟩
      go_enter Tryz.func68, Tryz.ntmps68
      go_wp2
      go_ret
      exact ⟨by rw [E.out]; rfl, BB.out _ _⟩
  · have h1b : (a.player == b.player) = false := beq_eq_false_iff_ne.2 h1
    have E : Hid (decide (klt b a) = decide (b.player < a.player)) := by
      unfold Hid
      congr 1
      unfold klt
      exact propext ⟨fun h => by omega, fun h => by omega⟩
    go_enter Tryz.func68, Tryz.ntmps68
    go_wp2
    go_ret
    exact ⟨by rw [E.out]; rfl, BB.out _ _⟩
end Go.Proofs.YteieikgkmfglaaaGreatDoor

namespace Go.Proofs.YteieikgkmfglaaaGreatDoor
namespace So
set_option linter.unusedVariables false
theorem lf_later {l : List OrV} {k : Nat} {x : OrV} (hx : l[k]? = some x) (h3 : ¬ x.what = 3) : ∀ {q : Nat}, k < q → ((k : Nat) : Int) ≤ lf l q x.player x.unit
  | 0, h => by omega
  | q + 1, h => by
    by_cases e : k = q
    · subst e
      rw [lf_other hx h3]
      unfold updAt
      rw [if_pos ⟨rfl, rfl⟩]
      omega
    · have ih := lf_later hx h3 (q := q) (by omega)
      rw [lf]
      cases hq : l[q]? with
      | none => exact ih
      | some y =>
        simp only
        split
        · exact ih
        · unfold updAt
          split
          · omega
          · exact ih
/-- no later one takes its place. -/
def Stays (l : List OrV) (i : Nat) (o : OrV) : Prop := ∀ (k : Nat) x, i < k → k < l.length → l[k]? = some x → ¬ (¬ o.what = 3 ∧ ¬ x.what = 3 ∧ x.player = o.player ∧ x.unit = o.unit)
theorem stays_iff {l : List OrV} {i : Nat} {o : OrV} (ho : l[i]? = some o) : Stays l i o ↔ (o.what = 3 ∨ lf l l.length o.player o.unit = (i : Nat)) := by
  have hi : i < l.length := (List.getElem?_eq_some_iff.1 ho).1
  constructor
  · intro h
    by_cases h3 : o.what = 3
    · exact .inl h3
    · refine .inr (lf_last ho h3 hi fun k x h1 h2 hx => ?_)
      have := h k x h1 h2 hx
      by_cases hx3 : x.what = 3
      · exact .inl hx3
      · by_cases hp : x.player = o.player
        · exact .inr (.inr fun hu => this ⟨h3, hx3, hp, hu⟩)
        · exact .inr (.inl hp)
  · rintro (h | h) k x h1 h2 hx ⟨h3, hx3, hp, hu⟩
    · exact h3 h
    · have := lf_later hx hx3 h2
      rw [hp, hu, h] at this
      omega
theorem stays_yes {l : List OrV} {i : Nat} {o : OrV} (ho : l[i]? = some o) (h : Stays l i o) : kp l (i + 1) = kp l i ++ [(o, i)] := kp_yes ho ((stays_iff ho).1 h)
theorem stays_no {l : List OrV} {i : Nat} {o : OrV} (ho : l[i]? = some o) (h : ¬ Stays l i o) : kp l (i + 1) = kp l i := kp_no ho (fun hc => h ((stays_iff ho).2 hc))
/-- x, with the greatest tag, put in its place. -/
theorem put_place {S1 S2 : List T} {x : T} (h : (S1 ++ S2).Pairwise lt) (ht : ∀ y ∈ S1 ++ S2, y.2 < x.2) (h2 : ∀ y ∈ S2, klt x.1 y.1) (h1 : ∀ y, S1.getLast? = some y → ¬ klt x.1 y.1) : (S1 ++ x :: S2).Pairwise lt := by
  refine put_rise h (fun y hy => ?_) (fun y hy => .inl (h2 y hy))
  rcases List.eq_nil_or_concat S1 with rfl | ⟨S, z, rfl⟩
  · cases hy
  · have hz : lt z x := (ask_ge (ht z (by simp))).1 (h1 z (by simp))
    rw [List.concat_eq_append] at hy h
    rcases List.mem_append.1 hy with hy | hy
    · rw [List.append_assoc, List.pairwise_append] at h
      exact lt_trans (h.2.2 y hy z (by simp)) hz
    · simp at hy
      subst hy
      exact hz
end So
end Go.Proofs.YteieikgkmfglaaaGreatDoor

namespace Go.Proofs.YteieikgkmfglaaaGreatDoor
open Go.RowKit
set_option linter.unusedVariables false

theorem info_or : (Tryz.prog.info? 89).map (fun i => (i.zero, i.size, i.bytes)) = some (some (.agg #[.int .i64 0, .int .i64 0, .int .i64 0, .int .i64 0]), 4, 32) := by kernel_rfl
def OrV.cs (k : OrV) : List Value := [.int .i64 k.player, .int .i64 k.unit, .int .i64 k.what, .int .i64 k.arg]
theorem flat_or : ∀ (ks : List OrV) (i j : Nat) (k : OrV), ks[i]? = some k → j < 4 → (ks.flatMap OrV.cs)[i * 4 + j]? = k.cs[j]?
  | [], i, j, k, h, _ => by simp at h
  | x :: ks, 0, j, k, h, hj => by
    simp at h
    subst h
    rw [List.flatMap_cons, List.getElem?_append_left (by simp [OrV.cs]; omega)]
    simp
  | x :: ks, i + 1, j, k, h, hj => by
    rw [List.flatMap_cons, List.getElem?_append_right (by simp [OrV.cs]; omega)]
    have : (i + 1) * 4 + j - (OrV.cs x).length = i * 4 + j := by simp [OrV.cs]; omega
    rw [this]
    exact flat_or ks i j k (by simpa using h) hj
/-- v is a slice of them, in a block of its own from base on. -/
def Oro (w : World) (base : Nat) (v : Value) (ks : List OrV) : Prop := w.ownsRow base 89 4 v ks.length (ks.flatMap OrV.cs)
theorem Oro.nil (w : World) (base : Nat) : Oro w base (.slice none 0 0) [] := World.ownsRow_nil _ _ _ _
theorem Oro.below {w w' : World} {base : Nat} {v : Value} {ks : List OrV} (h : Oro w base v ks) (hb : Below w.heap.size w w') : Oro w' base v ks :=
  World.ownsRow.kept h (row := none) ⟨hb.os, hb.tape, hb.output, hb.size, fun k hk _ => hb.block k hk⟩ (by cases v.ownBlock <;> simp)
theorem Oro.kept {w w' : World} {base : Nat} {v : Value} {ks : List OrV} {row : Option Nat} (h : Oro w base v ks) (hg : w.grownBy w' row) (hne : v.ownBlock = none ∨ v.ownBlock ≠ row) : Oro w' base v ks := World.ownsRow.kept h hg hne
theorem Oro.alloc {w : World} {base : Nat} {v : Value} {ks : List OrV} (h : Oro w base v ks) (o : Obj) : Oro (w.alloc o) base v ks := World.ownsRow.alloc h o
theorem Oro.block {w : World} {base : Nat} {v : Value} {ks : List OrV} (h : Oro w base v ks) : ∀ k, v.ownBlock = some k → base ≤ k ∧ k < w.heap.size := World.ownsRow.lt h
theorem Oro.mono {w : World} {base base' : Nat} {v : Value} {ks : List OrV} (h : Oro w base v ks) (hb : base' ≤ base) : Oro w base' v ks := by
  refine ⟨h.1, ?_⟩
  rcases h.2 with h1 | ⟨g, cap, cur, h1, h2, h3⟩
  · exact .inl h1
  · exact .inr ⟨g, cap, cur, h1, Nat.le_trans hb h2, h3⟩
theorem Oro.l {w : World} {base : Nat} {v : Value} {ks : List OrV} (h : Oro w base v ks) : Orl w v ks := by
  rcases h.2 with ⟨hv, h0⟩ | ⟨g, cap, cur, hv, hb, hg, h1, h2, h3, h4⟩
  · exact ⟨none, 0, by rw [hv, h0], by omega, by omega, fun hn => absurd (List.length_eq_zero_iff.1 h0) hn⟩
  · refine ⟨_, cap, hv, h1, by unfold maxLen at h2; omega, fun _ => ⟨_, rfl, lt_of_block hg, fun i k hi => ?_⟩⟩
    have hil : i < ks.length := (List.getElem?_eq_some_iff.1 hi).1
    have h5 : w.ownsRow base 89 4 (.slice (some ⟨g, 0, none⟩) ks.length cap) ks.length (ks.flatMap OrV.cs) := by rw [← hv]; exact h
    have hc : ∀ j u, j < 4 → k.cs[j]? = some u → w.cell? ⟨g, i * 4 + j, none⟩ = some u := fun j u hj hu => by
      rw [h5.cellAt (i * 4 + j) (by omega), flat_or ks i j k hi hj, hu]
    rw [Addr.add_lit, Nat.zero_add]
    exact ⟨hc 0 _ (by decide) rfl, hc 1 _ (by decide) rfl, hc 2 _ (by decide) rfl, hc 3 _ (by decide) rfl⟩
theorem Oro.len {w : World} {base : Nat} {v : Value} {ks : List OrV} (h : Oro w base v ks) : ∃ a c, v = .slice a ks.length c := by
  obtain ⟨a, c, h1, -⟩ := h.l
  exact ⟨a, c, h1⟩

/-- one more. -/
theorem app_or {ops : Array Oper} {rest : List Oper} {o : Oper} {a : Act} {Q : Exit → Act → World → Prop} (w : World) (hgd : o.guard = none) (s x : Operand)
    (ho : o.op = .call { callee := .builtin .append, args := #[s, x], argTypes := #[48, 48] }) (base : Nat) (v : Value) (ks : List OrV) (hs : a.eval s = v) (hown : Oro w base v ks)
    (b : Nat) (d : OrV) (hx : a.eval x = .slice (some ⟨b, 0, none⟩) 1 1) (hd : Orc w ⟨b, 0, none⟩ d) (hl : ks.length ≤ 1000000) (hbase : base ≤ w.heap.size)
    (h : ∀ g cap w', Oro w' base (.slice (some ⟨g, 0, none⟩) (ks.length + 1) cap) (ks ++ [d]) → w.grownBy w' v.ownBlock → (v.ownBlock = some g ∨ g = w.heap.size) → g < w'.heap.size → wpList Tryz.prog ops Q rest (a.put o.dst (.slice (some ⟨g, 0, none⟩) (ks.length + 1) cap)) w') :
    wpList Tryz.prog ops Q (o :: rest) a w := by
  obtain ⟨i0, hi, hz0, hz1, hz2⟩ := info_parts info_or
  refine wpList_append_lies w hgd s x 48 ho base 89 i0 (.agg #[.int .i64 0, .int .i64 0, .int .i64 0, .int .i64 0]) 4 32 Tryz.underlying48 hi hz0 hz1 hz2 rfl (by decide) v ks.length _ hs hown ⟨b, 0, none⟩ 1 1 d.cs hx rfl ?_ ?_ (by decide) (by unfold maxLen; omega) (by omega) hbase _ rfl ?_
  · intro j u hj
    have hjn : j < 4 := (List.getElem?_eq_some_iff.1 hj).1
    rw [Addr.add_lit, Nat.zero_add]
    match j, hjn, hj with
    | 0, _, hj => simp [OrV.cs] at hj; subst hj; exact hd.c0
    | 1, _, hj => simp [OrV.cs] at hj; subst hj; exact hd.c1
    | 2, _, hj => simp [OrV.cs] at hj; subst hj; exact hd.c2
    | 3, _, hj => simp [OrV.cs] at hj; subst hj; exact hd.c3
  · intro u hu
    simp [OrV.cs] at hu
    rcases hu with rfl | rfl | rfl | rfl <;> rfl
  · intro g cap w' h1 h2 h3 h4
    refine h g cap w' ?_ h2 h3 h4
    unfold Oro
    rw [List.length_append, List.flatMap_append]
    simpa using h1
end Go.Proofs.YteieikgkmfglaaaGreatDoor

namespace Go.Proofs.YteieikgkmfglaaaGreatDoor
open Go.RowKit
set_option linter.unusedVariables false

theorem len_or (ks : List OrV) : (ks.flatMap OrV.cs).length = ks.length * 4 := by
  induction ks with
  | nil => rfl
  | cons x l ih => rw [List.flatMap_cons, List.length_append, ih, List.length_cons, Nat.succ_mul, Nat.add_comm]; rfl
theorem cell_or {w : World} {y : Addr} {ks : List OrV} (hc : ∀ (i : Nat) k, ks[i]? = some k → Orc w (y.add (i * 4)) k) (j : Nat) (u : Value) (hj : (ks.flatMap OrV.cs)[j]? = some u) : w.cell? (y.add j) = some u := by
  have hjl : j < ks.length * 4 := by rw [← len_or]; exact (List.getElem?_eq_some_iff.1 hj).1
  obtain ⟨i, r, hr, rfl⟩ : ∃ i r, r < 4 ∧ j = i * 4 + r := ⟨j / 4, j % 4, Nat.mod_lt _ (by decide), by omega⟩
  have hi : i < ks.length := by omega
  obtain ⟨k, hk⟩ : ∃ k, ks[i]? = some k := ⟨_, List.getElem?_eq_getElem hi⟩
  rw [flat_or ks i r k hk hr] at hj
  have h := hc i k hk
  rcases Nat.eq_zero_or_pos r with rfl | hr0
  · simp [OrV.cs] at hj
    subst hj
    exact h.c0
  · have ea : y.add (i * 4 + r) = ⟨(y.add (i * 4)).block, (y.add (i * 4)).off + r, none⟩ := by
      unfold Addr.add
      rw [if_neg (by omega)]
      split <;> simp <;> omega
    rw [ea]
    match r, hr, hr0, hj with
    | 1, _, _, hj => simp [OrV.cs] at hj; subst hj; exact h.c1
    | 2, _, _, hj => simp [OrV.cs] at hj; subst hj; exact h.c2
    | 3, _, _, hj => simp [OrV.cs] at hj; subst hj; exact h.c3

theorem app_ors {ops : Array Oper} {rest : List Oper} {o : Oper} {a : Act} {Q : Exit → Act → World → Prop} (w : World) (hgd : o.guard = none) (s x : Operand)
    (ho : o.op = .call { callee := .builtin .append, args := #[s, x], argTypes := #[48, 48] }) (base : Nat) (v : Value) (ks : List OrV) (hs : a.eval s = v) (hown : Oro w base v ks)
    (u : Value) (ys : List OrV) (hx : a.eval x = u) (hu : Orl w u ys) (hl : ks.length + ys.length ≤ 100000000) (hbase : base ≤ w.heap.size)
    (h : ∀ v' w', Oro w' base v' (ks ++ ys) → w.grownBy w' v.ownBlock → (v'.ownBlock = v.ownBlock ∨ v'.ownBlock = some w.heap.size) → wpList Tryz.prog ops Q rest (a.put o.dst v') w') :
    wpList Tryz.prog ops Q (o :: rest) a w := by
  obtain ⟨i0, hi, hz0, hz1, hz2⟩ := info_parts info_or
  obtain ⟨ad, c, rfl, h1, h2, h3⟩ := hu
  by_cases hn : ys = []
  · subst hn
    refine wpList_plain hgd fun K hK => ?_
    have hrun := run_append_no (P := Tryz.prog) (w := w) base 48 o.type 89 i0 4 Tryz.underlying48 hi v ks.length _ hown ad c
    have hx' : a.eval x = .slice ad 0 c := hx
    unfold Oper.wp
    simp [execOp, ho, resolve, invoke, builtin, hs, hx', hrun, Result.andThen]
    exact hK _ _ (h v w (by simpa using hown) (World.grownBy.refl _ _) (.inl rfl))
  · obtain ⟨y, rfl, hy, hc⟩ := h3 hn
    refine wpList_append_lies w hgd s x 48 ho base 89 i0 _ 4 32 Tryz.underlying48 hi hz0 hz1 hz2 rfl (by decide) v ks.length _ hs hown y ys.length c (ys.flatMap OrV.cs) hx (len_or ys) (cell_or hc) ?_ (List.length_pos_iff.2 hn) (by unfold maxLen; omega) (by omega) hbase _ rfl ?_
    · intro u hu
      obtain ⟨k, -, hk⟩ := List.mem_flatMap.1 hu
      simp [OrV.cs] at hk
      rcases hk with rfl | rfl | rfl | rfl <;> rfl
    · intro g cap w' k1 k2 k3 _
      refine h _ w' ?_ k2 ?_
      · unfold Oro
        rw [List.length_append, List.flatMap_append]
        exact k1
      · rcases k3 with k3 | k3
        · exact .inl k3.symm
        · exact .inr (by rw [k3]; rfl)
end Go.Proofs.YteieikgkmfglaaaGreatDoor

namespace Go.Proofs.YteieikgkmfglaaaGreatDoor
open Go.RowKit
set_option linter.unusedVariables false

/-- block g has these orders, and more behind them. -/
def Rb (w : World) (g : Nat) (ks : List OrV) (rest : List Value) : Prop := w.heap[g]? = some (.cells (ks.flatMap OrV.cs ++ rest).toArray 89 (0, 0))
theorem Rb.lt {w : World} {g : Nat} {ks : List OrV} {rest : List Value} (h : Rb w g ks rest) : g < w.heap.size := lt_of_block h
theorem Rb.thaw {w : World} {g : Nat} {ks : List OrV} {rest : List Value} (h : Rb w g ks rest) (i : Nat) : w.frozen? ⟨g, i, none⟩ = false := by
  unfold Rb at h
  simp [World.frozen?, h]
theorem Rb.below {w w' : World} {g B : Nat} {ks : List OrV} {rest : List Value} (h : Rb w g ks rest) (hb : Below B w w') (hB : g < B) : Rb w' g ks rest := by
  unfold Rb at *
  rw [hb.block g hB]; exact h
theorem oflat_len (ks : List OrV) : (ks.flatMap OrV.cs).length = ks.length * 4 := by
  induction ks with
  | nil => rfl
  | cons k ks ih =>
    rw [List.flatMap_cons, List.length_append, ih, List.length_cons]
    simp [OrV.cs]
    omega
theorem Rb.at_ {w : World} {g : Nat} {ks : List OrV} {rest : List Value} (h : Rb w g ks rest) {i : Nat} {o : OrV} (ho : ks[i]? = some o) {j : Nat} (hj : j < 4) : w.cell? ⟨g, i * 4 + j, none⟩ = o.cs[j]? := by
  unfold Rb at h
  have hi : i < ks.length := (List.getElem?_eq_some_iff.1 ho).1
  simp only [World.cell?, h]
  have e : (ks.flatMap OrV.cs ++ rest).toArray[i * 4 + j]? = o.cs[j]? := by
    rw [List.getElem?_toArray, List.getElem?_append_left (by rw [oflat_len]; omega), flat_or ks i j o ho hj]
  simp only [e]
  simp
theorem Rb.cells {w : World} {g : Nat} {ks : List OrV} {rest : List Value} (h : Rb w g ks rest) {i : Nat} {o : OrV} (ho : ks[i]? = some o) :
    w.cell? ⟨g, i * 4, none⟩ = some (.int .i64 o.player) ∧ w.cell? ⟨g, i * 4 + 1, none⟩ = some (.int .i64 o.unit) ∧ w.cell? ⟨g, i * 4 + 2, none⟩ = some (.int .i64 o.what) ∧ w.cell? ⟨g, i * 4 + 3, none⟩ = some (.int .i64 o.arg) :=
  ⟨h.at_ ho (j := 0) (by decide), h.at_ ho (j := 1) (by decide), h.at_ ho (j := 2) (by decide), h.at_ ho (j := 3) (by decide)⟩
theorem oflat_set : ∀ (ks : List OrV) (i : Nat) (o : OrV) (rest : List Value), i < ks.length →
    (ks.set i o).flatMap OrV.cs ++ rest = ((((ks.flatMap OrV.cs ++ rest).set (i * 4) (.int .i64 o.player)).set (i * 4 + 1) (.int .i64 o.unit)).set (i * 4 + 2) (.int .i64 o.what)).set (i * 4 + 3) (.int .i64 o.arg)
  | [], i, o, rest, h => by simp at h
  | k :: ks, 0, o, rest, _ => by
    simp [OrV.cs]
  | k :: ks, i + 1, o, rest, h => by
    have ih := oflat_set ks i o rest (by simpa using h)
    rw [show (i + 1) * 4 = i * 4 + 4 by omega, show i * 4 + 4 + 1 = i * 4 + 1 + 4 by omega, show i * 4 + 4 + 2 = i * 4 + 2 + 4 by omega, show i * 4 + 4 + 3 = i * 4 + 3 + 4 by omega, List.set_cons_succ, List.flatMap_cons, List.append_assoc, ih, List.flatMap_cons]
    simp [OrV.cs]
theorem Rb.put {w : World} {g : Nat} {ks : List OrV} {rest : List Value} (h : Rb w g ks rest) {i : Nat} (hi : i < ks.length) (o : OrV) :
    Rb ((((w.setCell ⟨g, i * 4, none⟩ (.int .i64 o.player)).setCell ⟨g, i * 4 + 1, none⟩ (.int .i64 o.unit)).setCell ⟨g, i * 4 + 2, none⟩ (.int .i64 o.what)).setCell ⟨g, i * 4 + 3, none⟩ (.int .i64 o.arg)) g (ks.set i o) rest := by
  unfold Rb at *
  have h1 := heap_setCell_same w g (i * 4) _ _ (.int .i64 o.player) h
  have h2 := heap_setCell_same _ g (i * 4 + 1) _ _ (.int .i64 o.unit) h1
  have h3 := heap_setCell_same _ g (i * 4 + 2) _ _ (.int .i64 o.what) h2
  have h4 := heap_setCell_same _ g (i * 4 + 3) _ _ (.int .i64 o.arg) h3
  rw [h4, oflat_set ks i o rest hi]
  simp
theorem rb_below {B g : Nat} {w W : World} {i : Nat} (o : OrV) (h : Below B w W) (hb : B ≤ g) :
    Below B w ((((W.setCell ⟨g, i * 4, none⟩ (.int .i64 o.player)).setCell ⟨g, i * 4 + 1, none⟩ (.int .i64 o.unit)).setCell ⟨g, i * 4 + 2, none⟩ (.int .i64 o.what)).setCell ⟨g, i * 4 + 3, none⟩ (.int .i64 o.arg)) :=
  (((h.setCell (p := ⟨g, i * 4, none⟩) hb _).setCell (p := ⟨g, i * 4 + 1, none⟩) hb _).setCell (p := ⟨g, i * 4 + 2, none⟩) hb _).setCell (p := ⟨g, i * 4 + 3, none⟩) hb _
end Go.Proofs.YteieikgkmfglaaaGreatDoor

namespace Go.Proofs.YteieikgkmfglaaaGreatDoor
open Go.RowKit
set_option linter.unusedVariables false

set_option maxRecDepth 100000 in
set_option maxHeartbeats 4000000 in
theorem compare_any (a b : OrV) (w : World) : Calls Tryz.prog 105 #[a.val, b.val] w fun e w' => e = .returned (.int .i64 (cmpo a b)) ∧ Below w.heap.size w w' := by
  obtain ⟨p, u, n, x⟩ := a
  obtain ⟨p', u', n', x'⟩ := b
  have ba := (Below.refl w.heap.size w).alloc (Nat.le_refl _) (Obj.cells #[.int .i64 p, .int .i64 u, .int .i64 n, .int .i64 x] 89)
  have B0 : Hid (Below w.heap.size w ((w.alloc (Obj.cells #[.int .i64 p, .int .i64 u, .int .i64 n, .int .i64 x] 89)).alloc (Obj.cells #[.int .i64 p', .int .i64 u', .int .i64 n', .int .i64 x'] 89))) := ba.alloc (by simp) _
  have Oa : Hid (Orc ((w.alloc (Obj.cells #[.int .i64 p, .int .i64 u, .int .i64 n, .int .i64 x] 89)).alloc (Obj.cells #[.int .i64 p', .int .i64 u', .int .i64 n', .int .i64 x'] 89)) ⟨w.heap.size, 0, none⟩ ⟨p, u, n, x⟩) := (Orc.mk' (w := w) ⟨p, u, n, x⟩ rfl).below ((Below.refl _ _).alloc (Nat.le_refl _) _) (by simp)
  have Ob : Hid (Orc ((w.alloc (Obj.cells #[.int .i64 p, .int .i64 u, .int .i64 n, .int .i64 x] 89)).alloc (Obj.cells #[.int .i64 p', .int .i64 u', .int .i64 n', .int .i64 x'] 89)) ⟨w.heap.size + 1, 0, none⟩ ⟨p', u', n', x'⟩) := Orc.mk' ⟨p', u', n', x'⟩ (by simp)
  clear ba
  unfold OrV.val
  simp only
  go_enter Tryz.func105, Tryz.ntmps105
  go_upto_region 1 with fail
  generalize ((w.alloc (Obj.cells #[.int .i64 p, .int .i64 u, .int .i64 n, .int .i64 x] 89)).alloc (Obj.cells #[.int .i64 p', .int .i64 u', .int .i64 n', .int .i64 x'] 89)) = w2 at *
  have FC : Hid (∀ W, Below w2.heap.size w2 W → W.cell? ⟨w.heap.size, 0, none⟩ = some (.int .i64 p) ∧ W.cell? ⟨w.heap.size, 1, none⟩ = some (.int .i64 u) ∧ W.cell? ⟨w.heap.size, 2, none⟩ = some (.int .i64 n) ∧ W.cell? ⟨w.heap.size, 3, none⟩ = some (.int .i64 x) ∧ W.cell? ⟨w.heap.size + 1, 0, none⟩ = some (.int .i64 p') ∧ W.cell? ⟨w.heap.size + 1, 1, none⟩ = some (.int .i64 u') ∧ W.cell? ⟨w.heap.size + 1, 2, none⟩ = some (.int .i64 n') ∧ W.cell? ⟨w.heap.size + 1, 3, none⟩ = some (.int .i64 x')) := fun W hW => by
    have a := Oa.out.below hW Oa.out.lt
    have b := Ob.out.below hW Ob.out.lt
    obtain ⟨a0, a1, a2, a3⟩ := a
    obtain ⟨b0, b1, b2, b3⟩ := b
    simp only [Nat.zero_add] at a0 a1 a2 a3 b0 b1 b2 b3
    exact ⟨a0, a1, a2, a3, b0, b1, b2, b3⟩
  have CI : Hid (∀ (i j : Int) W, Below w2.heap.size w2 W → Calls Tryz.prog 132 #[.int .i64 i, .int .i64 j] W fun e w' => e = .returned (.int .i64 (sgn i j)) ∧ Below w2.heap.size w2 w') := fun i j W hW => (cmpint_any i j W).mono fun e w' ⟨h1, h2⟩ => ⟨h1, by rw [h2]; exact hW⟩
  have CR : Hid (∀ (o : OrV) W, Below w2.heap.size w2 W → Calls Tryz.prog 133 #[.agg #[.int .i64 o.player, .int .i64 o.unit, .int .i64 o.what, .int .i64 o.arg]] W fun e w' => e = .returned (.int .i64 (rnk o)) ∧ Below w2.heap.size w2 w') := fun o W hW => (rank_any o W).mono fun e w' ⟨h1, h2⟩ => ⟨h1, hW.trans (h2.mono hW.size)⟩
  refine wp_region_class 15 (fun W => Below w2.heap.size w2 W) (by kernel_rfl) (by kernel_rfl) (Below.refl _ _).drew ?_
  simp only [List.take_succ_cons, List.take_zero, List.drop_succ_cons, List.drop_zero]
  refine head_step (.pointer (some ⟨w.heap.size, 0, none⟩)) (by go_simp) (fun W hW => by go_simp) ?_
  go_simp
  refine head_step (.int .i64 p) (by go_simp) (fun W hW => by obtain ⟨a0, -, -, -, -, -, -, -⟩ := FC.out W hW; go_simp) ?_
  go_simp
  refine head_step (.pointer (some ⟨w.heap.size + 1, 0, none⟩)) (by go_simp) (fun W hW => by go_simp) ?_
  go_simp
  refine head_step (.int .i64 p') (by go_simp) (fun W hW => by obtain ⟨-, -, -, -, b0, -, -, -⟩ := FC.out W hW; go_simp) ?_
  go_simp
  refine head_call (Value.int .i64 (sgn p p')) 132 #[.int .i64 p, .int .i64 p'] (by go_simp) (fun W hW => by go_simp) (fun W hW => CI.out p p' W hW) ?_
  go_simp
  refine head_step (.pointer (some ⟨w.heap.size, 1, none⟩)) (by go_simp) (fun W hW => by go_simp) ?_
  go_simp
  refine head_step (.int .i64 u) (by go_simp) (fun W hW => by obtain ⟨-, a1, -, -, -, -, -, -⟩ := FC.out W hW; go_simp) ?_
  go_simp
  refine head_step (.pointer (some ⟨w.heap.size + 1, 1, none⟩)) (by go_simp) (fun W hW => by go_simp) ?_
  go_simp
  refine head_step (.int .i64 u') (by go_simp) (fun W hW => by obtain ⟨-, -, -, -, -, b1, -, -⟩ := FC.out W hW; go_simp) ?_
  go_simp
  refine head_call (Value.int .i64 (sgn u u')) 132 #[.int .i64 u, .int .i64 u'] (by go_simp) (fun W hW => by go_simp) (fun W hW => CI.out u u' W hW) ?_
  go_simp
  refine head_step (.agg #[.int .i64 p, .int .i64 u, .int .i64 n, .int .i64 x]) (by go_simp) (fun W hW => by obtain ⟨a0, a1, a2, a3, -, -, -, -⟩ := FC.out W hW; go_simp) ?_
  go_simp
  refine head_call (Value.int .i64 (rnk ⟨p, u, n, x⟩)) 133 #[.agg #[.int .i64 p, .int .i64 u, .int .i64 n, .int .i64 x]] (by go_simp) (fun W hW => by go_simp) (fun W hW => CR.out ⟨p, u, n, x⟩ W hW) ?_
  go_simp
  refine head_step (Value.agg #[.int .i64 p', .int .i64 u', .int .i64 n', .int .i64 x']) (by go_simp) (fun W hW => by obtain ⟨-, -, -, -, b0, b1, b2, b3⟩ := FC.out W hW; go_simp) ?_
  go_simp
  refine head_call (Value.int .i64 (rnk ⟨p', u', n', x'⟩)) 133 #[Value.agg #[.int .i64 p', .int .i64 u', .int .i64 n', .int .i64 x']] (by go_simp) (fun W hW => by go_simp) (fun W hW => CR.out ⟨p', u', n', x'⟩ W hW) ?_
  go_simp
  refine head_call (Value.int .i64 (sgn (rnk ⟨p, u, n, x⟩) (rnk ⟨p', u', n', x'⟩))) 132 #[Value.int .i64 (rnk ⟨p, u, n, x⟩), .int .i64 (rnk ⟨p', u', n', x'⟩)] (by go_simp) (fun W hW => by go_simp) (fun W hW => CI.out _ _ W hW) ?_
  go_simp
  intro W hW
  obtain ⟨s1, hs1⟩ : ∃ s, sgn p p' = s := ⟨_, rfl⟩
  obtain ⟨s2, hs2⟩ : ∃ s, sgn u u' = s := ⟨_, rfl⟩
  obtain ⟨s3, hs3⟩ : ∃ s, sgn (rnk ⟨p, u, n, x⟩) (rnk ⟨p', u', n', x'⟩) = s := ⟨_, rfl⟩
  have HC : Hid (cmpo ⟨p, u, n, x⟩ ⟨p', u', n', x'⟩ = or3 s1 s2 s3) := by unfold Hid cmpo; rw [hs3]; simp only; rw [hs1, hs2]
  rw [hs1, hs2, hs3]
  have OR := or_any s1 s2 s3 W.heap.size (W.alloc (Obj.cells #[.int .i64 s1, .int .i64 s2, .int .i64 s3] 3)) (by simp) (by simp) (by simp)
  have OR' : Hid (Calls Tryz.prog 131 #[.slice (some ⟨W.heap.size, 0, none⟩) 3 3] (W.alloc (Obj.cells #[.int .i64 s1, .int .i64 s2, .int .i64 s3] 3)) fun e w' => e = .returned (.int .i64 (or3 s1 s2 s3)) ∧ w' = (W.alloc (Obj.cells #[.int .i64 s1, .int .i64 s2, .int .i64 s3] 3))) := OR
  have BB : Hid (Below w.heap.size w (W.alloc (Obj.cells #[.int .i64 s1, .int .i64 s2, .int .i64 s3] 3))) := (B0.out.trans (hW.mono B0.out.size)).alloc (Nat.le_trans B0.out.size hW.size) _
  clear OR hW FC CI CR hs1 hs2 hs3
  go_wp2_with fail
  refine OR'.out.mono ?_
  rintro e w' ⟨rfl, rfl⟩
  go_wp2
  go_ret
  exact ⟨by rw [HC.out]; rfl, BB⟩
end Go.Proofs.YteieikgkmfglaaaGreatDoor

namespace Go.Proofs.YteieikgkmfglaaaGreatDoor
open Go.RowKit Go.Proofs.YteieikgkmfglaaaGreatDoor.So
set_option linter.unusedVariables false

abbrev fs (l : List T) : List OrV := l.map Prod.fst
theorem ecmp : ∀ args w, (callFunc 105 args).run Tryz.prog w = .ok (.enter 105 args) w := enters_of Tryz.func105 (by kernel_rfl) rfl
theorem at_x (A S1 : List T) (x : T) (R : List T) : (fs (A ++ S1 ++ x :: R))[A.length + S1.length]? = some x.1 := by
  simp [fs]
theorem at_y (A S1 : List T) (y : T) (R : List T) : (fs (A ++ (S1 ++ [y]) ++ R))[A.length + S1.length]? = some y.1 := by
  simp [fs]

theorem swap_two {α : Type} : ∀ (P : List α) (y x : α) (R : List α), ((P ++ y :: x :: R).set (P.length + 1) y).set P.length x = P ++ x :: y :: R
  | [], y, x, R => rfl
  | p :: P, y, x, R => by
    have := swap_two P y x R
    simp only [List.cons_append, List.length_cons, List.set_cons_succ]
    rw [this]
/-- between two rounds of the outer loop. -/
def IsoO (A UU B : List T) (g : Nat) (rest : List Value) (w : World) (m a : Nat) (iv : Value) (W : World) : Prop := ∃ (S V : List T), S.Pairwise lt ∧ S ≠ [] ∧ S.Perm (UU.take S.length) ∧ V = UU.drop S.length ∧ S.length ≤ m ∧ iv = .int .i64 ((a + S.length : Nat) : Int) ∧ Rb W g (fs (A ++ S ++ (V ++ B))) rest ∧ Kp g w W
/-- between two rounds of the inner loop. -/
def IsoI (A S : List T) (x : T) (VB : List T) (g : Nat) (rest : List Value) (w : World) (a : Nat) (jv : Value) (W : World) : Prop := ∃ (S1 S2 : List T), jv = .int .i64 ((a + S1.length : Nat) : Int) ∧ S1 ++ S2 = S ∧ (∀ y ∈ S2, lt x y) ∧ Rb W g (fs (A ++ S1 ++ x :: (S2 ++ VB))) rest ∧ Kp g w W
def SortSays (A U B : List T) (g : Nat) (rest : List Value) (w : World) (e : Ending) (w' : World) : Prop := e = .returned (.tuple #[]) ∧ ∃ S, S.Perm U ∧ S.Pairwise lt ∧ Rb w' g (fs (A ++ S ++ B)) rest ∧ Kp g w w'
set_option maxRecDepth 100000 in
set_option maxHeartbeats 8000000 in
theorem isort_any (A U B : List T) (g cap : Nat) (rest : List Value) (w : World) (hU : U.Pairwise (fun x y => x.2 < y.2)) (hr : Rb w g (fs (A ++ U ++ B)) rest) (hn : (A ++ U ++ B).length ≤ 1000) :
    Calls Tryz.prog 153 #[.slice (some ⟨g, 0, none⟩) (A ++ U ++ B).length cap, .int .i64 (A.length : Nat), .int .i64 ((A.length + U.length : Nat) : Int), .func (.func 105) #[] #[]] w
      (SortSays A U B g rest w) := by
  obtain ⟨L, hL⟩ : ∃ L, (A ++ U ++ B).length = L := ⟨_, rfl⟩
  have HL : Hid ((A ++ U ++ B).length = L) := hL
  have HL2 : Hid (A.length + U.length + B.length = L) := by unfold Hid; rw [← hL]; simp; omega
  obtain ⟨a, ha⟩ : ∃ a, A.length = a := ⟨_, rfl⟩
  obtain ⟨m, hm⟩ : ∃ m, U.length = m := ⟨_, rfl⟩
  have Ha : Hid (A.length = a) := ha
  have Hm : Hid (U.length = m) := hm
  have hle : a + m ≤ L := by have := HL2.out; omega
  have R0 : Hid (Rb w g (fs (A ++ U ++ B)) rest) := hr
  have HU : Hid (U.Pairwise (fun x y => x.2 < y.2)) := hU
  rw [hL, ha, hm]
  obtain ⟨q, hq⟩ : ∃ q, a + m = q := ⟨_, rfl⟩
  rw [hq]
  rw [hL] at hn
  clear hL ha hm hr hU
  go_enter Tryz.func153, Tryz.ntmps153
  go_wp2
  cases U with
  | nil =>
    have hm0 : m = 0 := by have := Hm.out; simpa using this.symm
    have hqa : ¬ ((a : Nat) : Int) + 1 < (q : Int) := by omega
    refine wp_loop_rounds 1 ?_
    rw [rounds_succ]
    go_wp2
    go_end0
    exact ⟨rfl, [], List.Perm.refl _, List.Pairwise.nil, R0, Kp.refl _ _⟩
  | cons u U' =>
    have hm1 : 1 ≤ m := by have := Hm.out; simp at this; omega
    go_loopw [8] (fun iv W => IsoO A (u :: U') B g rest w m a iv W) (fun iv _ => q - (intOf iv).toNat)
    case atStart =>
      refine ⟨[u], U', by simp, by simp, by simp, by simp, hm1, by simp, ?_, Kp.refl _ _⟩
      have := R0.out
      simpa using this
    case round =>
      obtain ⟨S, V, hS, hne, hp, hV, hle2, rfl, hrb, hk⟩ := hrel
      have RB : Hid (Rb wr g (fs (A ++ S ++ (V ++ B))) rest) := hrb
      have KK : Hid (Kp g w wr) := hk
      have HS : Hid (S.Pairwise lt ∧ S.Perm ((u :: U').take S.length)) := ⟨hS, hp⟩
      clear hrb hk hS hp
      obtain ⟨i, hi⟩ : ∃ i, a + S.length = i := ⟨_, rfl⟩
      rw [hi]
      by_cases he : S.length = m
      · have hlt : ¬ ((i : Nat) : Int) < ((q : Nat) : Int) := by omega
        have FIN : Hid (∃ S', S'.Perm (u :: U') ∧ S'.Pairwise lt ∧ Rb wr g (fs (A ++ S' ++ B)) rest ∧ Kp g w wr) := by
          have h1 : (u :: U').length = m := Hm.out
          have h2 : V = [] := by rw [hV]; exact List.drop_eq_nil_of_le (by omega)
          have h3 := HS.out.2
          rw [List.take_of_length_le (by omega)] at h3
          have h4 := RB.out
          rw [h2] at h4
          exact ⟨S, h3, HS.out.1, by simpa using h4, KK.out⟩
        clear hV
        go_wp2
        go_end0
        exact ⟨rfl, FIN⟩
      · have hlt : ((i : Nat) : Int) < ((q : Nat) : Int) := by omega
        have hUl : (u :: U').length = m := Hm.out
        obtain ⟨x, V', hVx⟩ : ∃ x V', V = x :: V' := by
          cases hv : V with
          | nil =>
            rw [hV] at hv
            have := List.drop_eq_nil_iff.1 hv
            omega
          | cons x V' => exact ⟨x, V', rfl⟩
        have HX : Hid (∀ y ∈ S, y.2 < x.2) := fun y hy => by
          have hy2 := HS.out.2.mem_iff.1 hy
          have hsp : (u :: U') = (u :: U').take S.length ++ x :: V' := by rw [← hVx, hV, List.take_append_drop]
          have h2 := HU.out
          rw [hsp, List.pairwise_append] at h2
          exact h2.2.2 y hy2 x (List.mem_cons_self ..)
        have HV : Hid ((u :: U').take (S.length + 1) = (u :: U').take S.length ++ [x] ∧ (u :: U').drop (S.length + 1) = V') := by
          have hsp : (u :: U').drop S.length = x :: V' := by rw [← hV, hVx]
          refine ⟨?_, ?_⟩
          · rw [List.take_add_one, ← List.head?_drop, hsp]; rfl
          · rw [← List.drop_drop, hsp]; rfl
        have RX : Hid (Rb wr g (fs (A ++ S ++ x :: (V' ++ B))) rest) := by
          have := RB.out
          rw [hVx] at this
          exact this
        clear hV RB hVx
        go_wp2_with fail
        go_loopw [9] (fun jv W => IsoI A S x (V' ++ B) g rest w a jv W) (fun jv _ => (intOf jv).toNat)
        case atStart => exact ⟨S, [], by rw [hi], by simp, by simp, RX, KK⟩
        case round =>
          obtain ⟨S1, S2, rfl, h12, h2x, hrb, hk⟩ := hrel
          have RB : Hid (Rb wr g (fs (A ++ S1 ++ x :: (S2 ++ (V' ++ B)))) rest) := hrb
          have K1 : Hid (Kp g w wr) := hk
          have H2 : Hid (∀ y ∈ S2, lt x y) := h2x
          have H12 : Hid (S1 ++ S2 = S) := h12
          have hj : a + S1.length < L := by
            have h1 := congrArg List.length h12
            simp at h1
            omega
          have hji : ((a + S1.length : Nat) : Int) < (L : Int) := by omega
          clear hrb hk h2x h12
          rcases List.eq_nil_or_concat S1 with h0 | ⟨S1', y, h0⟩
          · subst h0
            have hgt : ¬ ((a : Nat) : Int) < ((a + ([] : List T).length : Nat) : Int) := by simp
            have NEXT : Hid (∃ (S' V2 : List T), S'.Pairwise lt ∧ S' ≠ [] ∧ S'.Perm ((u :: U').take S'.length) ∧ V2 = (u :: U').drop S'.length ∧ S'.length ≤ m ∧ S'.length = S.length + 1 ∧ Rb wr g (fs (A ++ S' ++ (V2 ++ B))) rest ∧ Kp g w wr) := by
              have e := H12.out
              simp only [List.nil_append] at e
              have hl : (x :: S2).length = S.length + 1 := by rw [e]; rfl
              refine ⟨x :: S2, V', ?_, by simp, ?_, ?_, by omega, hl, ?_, K1.out⟩
              · exact List.pairwise_cons.2 ⟨H2.out, by rw [e]; exact HS.out.1⟩
              · rw [hl, HV.out.1, e]
                exact ((HS.out.2.cons x).trans (List.perm_append_singleton x _).symm)
              · rw [hl, HV.out.2]
              · have := RB.out
                simpa using this
            simp only [List.length_nil, Nat.add_zero]
            go_upto_region 4 with fail
            go_quiet (fail)
            go_wp2
            go_round
            case rel =>
              obtain ⟨S', V2, q1, q2, q3, q4, q5, q6, q7, q8⟩ := NEXT.out
              exact ⟨S', V2, q1, q2, q3, q4, q5, by rw [q6, ← Nat.add_assoc, hi]; go_num, q7, q8.drewN _⟩
            case measure => simp [intOf]; omega
          · subst h0
            obtain ⟨k, hk⟩ : ∃ k, a + S1'.length = k := ⟨_, rfl⟩
            have hk1 : a + (S1'.concat y).length = k + 1 := by rw [← hk]; simp; omega
            have hkL : k + 1 < L := by omega
            have Hx : Hid ((fs (A ++ S1'.concat y ++ x :: (S2 ++ (V' ++ B))))[k + 1]? = some x.1) := by
              unfold Hid
              rw [← hk1, ← Ha.out]
              exact at_x A _ x _
            have Hy : Hid ((fs (A ++ S1'.concat y ++ x :: (S2 ++ (V' ++ B))))[k]? = some y.1) := by
              unfold Hid
              rw [← hk, ← Ha.out, List.concat_eq_append]
              exact at_y A _ y _
            have FC : Hid (∀ W, Below wr.heap.size wr W → W.cell? ⟨g, (k + 1) * 4, none⟩ = some (.int .i64 x.1.player) ∧ W.cell? ⟨g, (k + 1) * 4 + 1, none⟩ = some (.int .i64 x.1.unit) ∧ W.cell? ⟨g, (k + 1) * 4 + 2, none⟩ = some (.int .i64 x.1.what) ∧ W.cell? ⟨g, (k + 1) * 4 + 3, none⟩ = some (.int .i64 x.1.arg) ∧ W.cell? ⟨g, k * 4, none⟩ = some (.int .i64 y.1.player) ∧ W.cell? ⟨g, k * 4 + 1, none⟩ = some (.int .i64 y.1.unit) ∧ W.cell? ⟨g, k * 4 + 2, none⟩ = some (.int .i64 y.1.what) ∧ W.cell? ⟨g, k * 4 + 3, none⟩ = some (.int .i64 y.1.arg)) := fun W hW => by
              have r := RB.out.below hW RB.out.lt
              obtain ⟨x0, x1, x2, x3⟩ := r.cells Hx.out
              obtain ⟨y0, y1, y2, y3⟩ := r.cells Hy.out
              exact ⟨x0, x1, x2, x3, y0, y1, y2, y3⟩
            have CC : Hid (∀ W, Below wr.heap.size wr W → Calls Tryz.prog 105 #[.agg #[.int .i64 x.1.player, .int .i64 x.1.unit, .int .i64 x.1.what, .int .i64 x.1.arg], .agg #[.int .i64 y.1.player, .int .i64 y.1.unit, .int .i64 y.1.what, .int .i64 y.1.arg]] W fun e w' => e = .returned (.int .i64 (cmpo x.1 y.1)) ∧ Below wr.heap.size wr w') := fun W hW => (compare_any x.1 y.1 W).mono fun e w' ⟨h1, h2⟩ => ⟨h1, hW.trans (h2.mono hW.size)⟩
            have ec := ecmp
            have hgt : ((a : Nat) : Int) < ((k : Nat) : Int) + 1 := by omega
            have kpos : ¬ ((k : Nat) : Int) + 1 < 0 := by omega
            have hki : ((k : Nat) : Int) + 1 < (L : Int) := by omega
            have hki0 : ((k : Nat) : Int) < (L : Int) := by omega
            have kk1 : ((k : Nat) : Int) + 1 - 1 = k := by omega
            have kw : IntKind.i64.wrap ((k : Nat) : Int) = k := by rw [IntKind.wrap_i64]; omega
            have e1 : ((a + (S1'.concat y).length : Nat) : Int) = (k : Int) + 1 := by rw [hk1]; rfl
            rw [e1]
            clear hji hj
            go_upto_region 4 with fail
            refine wp_region_class 16 (fun W => Below wr.heap.size wr W) (by kernel_rfl) (by kernel_rfl) (Below.refl _ _).drew ?_
            simp only [List.take_succ_cons, List.take_zero, List.drop_succ_cons, List.drop_zero]
            refine head_step (.int .i64 ((k : Int) + 1)) (by go_simp) (fun W hW => by go_simp) ?_
            go_simp
            refine head_step (.int .i64 (a : Int)) (by go_simp) (fun W hW => by go_simp) ?_
            go_simp
            refine head_step (.bool true) (by go_simp) (fun W hW => by go_simp) ?_
            go_simp
            refine head_step (.bool true) (by go_simp) (fun W hW => by go_simp) ?_
            go_simp
            refine head_step (.func (.func 105) #[] #[]) (by go_simp) (fun W hW => by go_simp) ?_
            go_simp
            refine head_step (.slice (some ⟨g, 0, none⟩) L cap) (by go_simp) (fun W hW => by go_simp) ?_
            go_simp
            refine head_step (.int .i64 ((k : Int) + 1)) (by go_simp) (fun W hW => by go_simp) ?_
            go_simp
            refine head_step (.pointer (some ⟨g, (k + 1) * 4, none⟩)) (by go_simp) (fun W hW => by go_simp) ?_
            go_simp
            refine head_step (.agg #[.int .i64 x.1.player, .int .i64 x.1.unit, .int .i64 x.1.what, .int .i64 x.1.arg]) (by go_simp) (fun W hW => by obtain ⟨x0, x1, x2, x3, -⟩ := FC.out W hW; go_simp) ?_
            go_simp
            refine head_step (.slice (some ⟨g, 0, none⟩) L cap) (by go_simp) (fun W hW => by go_simp) ?_
            go_simp
            refine head_step (.int .i64 ((k : Int) + 1)) (by go_simp) (fun W hW => by go_simp) ?_
            go_simp
            refine head_step (.int .i64 (k : Int)) (by go_simp) (fun W hW => by go_simp) ?_
            go_simp
            refine head_step (.pointer (some ⟨g, k * 4, none⟩)) (by go_simp) (fun W hW => by go_simp) ?_
            go_simp
            refine head_step (.agg #[.int .i64 y.1.player, .int .i64 y.1.unit, .int .i64 y.1.what, .int .i64 y.1.arg]) (by go_simp) (fun W hW => by obtain ⟨-, -, -, -, y0, y1, y2, y3⟩ := FC.out W hW; go_simp) ?_
            go_simp
            refine head_call (.int .i64 (cmpo x.1 y.1)) 105 #[.agg #[.int .i64 x.1.player, .int .i64 x.1.unit, .int .i64 x.1.what, .int .i64 x.1.arg], .agg #[.int .i64 y.1.player, .int .i64 y.1.unit, .int .i64 y.1.what, .int .i64 y.1.arg]] (by go_simp) (fun W hW => by go_simp) (fun W hW => CC.out W hW) ?_
            go_simp
            refine head_step (.bool (decide (cmpo x.1 y.1 < 0))) (by go_simp) (fun W hW => by go_simp) ?_
            go_simp
            intro W hW
            have RW : Hid (Rb W g (fs (A ++ S1'.concat y ++ x :: (S2 ++ (V' ++ B)))) rest) := RB.out.below hW RB.out.lt
            have KW : Hid (Kp g w W) := K1.out.trans (Kp.of hW)
            have IX : Hid (∀ z ∈ S1'.concat y, z.2 < x.2) := fun z hz => HX.out z (by rw [← H12.out]; exact List.mem_append_left _ hz)
            have PW : Hid ((S1'.concat y ++ S2).Pairwise lt) := by unfold Hid; rw [H12.out]; exact HS.out.1
            by_cases hc : cmpo x.1 y.1 < 0
            · have LX : Hid (lt x y) := (ask_lt (IX.out y (by simp))).1 ((klt_iff _ _).1 hc)
              obtain ⟨x0, x1, x2, x3, y0, y1, y2, y3⟩ := FC.out W hW
              have f0 := RW.out.thaw ((k + 1) * 4)
              have f1 := RW.out.thaw ((k + 1) * 4 + 1)
              have f2 := RW.out.thaw ((k + 1) * 4 + 2)
              have f3 := RW.out.thaw ((k + 1) * 4 + 3)
              have f4 := RW.out.thaw (k * 4)
              have f5 := RW.out.thaw (k * 4 + 1)
              have f6 := RW.out.thaw (k * 4 + 2)
              have f7 := RW.out.thaw (k * 4 + 3)
              clear hW FC CC
              go_wp2_with fail
              go_region
              have hlen : (fs (A ++ S1'.concat y ++ x :: (S2 ++ (V' ++ B)))).length = L := by
                have h1 := HL2.out
                have h2 := congrArg List.length H12.out
                have h3 := congrArg List.length HV.out.2
                simp [fs] at h2 h3 ⊢
                have h4 : (u :: U').length = m := Hm.out
                have h5 := Ha.out
                simp at h4 h1
                omega
              have rr := (RW.out.put (i := k + 1) (by rw [hlen]; exact hkL) y.1).put (i := k) (by rw [List.length_set, hlen]; omega) x.1
              have el : ((fs (A ++ S1'.concat y ++ x :: (S2 ++ (V' ++ B)))).set (k + 1) y.1).set k x.1 = fs (A ++ S1' ++ x :: (y :: S2 ++ (V' ++ B))) := by
                have hP : (fs (A ++ S1')).length = k := by simp [fs, ← hk, Ha.out]
                have h1 := swap_two (fs (A ++ S1')) y.1 x.1 (fs (S2 ++ (V' ++ B)))
                rw [hP] at h1
                have e1 : fs (A ++ S1'.concat y ++ x :: (S2 ++ (V' ++ B))) = fs (A ++ S1') ++ y.1 :: x.1 :: fs (S2 ++ (V' ++ B)) := by simp [fs]
                have e2 : fs (A ++ S1' ++ x :: (y :: S2 ++ (V' ++ B))) = fs (A ++ S1') ++ x.1 :: y.1 :: fs (S2 ++ (V' ++ B)) := by simp [fs]
                rw [e1, e2]
                exact h1
              rw [el] at rr
              have RR : Hid (Rb _ g (fs (A ++ S1' ++ x :: (y :: S2 ++ (V' ++ B)))) rest) := rr
              have KR : Hid (Kp g w _) := (((((((KW.out.trans (Kp.set W ((k + 1) * 4) (.int .i64 y.1.player))).trans (Kp.set _ ((k + 1) * 4 + 1) (.int .i64 y.1.unit))).trans (Kp.set _ ((k + 1) * 4 + 2) (.int .i64 y.1.what))).trans (Kp.set _ ((k + 1) * 4 + 3) (.int .i64 y.1.arg))).trans (Kp.set _ (k * 4) (.int .i64 x.1.player))).trans (Kp.set _ (k * 4 + 1) (.int .i64 x.1.unit))).trans (Kp.set _ (k * 4 + 2) (.int .i64 x.1.what))).trans (Kp.set _ (k * 4 + 3) (.int .i64 x.1.arg))
              clear rr
              go_wp2
              go_roundw
              case rel =>
                refine ⟨S1', y :: S2, by rw [hk], by rw [← H12.out]; simp, fun z hz => ?_, RR.out.below (Below.refl _ _).drew RR.out.lt, KR.out.trans (Kp.of (Below.refl _ _).drew)⟩
                rcases List.mem_cons.1 hz with rfl | hz
                · exact LX.out
                · exact H2.out z hz
              case measure => simp [intOf]
            · have LX : Hid (lt y x) := (ask_ge (IX.out y (by simp))).1 (fun h => hc ((klt_iff _ _).2 h))
              have NEXT : Hid (∃ (S' V2 : List T), S'.Pairwise lt ∧ S' ≠ [] ∧ S'.Perm ((u :: U').take S'.length) ∧ V2 = (u :: U').drop S'.length ∧ S'.length ≤ m ∧ S'.length = S.length + 1 ∧ Rb W g (fs (A ++ S' ++ (V2 ++ B))) rest ∧ Kp g w W) := by
                have hl : (S1'.concat y ++ x :: S2).length = S.length + 1 := by
                  rw [← H12.out]
                  simp
                  omega
                refine ⟨S1'.concat y ++ x :: S2, V', ?_, by simp, ?_, ?_, by omega, hl, ?_, KW.out⟩
                · refine put_rise PW.out (fun z hz => ?_) H2.out
                  rw [List.concat_eq_append] at hz
                  rcases List.mem_append.1 hz with hz | hz
                  · have h1 := PW.out
                    rw [List.concat_eq_append, List.append_assoc, List.pairwise_append] at h1
                    exact lt_trans (h1.2.2 z hz y (by simp)) LX.out
                  · simp at hz
                    subst hz
                    exact LX.out
                · rw [hl, HV.out.1]
                  refine List.Perm.trans List.perm_middle ?_
                  rw [H12.out]
                  exact ((HS.out.2.cons x).trans (List.perm_append_singleton x _).symm)
                · rw [hl, HV.out.2]
                · have := RW.out
                  simpa using this
              clear hW FC CC
              go_wp2
              go_round
              case rel =>
                obtain ⟨S', V2, q1, q2, q3, q4, q5, q6, q7, q8⟩ := NEXT.out
                exact ⟨S', V2, q1, q2, q3, q4, q5, by rw [q6, ← Nat.add_assoc, hi]; go_num, q7, q8⟩
              case measure => simp [intOf]; omega
end Go.Proofs.YteieikgkmfglaaaGreatDoor

