/- Slices of api.Order that the call itself makes, by append. · A range over strings.Lines: what the round and the iterator leave as it was. · The program's orders: a line that is read, behind others. · What Parse gives of a text. · The program's orders: Parse. · A list of bytes as a text. · strings.Builder: what is written is there. · A region whose operations read, and call what makes memory, ahead of a tail in one order: it may be walked in the text's order. · orders.write: an order as text. · The program's orders: which of two stands ahead. · A stable order: elements with the place that they had. Plain mathematics. · orders.unit as a map's key; a map of such keys that a call makes. · orders.Last as mathematics: each unit's last order, and those to train. -/
import Derived.Test.YtelbdcljdfadbaaDoorZOrdersBack1
import Derived.OwnWalk
import Derived.Deep.AppendLies
import Derived.Test.YtelbdcljdfadbaaDoorZOrdersBack3
import Derived.Test.YtelbdcljdfadbaaDoorRows
import Derived.WideShapes
import Derived.StillTail
import Derived.Below
import Derived.Deep.DeepCutAuto
import Derived.Laws.Closers25
import Derived.IntWalk
import Derived.LoopN
import Derived.Maps.Own
import Derived.Maps.OwnOps
import Derived.Maps.Views
import Derived.Carry
import Derived.DeepKeys4
namespace Go.Proofs.YtelbdcljdfadbaaDoor
open Go.RowKit
set_option linter.unusedVariables false

theorem info_or : (Tryd.prog.info? 63).map (fun i => (i.zero, i.size, i.bytes)) = some (some (.agg #[.int .i64 0, .int .i64 0, .int .i64 0, .int .i64 0]), 4, 32) := by kernel_rfl
def OrV.cs (k : OrV) : List Value := [.int .i64 k.player, .int .i64 k.unit, .int .i64 k.what, .int .i64 k.arg]
theorem flat_or : ∀ (ks : List OrV) (i j : Nat) (k : OrV), ks[i]? = some k → j < 4 → (ks.flatMap OrV.cs)[i * 4 + j]? = k.cs[j]?
  | [], i, j, k, h, _ => by simp at h
  | x :: ks, 0, j, k, h, hj => by
    simp at h
    subst h
    rw [List.flatMap_cons, List.getElem?_append_left (by simp [OrV.cs]; omega)]
    simp
  | x :: ks, i + 1, j, k, h, hj => by
    rw [List.flatMap_cons, List.getElem?_append_right (by simp [OrV.cs]; omega)]
    have : (i + 1) * 4 + j - (OrV.cs x).length = i * 4 + j := by simp [OrV.cs]; omega
    rw [this]
    exact flat_or ks i j k (by simpa using h) hj
/-- v is a slice of them, in a block of its own from base on. -/
def Oro (w : World) (base : Nat) (v : Value) (ks : List OrV) : Prop := w.ownsRow base 63 4 v ks.length (ks.flatMap OrV.cs)
theorem Oro.nil (w : World) (base : Nat) : Oro w base (.slice none 0 0) [] := World.ownsRow_nil _ _ _ _
theorem Oro.below {w w' : World} {base : Nat} {v : Value} {ks : List OrV} (h : Oro w base v ks) (hb : Below w.heap.size w w') : Oro w' base v ks :=
  World.ownsRow.kept h (row := none) ⟨hb.os, hb.tape, hb.output, hb.size, fun k hk _ => hb.block k hk⟩ (by cases v.ownBlock <;> simp)
theorem Oro.kept {w w' : World} {base : Nat} {v : Value} {ks : List OrV} {row : Option Nat} (h : Oro w base v ks) (hg : w.grownBy w' row) (hne : v.ownBlock = none ∨ v.ownBlock ≠ row) : Oro w' base v ks := World.ownsRow.kept h hg hne
theorem Oro.alloc {w : World} {base : Nat} {v : Value} {ks : List OrV} (h : Oro w base v ks) (o : Obj) : Oro (w.alloc o) base v ks := World.ownsRow.alloc h o
theorem Oro.block {w : World} {base : Nat} {v : Value} {ks : List OrV} (h : Oro w base v ks) : ∀ k, v.ownBlock = some k → base ≤ k ∧ k < w.heap.size := World.ownsRow.lt h
theorem Oro.mono {w : World} {base base' : Nat} {v : Value} {ks : List OrV} (h : Oro w base v ks) (hb : base' ≤ base) : Oro w base' v ks := by
  refine ⟨h.1, ?_⟩
  rcases h.2 with h1 | ⟨g, cap, cur, h1, h2, h3⟩
  · exact .inl h1
  · exact .inr ⟨g, cap, cur, h1, Nat.le_trans hb h2, h3⟩
theorem Oro.l {w : World} {base : Nat} {v : Value} {ks : List OrV} (h : Oro w base v ks) : Orl w v ks := by
  rcases h.2 with ⟨hv, h0⟩ | ⟨g, cap, cur, hv, hb, hg, h1, h2, h3, h4⟩
  · exact ⟨none, 0, by rw [hv, h0], by omega, by omega, fun hn => absurd (List.length_eq_zero_iff.1 h0) hn⟩
  · refine ⟨_, cap, hv, h1, by unfold maxLen at h2; omega, fun _ => ⟨_, rfl, lt_of_block hg, fun i k hi => ?_⟩⟩
    have hil : i < ks.length := (List.getElem?_eq_some_iff.1 hi).1
    have h5 : w.ownsRow base 63 4 (.slice (some ⟨g, 0, none⟩) ks.length cap) ks.length (ks.flatMap OrV.cs) := by rw [← hv]; exact h
    have hc : ∀ j u, j < 4 → k.cs[j]? = some u → w.cell? ⟨g, i * 4 + j, none⟩ = some u := fun j u hj hu => by
      rw [h5.cellAt (i * 4 + j) (by omega), flat_or ks i j k hi hj, hu]
    rw [Addr.add_lit, Nat.zero_add]
    exact ⟨hc 0 _ (by decide) rfl, hc 1 _ (by decide) rfl, hc 2 _ (by decide) rfl, hc 3 _ (by decide) rfl⟩
theorem Oro.len {w : World} {base : Nat} {v : Value} {ks : List OrV} (h : Oro w base v ks) : ∃ a c, v = .slice a ks.length c := by
  obtain ⟨a, c, h1, -⟩ := h.l
  exact ⟨a, c, h1⟩

/-- one more. -/
theorem app_or {ops : Array Oper} {rest : List Oper} {o : Oper} {a : Act} {Q : Exit → Act → World → Prop} (w : World) (hgd : o.guard = none) (s x : Operand)
    (ho : o.op = .call { callee := .builtin .append, args := #[s, x], argTypes := #[57, 57] }) (base : Nat) (v : Value) (ks : List OrV) (hs : a.eval s = v) (hown : Oro w base v ks)
    (b : Nat) (d : OrV) (hx : a.eval x = .slice (some ⟨b, 0, none⟩) 1 1) (hd : Orc w ⟨b, 0, none⟩ d) (hl : ks.length ≤ 1000000) (hbase : base ≤ w.heap.size)
    (h : ∀ g cap w', Oro w' base (.slice (some ⟨g, 0, none⟩) (ks.length + 1) cap) (ks ++ [d]) → w.grownBy w' v.ownBlock → (v.ownBlock = some g ∨ g = w.heap.size) → g < w'.heap.size → wpList Tryd.prog ops Q rest (a.put o.dst (.slice (some ⟨g, 0, none⟩) (ks.length + 1) cap)) w') :
    wpList Tryd.prog ops Q (o :: rest) a w := by
  obtain ⟨i0, hi, hz0, hz1, hz2⟩ := info_parts info_or
  refine wpList_append_lies w hgd s x 57 ho base 63 i0 (.agg #[.int .i64 0, .int .i64 0, .int .i64 0, .int .i64 0]) 4 32 Tryd.underlying57 hi hz0 hz1 hz2 rfl (by decide) v ks.length _ hs hown ⟨b, 0, none⟩ 1 1 d.cs hx rfl ?_ ?_ (by decide) (by unfold maxLen; omega) (by omega) hbase _ rfl ?_
  · intro j u hj
    have hjn : j < 4 := (List.getElem?_eq_some_iff.1 hj).1
    rw [Addr.add_lit, Nat.zero_add]
    match j, hjn, hj with
    | 0, _, hj => simp [OrV.cs] at hj; subst hj; exact hd.c0
    | 1, _, hj => simp [OrV.cs] at hj; subst hj; exact hd.c1
    | 2, _, hj => simp [OrV.cs] at hj; subst hj; exact hd.c2
    | 3, _, hj => simp [OrV.cs] at hj; subst hj; exact hd.c3
  · intro u hu
    simp [OrV.cs] at hu
    rcases hu with rfl | rfl | rfl | rfl <;> rfl
  · intro g cap w' h1 h2 h3 h4
    refine h g cap w' ?_ h2 h3 h4
    unfold Oro
    rw [List.length_append, List.flatMap_append]
    simpa using h1
end Go.Proofs.YtelbdcljdfadbaaDoor

namespace Go.Proofs.YtelbdcljdfadbaaDoor
open Go.RowKit
set_option linter.unusedVariables false

theorem Oro.aside {B cb : Nat} {W W' : World} {base : Nat} {v : Value} {ks : List OrV} (h : Oro W base v ks) (a : Aside B cb W W') (hc : cb < base) : Oro W' base v ks := ownsRow_aside h a hc
theorem Wm.aside {B cb : Nat} {W W' : World} {b n : Nat} {D : DataW Unit} (h : Wm W b n D) (a : Aside B cb W W') (hb : b < B) (hne : b ≠ cb) : Wm W' b n D := by
  obtain ⟨es, clock, h1, h2⟩ := h
  exact ⟨es, clock, a.same b _ h1 hne (.inl hb), h2⟩
theorem Stays.grown {B cb : Nat} {W W' : World} {base : Nat} {v : Value} {ks : List OrV} (h : Oro W base v ks) (g : W.grownBy W' v.ownBlock) (hc : cb < base) : Stays B cb W W' := Stays.grownRow h g hc

/-- one more, in a round. -/
theorem app_or_in {F : Fence} {n : Nat} {ops : Array Oper} {rest : List Oper} {o : Oper} {a : Act} {Q : Exit → Act → World → Prop} (w : World) (hgd : o.guard = none) (s x : Operand)
    (ho : o.op = Op.call { callee := Callee.builtin Builtin.append, args := #[s, x], argTypes := #[57, 57] }) (base : Nat) (v : Value) (ks : List OrV) (hs : a.eval s = v) (hown : Oro w base v ks)
    (b : Nat) (d : OrV) (hx : a.eval x = .slice (some ⟨b, 0, none⟩) 1 1) (hd : Orc w ⟨b, 0, none⟩ d) (hl : ks.length ≤ 1000000) (hbase : base ≤ w.heap.size)
    (h : ∀ v' w', Oro w' base v' (ks ++ [d]) → w.grownBy w' v.ownBlock → wpListIn F n Tryd.prog ops Q rest (a.put o.dst v') w') :
    wpListIn F n Tryd.prog ops Q (o :: rest) a w := by
  obtain ⟨i0, hi, hz0, hz1, hz2⟩ := info_parts info_or
  refine wpListIn_append_own w hgd s x 57 ho base 63 i0 (.agg #[.int .i64 0, .int .i64 0, .int .i64 0, .int .i64 0]) 4 32 Tryd.underlying57 hi hz0 hz1 hz2 rfl (by decide) v ks.length _ hs hown ⟨b, 0, none⟩ 1 1 d.cs hx rfl ?_ ?_ (by unfold maxLen; omega) (by omega) hbase ?_
  · intro j u hj
    have hjn : j < 4 := (List.getElem?_eq_some_iff.1 hj).1
    rw [Addr.add_lit, Nat.zero_add]
    match j, hjn, hj with
    | 0, _, hj => simp [OrV.cs] at hj; subst hj; exact hd.c0
    | 1, _, hj => simp [OrV.cs] at hj; subst hj; exact hd.c1
    | 2, _, hj => simp [OrV.cs] at hj; subst hj; exact hd.c2
    | 3, _, hj => simp [OrV.cs] at hj; subst hj; exact hd.c3
  · intro u hu
    simp [OrV.cs] at hu
    rcases hu with rfl | rfl | rfl | rfl <;> rfl
  · intro v' w' h1 h2 _
    refine h v' w' ?_ h2
    unfold Oro
    rw [List.length_append, List.flatMap_append]
    simpa using h1
end Go.Proofs.YtelbdcljdfadbaaDoor

namespace Go.Proofs.YtelbdcljdfadbaaDoor
open Go.RowKit
set_option linter.unusedVariables false

/-- what is said of a line, behind so many others: the order; or the fault. -/
def lineFault (n : Nat) (l : List UInt8) : Int := match Od.ofLine l with
  | none => 2
  | some o => if n = 60 then 4 else Od.fault o
def OnextSays (n : Nat) (l : List UInt8) (w : World) (e : Ending) (w' : World) : Prop := ∃ (o : OrV) (v : Value), e = .returned (.tuple #[o.val, v]) ∧ Er v (lineFault n l) ∧ (lineFault n l = 0 → Od.ofLine l = some o) ∧ Below w.heap.size w w'

set_option maxRecDepth 100000 in
set_option maxHeartbeats 8000000 in
theorem onext_any (b n : Nat) (hn : n ≤ 60) (s : ByteArray) (w : World) (hsx : s.size ≤ 9223372036854775806) (hm : Wm w b 4 W4) (hp : Pw w) (hy : Sy w) :
    Calls Tryd.prog 50 #[.map (some b), .int .i64 (n : Nat), .string s] w (OnextSays n s.data.toList w) := by
  have P0 : Hid (Pw w ∧ Sy w ∧ Wm w b 4 W4) := ⟨hp, hy, hm⟩
  have B0 : Hid (Below w.heap.size w (w.alloc (Obj.cells #[.int .i64 0, .int .i64 0, .int .i64 0, .int .i64 0] 63))) := (Below.refl _ _).alloc (Nat.le_refl _) _
  have Z0 : Hid (Orb (w.alloc (Obj.cells #[.int .i64 0, .int .i64 0, .int .i64 0, .int .i64 0] 63)) w.heap.size ⟨0, 0, 0, 0⟩) := Orb.mk' w ⟨0, 0, 0, 0⟩
  clear hp hy hm
  go_enter Tryd.func50, Tryd.ntmps50
  go_wp2_with fail
  generalize hw1 : w.alloc (Obj.cells #[.int .i64 0, .int .i64 0, .int .i64 0, .int .i64 0] 63) = w1 at *
  clear hw1
  refine (oread_any b s w1 hsx (P0.out.2.2.below B0.out P0.out.2.2.lt) (P0.out.1.below B0.out) (P0.out.2.1.below B0.out)).mono ?_
  rintro e w2 ⟨o, ok, rfl, hok, b2⟩
  have B2 : Hid (Below w.heap.size w w2) := B0.out.trans (b2.mono B0.out.size)
  have Z2 : Hid (Orb w2 w.heap.size ⟨0, 0, 0, 0⟩) := Z0.out.below b2 Z0.out.lt
  clear B0 Z0 b2
  obtain ⟨op, ou, on, oa⟩ := o
  have ba : Below w2.heap.size w2 (w2.alloc (Obj.cells #[.int .i64 op, .int .i64 ou, .int .i64 on, .int .i64 oa] 63)) := (Below.refl _ _).alloc (Nat.le_refl _) _
  have B3 : Hid (Below w.heap.size w (w2.alloc (Obj.cells #[.int .i64 op, .int .i64 ou, .int .i64 on, .int .i64 oa] 63))) := B2.out.trans (ba.mono B2.out.size)
  have Z3 : Hid (Orb (w2.alloc (Obj.cells #[.int .i64 op, .int .i64 ou, .int .i64 on, .int .i64 oa] 63)) w.heap.size ⟨0, 0, 0, 0⟩) := Z2.out.below ba Z2.out.lt
  have O3 : Hid (Orb (w2.alloc (Obj.cells #[.int .i64 op, .int .i64 ou, .int .i64 on, .int .i64 oa] 63)) w2.heap.size ⟨op, ou, on, oa⟩) := Orb.mk' w2 ⟨op, ou, on, oa⟩
  have Hlt : Hid (w.heap.size < w2.heap.size) := Z2.out.lt
  clear ba B2 Z2
  unfold OrV.val
  simp only
  rcases hok with ⟨rfl, hl⟩ | ⟨rfl, hl⟩
  · by_cases h60 : n = 60
    · have LF : Hid (lineFault n s.data.toList = 4) := by unfold Hid lineFault; rw [hl]; simp [h60]
      subst h60
      clear hl
      have z9 := Z3.out.put 0 0 0 0
      have B9 : Hid (Below w.heap.size w (((((w2.alloc (Obj.cells #[.int .i64 op, .int .i64 ou, .int .i64 on, .int .i64 oa] 63)).setCell ⟨w.heap.size, 0, none⟩ (.int .i64 0)).setCell ⟨w.heap.size, 1, none⟩ (.int .i64 0)).setCell ⟨w.heap.size, 2, none⟩ (.int .i64 0)).setCell ⟨w.heap.size, 3, none⟩ (.int .i64 0))) := put_below 0 0 0 0 B3.out (Nat.le_refl _)
      obtain ⟨y0, y1, y2, y3⟩ := Z3.out.cells
      have f0 := Z3.out.thaw 0
      have f1 := Z3.out.thaw 1
      have f2 := Z3.out.thaw 2
      have f3 := Z3.out.thaw 3
      simp only at y0 y1 y2 y3
      go_wp2
      generalize (((((w2.alloc (Obj.cells #[.int .i64 op, .int .i64 ou, .int .i64 on, .int .i64 oa] 63)).setCell ⟨w.heap.size, 0, none⟩ (.int .i64 0)).setCell ⟨w.heap.size, 1, none⟩ (.int .i64 0)).setCell ⟨w.heap.size, 2, none⟩ (.int .i64 0)).setCell ⟨w.heap.size, 3, none⟩ (.int .i64 0)) = w9 at *
      clear y0 y1 y2 y3 f0 f1 f2 f3
      obtain ⟨x0, x1, x2, x3⟩ := z9.cells
      refine bodyPost_ret (v := .tuple #[OrV.val ⟨0, 0, 0, 0⟩, .iface 86 (.int .i64 4)]) (by simp [results, Tryd.results50, go_sem, x0, x1, x2, x3, OrV.val]) rfl ?_
      exact ⟨⟨0, 0, 0, 0⟩, _, rfl, by rw [LF.out]; exact Er.no (by decide), (fun h => by rw [LF.out] at h; cases h), B9⟩
    · have LF : Hid (lineFault n s.data.toList = Od.fault ⟨op, ou, on, oa⟩) := by unfold Hid lineFault; rw [hl]; simp [h60]
      have h60b : ((n : Int) == 60) = false := by rw [beq_eq_false_iff_ne]; omega
      have HL : Hid (Od.ofLine s.data.toList = some ⟨op, ou, on, oa⟩) := hl
      clear hl
      go_upto_region 6 with fail
      generalize (w2.alloc (Obj.cells #[.int .i64 op, .int .i64 ou, .int .i64 on, .int .i64 oa] 63)) = w3 at *
      have FF : Hid (∀ W, Below w3.heap.size w3 W → W.cell? ⟨w2.heap.size, 0, none⟩ = some (.int .i64 op) ∧ W.cell? ⟨w2.heap.size, 1, none⟩ = some (.int .i64 ou) ∧ W.cell? ⟨w2.heap.size, 2, none⟩ = some (.int .i64 on) ∧ W.cell? ⟨w2.heap.size, 3, none⟩ = some (.int .i64 oa) ∧ W.cell? ⟨w.heap.size, 0, none⟩ = some (.int .i64 0) ∧ W.cell? ⟨w.heap.size, 1, none⟩ = some (.int .i64 0) ∧ W.cell? ⟨w.heap.size, 2, none⟩ = some (.int .i64 0) ∧ W.cell? ⟨w.heap.size, 3, none⟩ = some (.int .i64 0) ∧ W.frozen? ⟨w.heap.size, 0, none⟩ = false ∧ W.frozen? ⟨w.heap.size, 1, none⟩ = false ∧ W.frozen? ⟨w.heap.size, 2, none⟩ = false ∧ W.frozen? ⟨w.heap.size, 3, none⟩ = false) := fun W hW => by
        have z := Z3.out.below hW Z3.out.lt
        have o := O3.out.below hW O3.out.lt
        obtain ⟨a0, a1, a2, a3⟩ := o.cells
        obtain ⟨c0, c1, c2, c3⟩ := z.cells
        exact ⟨a0, a1, a2, a3, c0, c1, c2, c3, z.thaw 0, z.thaw 1, z.thaw 2, z.thaw 3⟩
      obtain ⟨p0, p1, p2, p3, y0, y1, y2, y3, f0, f1, f2, f3⟩ := FF.out w3 (Below.refl _ _)
      go_region_with (go_at_call 59; refine (checkOrder_any ⟨op, ou, on, oa⟩ _).mono ?_; rintro e w4 ⟨v, rfl, hv, b4⟩; have HV : Hid (Er v (Od.fault ⟨op, ou, on, oa⟩)) := hv; have B4 : Hid (Below w3.heap.size w3 w4) := (Below.refl _ _).drew.trans b4; clear hv b4; obtain ⟨pp0, pp1, pp2, pp3, yy0, yy1, yy2, yy3, ff0, ff1, ff2, ff3⟩ := FF.out w4 B4.out)
      all_goals (
        have z9 := (Z3.out.below B4.out Z3.out.lt).put op ou on oa
        have B9 : Hid (Below w.heap.size w ((((w4.setCell ⟨w.heap.size, 0, none⟩ (.int .i64 op)).setCell ⟨w.heap.size, 1, none⟩ (.int .i64 ou)).setCell ⟨w.heap.size, 2, none⟩ (.int .i64 on)).setCell ⟨w.heap.size, 3, none⟩ (.int .i64 oa))) := put_below op ou on oa (B3.out.trans (B4.out.mono B3.out.size)) (Nat.le_refl _)
        go_wp2
        generalize ((((w4.setCell ⟨w.heap.size, 0, none⟩ (.int .i64 op)).setCell ⟨w.heap.size, 1, none⟩ (.int .i64 ou)).setCell ⟨w.heap.size, 2, none⟩ (.int .i64 on)).setCell ⟨w.heap.size, 3, none⟩ (.int .i64 oa)) = w9 at *
        obtain ⟨x0, x1, x2, x3⟩ := z9.cells
        refine bodyPost_ret (v := .tuple #[OrV.val ⟨op, ou, on, oa⟩, v]) (by simp [results, Tryd.results50, go_sem, x0, x1, x2, x3, OrV.val]) rfl ?_
        exact ⟨_, v, rfl, by rw [LF.out]; exact HV, fun _ => HL.out, B9⟩)
  · have LF : Hid (lineFault n s.data.toList = 2) := by unfold Hid lineFault; rw [hl]
    clear hl
    have z9 := Z3.out.put 0 0 0 0
    have B9 : Hid (Below w.heap.size w (((((w2.alloc (Obj.cells #[.int .i64 op, .int .i64 ou, .int .i64 on, .int .i64 oa] 63)).setCell ⟨w.heap.size, 0, none⟩ (.int .i64 0)).setCell ⟨w.heap.size, 1, none⟩ (.int .i64 0)).setCell ⟨w.heap.size, 2, none⟩ (.int .i64 0)).setCell ⟨w.heap.size, 3, none⟩ (.int .i64 0))) := put_below 0 0 0 0 B3.out (Nat.le_refl _)
    obtain ⟨y0, y1, y2, y3⟩ := Z3.out.cells
    have f0 := Z3.out.thaw 0
    have f1 := Z3.out.thaw 1
    have f2 := Z3.out.thaw 2
    have f3 := Z3.out.thaw 3
    simp only at y0 y1 y2 y3
    go_wp2
    generalize (((((w2.alloc (Obj.cells #[.int .i64 op, .int .i64 ou, .int .i64 on, .int .i64 oa] 63)).setCell ⟨w.heap.size, 0, none⟩ (.int .i64 0)).setCell ⟨w.heap.size, 1, none⟩ (.int .i64 0)).setCell ⟨w.heap.size, 2, none⟩ (.int .i64 0)).setCell ⟨w.heap.size, 3, none⟩ (.int .i64 0)) = w9 at *
    clear y0 y1 y2 y3 f0 f1 f2 f3
    obtain ⟨x0, x1, x2, x3⟩ := z9.cells
    refine bodyPost_ret (v := .tuple #[OrV.val ⟨0, 0, 0, 0⟩, .iface 86 (.int .i64 2)]) (by simp [results, Tryd.results50, go_sem, x0, x1, x2, x3, OrV.val]) rfl ?_
    exact ⟨⟨0, 0, 0, 0⟩, _, rfl, by rw [LF.out]; exact Er.no (by decide), (fun h => by rw [LF.out] at h; cases h), B9⟩
end Go.Proofs.YtelbdcljdfadbaaDoor

namespace Go.Proofs.YtelbdcljdfadbaaDoor

/-- what Parse gives of a text: the orders; else which line is wrong, and how. -/
def ParSays (l : List UInt8) (ks : List OrV) (k f : Int) : Prop := match Od.parse l with
  | .inl (n, x) => ks = [] ∧ k = n ∧ f = x
  | .inr r => ks = r ∧ k = 0 ∧ f = 0
theorem ParSays.same {l : List UInt8} {ks ks' : List OrV} {k f k' f' : Int} (h : ParSays l ks k f) (h' : ParSays l ks' k' f') : ks = ks' ∧ k = k' ∧ f = f' := by
  unfold ParSays at *
  split at h
  · rename_i e
    rw [e] at h'
    simp only at h'
    exact ⟨by rw [h.1, h'.1], by rw [h.2.1, h'.2.1], by rw [h.2.2, h'.2.2]⟩
  · rename_i e
    rw [e] at h'
    simp only at h'
    exact ⟨by rw [h.1, h'.1], by rw [h.2.1, h'.2.1], by rw [h.2.2, h'.2.2]⟩
end Go.Proofs.YtelbdcljdfadbaaDoor

namespace Go.Proofs.YtelbdcljdfadbaaDoor
open Go.RowKit
set_option linter.unusedVariables false

attribute [local go_sem] Oper.semAt_some

/-- between two lines: what was read so far. -/
structure PI (w : World) (m b : Nat) (xs : List ByteArray) (W : World) : Prop where
  acc : ∃ acc v, (∀ post, Od.go [] (xs.map tl ++ post) = Od.go acc post) ∧ acc.length ≤ 60 ∧ Boxed W (m + 1) 57 v ∧ Oro W (m + 3) v acc
  box : Boxed W m 93 (.map (some b))
  map : Wm W b 4 W4
  r0 : Boxed W w.heap.size 57 (.slice none 0 0)
  r1 : Boxed W (w.heap.size + 1) 3 (.int .i64 0)
  r2 : Boxed W (w.heap.size + 1 + 1) 36 .nilIface
  below : Below w.heap.size w W
/-- a line was wrong. -/
structure PX (w : World) (xs : List ByteArray) (W : World) : Prop where
  res : ∃ (k : Nat) (f : Int) (u : Value), (∀ post, Od.go [] (xs.map tl ++ post) = .inl (k, f)) ∧ Boxed W w.heap.size 57 (.slice none 0 0) ∧ Boxed W (w.heap.size + 1) 3 (.int .i64 k) ∧ Boxed W (w.heap.size + 1 + 1) 36 u ∧ Er u f
  below : Below w.heap.size w W
theorem PI.aside {w : World} {m b : Nat} (hb : w.heap.size + 1 + 1 < b ∧ b < m) {xs : List ByteArray} {W W' : World} (h : PI w m b xs W) (a : Aside (m + 3) (m + 2) W W') : PI w m b xs W' := by
  obtain ⟨⟨acc, v, h1, h2, h3, h4⟩, h5, h6, h7, h8, h9, h10⟩ := h
  exact ⟨⟨acc, v, h1, h2, boxed_aside h3 a (by omega), h4.aside a (by omega)⟩, boxed_aside h5 a (by omega), h6.aside a (by omega) (by omega), boxed_aside h7 a (by omega), boxed_aside h8 a (by omega), boxed_aside h9 a (by omega), below_aside h10 a (by omega) (by omega)⟩
theorem PX.aside {w : World} {m b : Nat} (hb : w.heap.size + 1 + 1 < b ∧ b < m) {xs : List ByteArray} {W W' : World} (h : PX w xs W) (a : Aside (m + 3) (m + 2) W W') : PX w xs W' := by
  obtain ⟨⟨k, f, u, h1, h2, h3, h4, h5⟩, h6⟩ := h
  exact ⟨⟨k, f, u, h1, boxed_aside h2 a (by omega), boxed_aside h3 a (by omega), boxed_aside h4 a (by omega), h5⟩, below_aside h6 a (by omega) (by omega)⟩
theorem go_bad {acc : List OrV} {l : List UInt8} {r : List (List UInt8)} (h : lineFault acc.length l ≠ 0) : Od.go acc (l :: r) = .inl (acc.length, lineFault acc.length l) := by
  unfold Od.go
  unfold lineFault at *
  cases e : Od.ofLine l with
  | none => rfl
  | some o =>
    rw [e] at h
    simp only at h ⊢
    by_cases h6 : acc.length = 60
    · rw [if_pos h6, if_pos h6]
    · rw [if_neg h6] at h
      rw [if_neg h6, if_neg h, if_neg h6]
theorem go_ok {acc : List OrV} {l : List UInt8} {r : List (List UInt8)} {o : OrV} (h : lineFault acc.length l = 0) (ho : Od.ofLine l = some o) : Od.go acc (l :: r) = Od.go (acc ++ [o]) r ∧ acc.length ≠ 60 := by
  unfold lineFault at h
  rw [ho] at h
  simp only at h
  by_cases h6 : acc.length = 60
  · rw [if_pos h6] at h; cases h
  · rw [if_neg h6] at h
    refine ⟨?_, h6⟩
    conv => lhs; unfold Od.go
    rw [ho]
    simp only
    rw [if_neg h6, if_pos h]

set_option maxRecDepth 100000 in
set_option maxHeartbeats 8000000 in
theorem oparse_any (s : ByteArray) (w : World) (hsx : s.size ≤ 9223372036854775806) (hn : Nm w) (hp : Pw w) (hy : Sy w) :
    Calls Tryd.prog 22 #[.string s] w fun e w' => ∃ v k u f ks, e = .returned (.tuple #[v, .int .i64 k, u]) ∧ Orl w' v ks ∧ Er u f ∧ ParSays (tl s) ks k f ∧ Below w.heap.size w w' := by
  have P0 : Hid (Nm w ∧ Pw w ∧ Sy w) := ⟨hn, hp, hy⟩
  clear hn hp hy
  refine (callsIn_wide (n := 9)).1 ?_
  refine callsIn_of_wp_marks Tryd.func22 rfl trivial ?_ rfl
  simp only [Tryd.ntmps22, List.size_toArray, List.length_cons, List.length_nil, Nat.reduceAdd, Nat.reduceSub, Array.replicate_succ, Array.replicate_zero, List.push_toArray, List.append_toArray, List.nil_append, List.cons_append]
  have X0 := Boxed.new w 57 (.slice none 0 0)
  have X1 := Boxed.new (w.alloc (.cells #[.slice none 0 0] 57)) 3 (.int .i64 0)
  have X2 := Boxed.new ((w.alloc (.cells #[.slice none 0 0] 57)).alloc (.cells #[.int .i64 0] 3)) 36 .nilIface
  simp only [World.size_alloc] at X1 X2
  have Y0 : Hid (Boxed (((w.alloc (.cells #[.slice none 0 0] 57)).alloc (.cells #[.int .i64 0] 3)).alloc (.cells #[.nilIface] 36)) w.heap.size 57 (.slice none 0 0)) := (X0.alloc _).alloc _
  have Y1 : Hid (Boxed (((w.alloc (.cells #[.slice none 0 0] 57)).alloc (.cells #[.int .i64 0] 3)).alloc (.cells #[.nilIface] 36)) (w.heap.size + 1) 3 (.int .i64 0)) := X1.alloc _
  have Y2 : Hid (Boxed (((w.alloc (.cells #[.slice none 0 0] 57)).alloc (.cells #[.int .i64 0] 3)).alloc (.cells #[.nilIface] 36)) (w.heap.size + 1 + 1) 36 .nilIface) := X2
  have B0 : Hid (Below w.heap.size w (((w.alloc (.cells #[.slice none 0 0] 57)).alloc (.cells #[.int .i64 0] 3)).alloc (.cells #[.nilIface] 36))) := (((Below.refl _ _).alloc (Nat.le_refl _) _).alloc (by simp) _).alloc (by simp; omega) _
  clear X0 X1 X2
  gi_wp2
  generalize (((w.alloc (.cells #[.slice none 0 0] 57)).alloc (.cells #[.int .i64 0] 3)).alloc (.cells #[.nilIface] 36)) = w0 at *
  refine ⟨trivial, (callsIn_wide.2 (names_any w0 (P0.out.1.below B0.out (Nat.le_refl _)))).mono ?_⟩
  rintro e w1 ⟨b, rfl, hm, hbg, b1⟩
  have B1 : Hid (Below w.heap.size w w1) := B0.out.trans (b1.mono B0.out.size)
  have M1 : Hid (Wm w1 b 4 W4) := hm
  have V0 : Hid (Boxed w1 w.heap.size 57 (.slice none 0 0)) := boxed_below Y0.out b1 Y0.out.lt
  have V1 : Hid (Boxed w1 (w.heap.size + 1) 3 (.int .i64 0)) := boxed_below Y1.out b1 Y1.out.lt
  have V2 : Hid (Boxed w1 (w.heap.size + 1 + 1) 36 .nilIface) := boxed_below Y2.out b1 Y2.out.lt
  have G1 : Hid (w.heap.size + 1 + 1 < b ∧ b < w1.heap.size) := ⟨Nat.lt_of_lt_of_le Y2.out.lt hbg, hm.lt⟩
  clear hm hbg b1 Y0 Y1 Y2 B0
  gi_wp2
  refine ⟨trivial, (callsIn_wide.2 (lines_any s _)).mono ?_⟩
  rintro e w' ⟨rfl, hw⟩
  obtain rfl := hw.symm
  gi_wp2
  have E0 := Boxed.new w1 93 (.map (some b))
  have E1 := Boxed.new (w1.alloc (.cells #[.map (some b)] 93)) 57 (.slice none 0 0)
  have E2 := Boxed.new ((w1.alloc (.cells #[.map (some b)] 93)).alloc (.cells #[.slice none 0 0] 57)) 9 (.string s)
  simp only [World.size_alloc] at E1 E2
  have b3 : Below w1.heap.size w1 (((w1.alloc (.cells #[.map (some b)] 93)).alloc (.cells #[.slice none 0 0] 57)).alloc (.cells #[.string s] 9)) := (((Below.refl _ _).alloc (Nat.le_refl _) _).alloc (by simp) _).alloc (by simp; omega) _
  have I0 : PI w w1.heap.size b [] (((w1.alloc (.cells #[.map (some b)] 93)).alloc (.cells #[.slice none 0 0] 57)).alloc (.cells #[.string s] 9)) :=
    ⟨⟨[], .slice none 0 0, fun _ => rfl, by simp, E1.alloc _, Oro.nil _ _⟩, (E0.alloc _).alloc _, M1.out.below b3 G1.out.2, boxed_below V0.out b3 V0.out.lt, boxed_below V1.out b3 V1.out.lt, boxed_below V2.out b3 V2.out.lt, B1.out.trans (b3.mono B1.out.size)⟩
  have Sz : (((w1.alloc (.cells #[.map (some b)] 93)).alloc (.cells #[.slice none 0 0] 57)).alloc (.cells #[.string s] 9)).heap.size = w1.heap.size + 3 := by simp
  generalize (((w1.alloc (.cells #[.map (some b)] 93)).alloc (.cells #[.slice none 0 0] 57)).alloc (.cells #[.string s] 9)) = w3 at *
  have HG := G1.out
  clear E0 E1 b3 M1 V0 V1 V2 B1
  generalize w1.heap.size = m at *
  refine range_lines s hsx (m + 1 + 1) rfl E2 (PI w m b) (PX w) (fun xs W W' a h => h.aside HG (by rw [Sz] at a; exact a)) (fun xs W W' a h => h.aside HG (by rw [Sz] at a; exact a)) I0
    (fun x => { tmps := #[.string s, undef, .pointer (some ⟨w.heap.size, 0, none⟩), .pointer (some ⟨w.heap.size + 1, 0, none⟩), .pointer (some ⟨w.heap.size + 1 + 1, 0, none⟩), .pointer (some ⟨m, 0, none⟩), .pointer (some ⟨m + 1, 0, none⟩), .string x, undef, undef, .map (some b), .string s, .func (.func 80) #[] #[.pointer (some ⟨m + 1 + 1, 0, none⟩)], .string x, undef, undef, undef, undef, undef, undef, undef, undef, undef, undef, undef, undef, undef, undef, undef, undef, undef, undef], defers := [] }) ?assign ?body ?done ?stop
  case assign =>
    intro l x W K hK
    gi_wp2
    exact hK
  case body =>
    rintro l pre x post W ⟨⟨acc, v, hgo, hlen, hv, ho⟩, hm5, hmm, h0, h1, h2, hB⟩ hpx
    obtain ⟨aa, cc, rfl⟩ := ho.len
    have hxs : x.size ≤ 9223372036854775806 := by
      have h9 : tl x ∈ Tx.lines (tl s) := by rw [← hpx]; simp
      have h8 : (tl x).length ≤ (tl s).length := Tx.lines_len h9
      have h7 : (tl x).length = x.size := rfl
      have h6 : (tl s).length = s.size := rfl
      omega
    have c5 := hm5.cell
    have c6 := hv.cell
    have f6 := hv.frozen
    have NX := onext_any b acc.length hlen x W hxs hmm (P0.out.2.1.below hB) (P0.out.2.2.below hB)
    have NX' : Hid (Calls Tryd.prog 50 #[.map (some b), .int .i64 (acc.length : Nat), .string x] W (OnextSays acc.length x.data.toList W)) := NX
    clear NX
    gi_wp2
    refine ⟨trivial, (CallsIn.inRound l (callsIn_wide.2 NX'.out)).mono ?_⟩
    clear NX'
    rintro e w2 ⟨⟨op, ou, on, oa⟩, u, rfl, hu, hof, b2⟩
    have bA : Below w2.heap.size w2 (w2.alloc (Obj.cells #[.int .i64 op, .int .i64 ou, .int .i64 on, .int .i64 oa] 63)) := (Below.refl _ _).alloc (Nat.le_refl _) _
    have b4 : Below W.heap.size W (w2.alloc (Obj.cells #[.int .i64 op, .int .i64 ou, .int .i64 on, .int .i64 oa] 63)) := b2.trans (bA.mono b2.size)
    have S4 : Stays (m + 3) (m + 1 + 1) W (w2.alloc (Obj.cells #[.int .i64 op, .int .i64 ou, .int .i64 on, .int .i64 oa] 63)) := Stays.below b4
    have g0 := boxed_below h0 b4 h0.lt
    have g1 := boxed_below h1 b4 h1.lt
    have g2 := boxed_below h2 b4 h2.lt
    have g5 := boxed_below hm5 b4 hm5.lt
    have g6 := boxed_below hv b4 hv.lt
    have gm := hmm.below b4 hmm.lt
    have gO := ho.below b4
    have gB := hB.trans (b4.mono hB.size)
    have gR : Orb (w2.alloc (Obj.cells #[.int .i64 op, .int .i64 ou, .int .i64 on, .int .i64 oa] 63)) w2.heap.size ⟨op, ou, on, oa⟩ := Orb.mk' w2 ⟨op, ou, on, oa⟩
    clear h0 h1 h2 hm5 hv hmm ho hB b2 bA b4 c5 c6 f6
    unfold OrV.val
    simp only
    rcases hu with ⟨hf, rfl⟩ | ⟨hf, rfl⟩
    · have hol := hof hf
      obtain ⟨hgk, h60⟩ := go_ok (acc := acc) (r := ([] : List (List UInt8))) hf hol
      have HGo : ∀ post, Od.go [] ((pre ++ [x]).map tl ++ post) = Od.go (acc ++ [⟨op, ou, on, oa⟩]) post := fun post => by
        rw [List.map_append, List.append_assoc, hgo]
        exact (go_ok hf hol).1
      have k0 := gR.cells
      have k6 := g6.cell
      have kf := g6.frozen
      obtain ⟨k00, k01, k02, k03⟩ := k0
      simp only at k00 k01 k02 k03
      have bA2 : Below (w2.alloc (Obj.cells #[.int .i64 op, .int .i64 ou, .int .i64 on, .int .i64 oa] 63)).heap.size (w2.alloc (Obj.cells #[.int .i64 op, .int .i64 ou, .int .i64 on, .int .i64 oa] 63)) ((w2.alloc (Obj.cells #[.int .i64 op, .int .i64 ou, .int .i64 on, .int .i64 oa] 63)).alloc (Obj.cells #[.int .i64 op, .int .i64 ou, .int .i64 on, .int .i64 oa] 63)) := (Below.refl _ _).alloc (Nat.le_refl _) _
      have Rc : Orc ((w2.alloc (Obj.cells #[.int .i64 op, .int .i64 ou, .int .i64 on, .int .i64 oa] 63)).alloc (Obj.cells #[.int .i64 op, .int .i64 ou, .int .i64 on, .int .i64 oa] 63)) ⟨w2.heap.size + 1, 0, none⟩ ⟨op, ou, on, oa⟩ := Orc.mk' ⟨op, ou, on, oa⟩ (by simp)
      have O5 := gO.alloc (Obj.cells #[.int .i64 op, .int .i64 ou, .int .i64 on, .int .i64 oa] 63)
      have L5 : m + 3 ≤ ((w2.alloc (Obj.cells #[.int .i64 op, .int .i64 ou, .int .i64 on, .int .i64 oa] 63)).alloc (Obj.cells #[.int .i64 op, .int .i64 ou, .int .i64 on, .int .i64 oa] 63)).heap.size := by have := g6.lt; simp at this ⊢; omega
      gi_wp2_with (gi_at_builtin; refine app_or_in _ rfl _ _ rfl (m + 3) _ acc rfl O5 _ ⟨op, ou, on, oa⟩ rfl Rc (by omega) L5 ?_; intro v' w6 o6 q6; have g6b := boxed_grown (g6.alloc _) q6 (by intro e; have := (O5.block _ e).1; omega); obtain ⟨a9, c9, rfl⟩ := o6.len; have k6b := g6b.cell; have f6b := g6b.frozen)
      have nb : ∀ k, k < m + 3 → (Value.slice aa acc.length cc).ownBlock ≠ some k := fun k hk e => by have := (O5.block _ e).1; omega
      have nb' : ∀ k, k < m + 3 → (Value.slice a9 (acc ++ [(⟨op, ou, on, oa⟩ : OrV)]).length c9).ownBlock ≠ some k := fun k hk e => by have := (o6.block _ e).1; omega
      have O7 := o6.kept (grownBy_setCell' w6 (m + 1) (.slice a9 (acc ++ [(⟨op, ou, on, oa⟩ : OrV)]).length c9)) (.inr (nb' _ (by omega)))
      have v7 := boxed_put g6b (.slice a9 (acc ++ [(⟨op, ou, on, oa⟩ : OrV)]).length c9)
      have d5 := boxed_other (u := .slice a9 (acc ++ [(⟨op, ou, on, oa⟩ : OrV)]).length c9) (boxed_grown (g5.alloc _) q6 (nb _ (by omega))) (show m ≠ m + 1 by omega)
      have d0 := boxed_other (u := .slice a9 (acc ++ [(⟨op, ou, on, oa⟩ : OrV)]).length c9) (boxed_grown (g0.alloc _) q6 (nb _ (by omega))) (show w.heap.size ≠ m + 1 by omega)
      have d1 := boxed_other (u := .slice a9 (acc ++ [(⟨op, ou, on, oa⟩ : OrV)]).length c9) (boxed_grown (g1.alloc _) q6 (nb _ (by omega))) (show w.heap.size + 1 ≠ m + 1 by omega)
      have d2 := boxed_other (u := .slice a9 (acc ++ [(⟨op, ou, on, oa⟩ : OrV)]).length c9) (boxed_grown (g2.alloc _) q6 (nb _ (by omega))) (show w.heap.size + 1 + 1 ≠ m + 1 by omega)
      have dm : Wm (w6.setCell ⟨m + 1, 0, none⟩ (.slice a9 (acc ++ [(⟨op, ou, on, oa⟩ : OrV)]).length c9)) b 4 W4 := World.ownsMap.setCell (World.ownsMap.kept (World.ownsMap.alloc gm _) q6 (fun e => nb b (by omega) e.symm)) (show b ≠ m + 1 by omega) _
      have dB := ((gB.trans (bA2.mono gB.size)).grown q6 (Nat.le_trans (by omega) L5) (fun k hk => by have := (O5.block _ hk).1; omega)).setCell (p := ⟨m + 1, 0, none⟩) (show w.heap.size ≤ m + 1 by omega) (.slice a9 (acc ++ [(⟨op, ou, on, oa⟩ : OrV)]).length c9)
      have St := ((S4.trans (Stays.below bA2)).trans (Stays.grown O5 q6 (by omega))).trans (Stays.setBoxed (B := m + 3) (cb := m + 1 + 1) g6b (by omega) (.slice a9 (acc ++ [(⟨op, ou, on, oa⟩ : OrV)]).length c9))
      have XX : PI w m b (pre ++ [x]) _ := ⟨⟨acc ++ [⟨op, ou, on, oa⟩], _, HGo, by simp; omega, v7, O7⟩, d5, dm, d0, d1, d2, dB⟩
      simp only [List.length_append, List.length_cons, List.length_nil, Nat.zero_add] at St XX
      try rw [Sz]
      exact ⟨St, XX⟩
    · have HGo : ∀ post, Od.go [] ((pre ++ [x]).map tl ++ post) = .inl (acc.length, lineFault acc.length (tl x)) := fun post => by
        rw [List.map_append, List.append_assoc, hgo]
        exact go_bad hf
      have e0 := boxed_put g0 (.slice none 0 0)
      have e1 := boxed_put (boxed_other (u := .slice none 0 0) g1 (show w.heap.size + 1 ≠ w.heap.size by omega)) (.int .i64 (acc.length : Nat))
      have e2 := boxed_put (boxed_other (u := .int .i64 (acc.length : Nat)) (boxed_other (u := .slice none 0 0) g2 (show w.heap.size + 1 + 1 ≠ w.heap.size by omega)) (show w.heap.size + 1 + 1 ≠ w.heap.size + 1 by omega)) (.iface 86 (.int .i64 (lineFault acc.length x.data.toList)))
      have t0 := Stays.setBoxed (B := m + 3) (cb := m + 1 + 1) g0 (by omega) (.slice none 0 0)
      have t1 := Stays.setBoxed (B := m + 3) (cb := m + 1 + 1) (boxed_other (u := .slice none 0 0) g1 (show w.heap.size + 1 ≠ w.heap.size by omega)) (by omega) (.int .i64 (acc.length : Nat))
      have t2 := Stays.setBoxed (B := m + 3) (cb := m + 1 + 1) (boxed_other (u := .int .i64 (acc.length : Nat)) (boxed_other (u := .slice none 0 0) g2 (show w.heap.size + 1 + 1 ≠ w.heap.size by omega)) (show w.heap.size + 1 + 1 ≠ w.heap.size + 1 by omega)) (by omega) (.iface 86 (.int .i64 (lineFault acc.length x.data.toList)))
      have St := ((S4.trans t0).trans t1).trans t2
      have Bt := ((gB.setCell (p := ⟨w.heap.size, 0, none⟩) (Nat.le_refl _) (.slice none 0 0)).setCell (p := ⟨w.heap.size + 1, 0, none⟩) (by simp) (.int .i64 (acc.length : Nat))).setCell (p := ⟨w.heap.size + 1 + 1, 0, none⟩) (by simp; omega) (.iface 86 (.int .i64 (lineFault acc.length x.data.toList)))
      have q0 := boxed_other (u := .iface 86 (.int .i64 (lineFault acc.length x.data.toList))) (boxed_other (u := .int .i64 (acc.length : Nat)) e0 (show w.heap.size ≠ w.heap.size + 1 by omega)) (show w.heap.size ≠ w.heap.size + 1 + 1 by omega)
      have q1 := boxed_other (u := .iface 86 (.int .i64 (lineFault acc.length x.data.toList))) e1 (show w.heap.size + 1 ≠ w.heap.size + 1 + 1 by omega)
      have XX : PX w (pre ++ [x]) _ := ⟨⟨acc.length, lineFault acc.length (tl x), _, HGo, q0, q1, e2, Er.no hf⟩, Bt⟩
      have SX : Hid (Stays w3.heap.size (m + 1 + 1) W ((((w2.alloc (Obj.cells #[.int .i64 op, .int .i64 ou, .int .i64 on, .int .i64 oa] 63)).setCell ⟨w.heap.size, 0, none⟩ (.slice none 0 0)).setCell ⟨w.heap.size + 1, 0, none⟩ (.int .i64 (acc.length : Nat))).setCell ⟨w.heap.size + 1 + 1, 0, none⟩ (.iface 86 (.int .i64 (lineFault acc.length x.data.toList)))).drew ∧ PX w (pre ++ [x]) ((((w2.alloc (Obj.cells #[.int .i64 op, .int .i64 ou, .int .i64 on, .int .i64 oa] 63)).setCell ⟨w.heap.size, 0, none⟩ (.slice none 0 0)).setCell ⟨w.heap.size + 1, 0, none⟩ (.int .i64 (acc.length : Nat))).setCell ⟨w.heap.size + 1 + 1, 0, none⟩ (.iface 86 (.int .i64 (lineFault acc.length x.data.toList)))).drew) := by
        unfold Hid
        rw [Sz]
        exact ⟨St.drew, XX.res, XX.below.drew⟩
      clear e0 e1 e2 t0 t1 t2 St Bt q0 q1 XX
      have k0 := g0.cell
      have k1 := g1.cell
      have k2 := g2.cell
      have k6 := g6.cell
      have kf0 := g0.frozen
      have kf1 := g1.frozen
      have kf2 := g2.frozen
      gi_wp2
      all_goals gi_region
      all_goals gi_wp2
      all_goals exact SX
  case done =>
    rintro D xs W hD hxs ⟨⟨acc, v, hgo, hlen, hv, ho⟩, hm5, hmm, h0, h1, h2, hB⟩ hK
    obtain ⟨aa, cc, rfl⟩ := ho.len
    rw [Sz] at hD
    have c6 := hv.cell
    have c0 := h0.cell
    have c1 := h1.cell
    have c2 := h2.cell
    have f0 := h0.frozen
    have f1 := h1.frozen
    have f2 := h2.frozen
    have PS : ParSays (tl s) acc 0 0 := by
      have e : Od.parse (tl s) = .inr acc := by
        unfold Od.parse
        rw [← hxs]
        have := hgo []
        rw [List.append_nil] at this
        rw [this]
        rfl
      unfold ParSays
      rw [e]
      exact ⟨rfl, rfl, rfl⟩
    have e0 := boxed_put h0 (.slice aa acc.length cc)
    have e1 := boxed_put (boxed_other (u := .slice aa acc.length cc) h1 (show w.heap.size + 1 ≠ w.heap.size by omega)) (.int .i64 0)
    have e2 := boxed_put (boxed_other (u := .int .i64 0) (boxed_other (u := .slice aa acc.length cc) h2 (show w.heap.size + 1 + 1 ≠ w.heap.size by omega)) (show w.heap.size + 1 + 1 ≠ w.heap.size + 1 by omega)) .nilIface
    have q0 := boxed_other (u := .nilIface) (boxed_other (u := .int .i64 0) e0 (show w.heap.size ≠ w.heap.size + 1 by omega)) (show w.heap.size ≠ w.heap.size + 1 + 1 by omega)
    have q1 := boxed_other (u := .nilIface) e1 (show w.heap.size + 1 ≠ w.heap.size + 1 + 1 by omega)
    have Bt := ((hB.setCell (p := ⟨w.heap.size, 0, none⟩) (Nat.le_refl _) (.slice aa acc.length cc)).setCell (p := ⟨w.heap.size + 1, 0, none⟩) (by simp) (.int .i64 0)).setCell (p := ⟨w.heap.size + 1 + 1, 0, none⟩) (by simp; omega) .nilIface
    have K9 : ((((W.setCell ⟨w.heap.size, 0, none⟩ (.slice aa acc.length cc)).setCell ⟨w.heap.size + 1, 0, none⟩ (.int .i64 0)).setCell ⟨w.heap.size + 1 + 1, 0, none⟩ .nilIface)).heap[D]? = some (.deferred (some [])) := by
      rw [Below.heap_setCell _ _ _ _ (by show D ≠ _; simp; omega), Below.heap_setCell _ _ _ _ (by show D ≠ _; simp; omega), Below.heap_setCell _ _ _ _ (by show D ≠ _; simp; omega)]
      exact hK
    have nb' : ∀ k, k < m + 3 → (Value.slice aa acc.length cc).ownBlock ≠ some k := fun k hk e => by have := (ho.block _ e).1; omega
    have O9 := ((ho.kept (grownBy_setCell' W w.heap.size (.slice aa acc.length cc)) (.inr (nb' _ (by omega)))).kept (grownBy_setCell' _ (w.heap.size + 1) (.int .i64 0)) (.inr (nb' _ (by omega)))).kept (grownBy_setCell' _ (w.heap.size + 1 + 1) .nilIface) (.inr (nb' _ (by omega)))
    gi_wp2
    generalize ((((W.setCell ⟨w.heap.size, 0, none⟩ (.slice aa acc.length cc)).setCell ⟨w.heap.size + 1, 0, none⟩ (.int .i64 0)).setCell ⟨w.heap.size + 1 + 1, 0, none⟩ .nilIface)) = w9 at *
    refine ⟨by simp, .inl ⟨_, _, rfl, run_takeDeferred K9, ?_⟩⟩
    have z0 : Boxed (w9.putObj D (.deferred none)) w.heap.size 57 (.slice aa acc.length cc) := (World.putObj_heap_other (by omega)).trans q0
    have z1 : Boxed (w9.putObj D (.deferred none)) (w.heap.size + 1) 3 (.int .i64 0) := (World.putObj_heap_other (by omega)).trans q1
    have z2 : Boxed (w9.putObj D (.deferred none)) (w.heap.size + 1 + 1) 36 .nilIface := (World.putObj_heap_other (by omega)).trans e2
    have y0 := z0.cell
    have y1 := z1.cell
    have y2 := z2.cell
    have O10 : Oro (w9.putObj D (.deferred none)) (m + 3) (.slice aa acc.length cc) acc := ownsRow_putObj O9 _ K9 rfl
    have B10 : Below w.heap.size w (w9.putObj D (.deferred none)) := Bt.trans (belowK_b (w := w) (Nat.le_refl _) w9 D _ _ (by omega) K9 rfl rfl)
    refine ⟨.tuple #[.slice aa acc.length cc, .int .i64 0, .nilIface], by simp [results, Tryd.results22, go_sem, y0, y1, y2], ?_⟩
    exact ⟨_, _, _, 0, acc, rfl, O10.l, Er.nil, PS, B10⟩
  case stop =>
    rintro D pre post W hD hpre ⟨⟨k, f, u, hgo, h0, h1, h2, he⟩, hB⟩ hK
    rw [Sz] at hD
    have PS : ParSays (tl s) [] k f := by
      have e : Od.parse (tl s) = .inl (k, f) := by
        unfold Od.parse
        rw [← hpre]
        exact hgo post
      unfold ParSays
      rw [e]
      exact ⟨rfl, rfl, rfl⟩
    gi_wp2
    refine ⟨by simp, .inl ⟨_, _, rfl, run_takeDeferred hK, ?_⟩⟩
    have z0 : Boxed (W.putObj D (.deferred none)) w.heap.size 57 (.slice none 0 0) := (World.putObj_heap_other (by omega)).trans h0
    have z1 : Boxed (W.putObj D (.deferred none)) (w.heap.size + 1) 3 (.int .i64 k) := (World.putObj_heap_other (by omega)).trans h1
    have z2 : Boxed (W.putObj D (.deferred none)) (w.heap.size + 1 + 1) 36 u := (World.putObj_heap_other (by omega)).trans h2
    have y0 := z0.cell
    have y1 := z1.cell
    have y2 := z2.cell
    have B10 : Below w.heap.size w (W.putObj D (.deferred none)) := hB.trans (belowK_b (w := w) (Nat.le_refl _) W D _ _ (by omega) hK rfl rfl)
    refine ⟨.tuple #[.slice none 0 0, .int .i64 k, u], by simp [results, Tryd.results22, go_sem, y0, y1, y2], ?_⟩
    exact ⟨_, _, _, f, [], rfl, (Oro.nil _ 0).l, he, PS, B10⟩
end Go.Proofs.YtelbdcljdfadbaaDoor

namespace Go.Proofs.YtelbdcljdfadbaaDoor
set_option linter.unusedVariables false

def bytesOf (l : List UInt8) : ByteArray := ⟨l.toArray⟩
theorem bytesOf_list (l : List UInt8) : (bytesOf l).data.toList = l := rfl
theorem bytesOf_cat (a b : List UInt8) : bytesOf a ++ (⟨b.toArray⟩ : ByteArray) = bytesOf (a ++ b) := by
  apply WideShapes.bytes_inj
  rw [bytesOf_list]
  simp [bytesOf]
end Go.Proofs.YtelbdcljdfadbaaDoor

namespace Go.Proofs.YtelbdcljdfadbaaDoor
open Go.RowKit
set_option linter.unusedVariables false

theorem bld_below {T e : TypeId} {B b : Nat} {p : Value} {bs : List Value} {w w' : World} (h : Lib.BuilderAt T e B b p bs w) (hb : Below w.heap.size w w') : Lib.BuilderAt T e B b p bs w' := by
  obtain ⟨h1, v, h2, h3, h4⟩ := h
  refine ⟨h1, v, ?_, World.ownsRow.kept h3 (row := none) ⟨hb.os, hb.tape, hb.output, hb.size, fun k hk _ => hb.block k hk⟩ (by cases v.ownBlock <;> simp), h4⟩
  rw [hb.block b (lt_of_block h2)]
  exact h2
theorem isb_below {T e : TypeId} {B b : Nat} {bs : List Value} {w w' : World} (h : Lib.IsBuilder T e B b bs w) (hb : Below w.heap.size w w') : Lib.IsBuilder T e B b bs w' := by
  rcases h with h | h
  · exact .inl (bld_below h hb)
  · exact .inr (bld_below h hb)
theorem wstr_any (B b : Nat) (l : List UInt8) (s : ByteArray) (w : World) (h : Lib.IsBuilder 110 5 B b (Lib.byteCells l) w) (hlen : l.length + s.size ≤ 1000000) (hB : B ≤ w.heap.size) :
    Calls Tryd.prog 55 #[.pointer (some ⟨b, 0, none⟩), .string s] w fun e w' => e = .returned (.tuple #[.int .i64 s.size, .nilIface]) ∧ Lib.IsBuilder 110 5 B b (Lib.byteCells (l ++ s.data.toList)) w' ∧ Below B w w' := by
  refine (Any.Builder_WriteString { Tryd.lays156 with } Tryd.Builder_Extra_156 B b (Lib.byteCells l) s w h (by simp [Lib.byteCells]; omega) hB).mono ?_
  rintro e w' ⟨rfl, h1, h2⟩
  refine ⟨rfl, .inr ?_, h2⟩
  have : Lib.byteCells (l ++ s.data.toList) = Lib.byteCells l ++ Lib.strCells s := by simp [Lib.byteCells, Lib.strCells]
  rw [this]
  exact h1

end Go.Proofs.YtelbdcljdfadbaaDoor

namespace Go.Proofs.YtelbdcljdfadbaaDoor
open Go Go.RowKit
set_option linter.unusedVariables false

section
variable {P : Program} {ops : Array Oper} {md : Region.Mode} {C : World → Prop}

/-- the operation gives v, in each of the worlds C, and leaves one of them. -/
def YieldsC (P : Program) (ops : Array Oper) (C : World → Prop) (o : Oper) (v : Value) (a : Act) : Prop :=
  (Region.wanted o (yielded ops a.tmps) = true ∧ ∀ W, C W → ((execOp a.eval o).run P W = .ok (.value v) W ∨ ((execOp a.eval o).run P W = .ok .skip W ∧ v = undef) ∨
    ∃ f args, (execOp a.eval o).run P W = .ok (.enter f args) W ∧ Calls P f args W (fun e w' => e = .returned v ∧ C w'))) ∨
  (Region.wanted o (yielded ops a.tmps) = false ∧ v = undef)
def stC (P : Program) (ops : Array Oper) (C : World → Prop) (i : Nat) (K : Act → Prop) (a : Act) : Prop :=
  match ops[i]? with
  | none => K a
  | some o => ∃ v, YieldsC P ops C o v a ∧ K (a.put o.dst v)
theorem stC_mono {i : Nat} {a : Act} {K K' : Act → Prop} (h : ∀ a, K a → K' a) (hh : stC P ops C i K a) : stC P ops C i K' a := by
  unfold stC at *
  split
  · rename_i ho
    simp only [ho] at hh
    exact h _ hh
  · rename_i o ho
    simp only [ho] at hh
    obtain ⟨v, h1, h2⟩ := hh
    exact ⟨v, h1, h _ h2⟩
theorem YieldsC.of_same {o : Oper} {v : Value} {a a' : Act} (hy : YieldsC P ops C o v a) (he : execOp a'.eval o = execOp a.eval o)
    (hw : Region.wanted o (yielded ops a'.tmps) = Region.wanted o (yielded ops a.tmps)) : YieldsC P ops C o v a' := by
  unfold YieldsC at *
  rw [he, hw]
  exact hy
theorem stC_put {j : Nat} {oi oj : Oper} {v : Value} (hj : ops[j]? = some oj) (hap : oi.apart ops oj = true)
    (hsi : ∀ cs b, oi.op ≠ .select cs b) (hsj : ∀ cs b, oj.op ≠ .select cs b) {K : Act → Prop} {a : Act}
    (hy : YieldsC P ops C oi v a) (h : stC P ops C j K (a.put oi.dst v)) :
    stC P ops C j (fun a' => YieldsC P ops C oi v a' ∧ K (a'.put oi.dst v)) a := by
  obtain ⟨h1, h2, h3⟩ := Oper.apart_spec hap
  unfold stC at *
  simp only [hj] at *
  obtain ⟨u, hu, hk⟩ := h
  refine ⟨u, hu.of_same (execOp_put oj hsj a oi.dst v h1).symm (wanted_put oj a oi.dst v h1).symm, hy.of_same (execOp_put oi hsi a oj.dst u h3) (wanted_put oi a oj.dst u h3), ?_⟩
  rw [← Act.put_comm a v u h2]
  exact hk
theorem wpOp_of_stC {i : Nat} {a : Act} {W : World} {K : Act → Prop} {K' : Act → World → Prop} {Q' : Exit → Act → World → Prop} (h : ∀ a W, K a → C W → K' a W) (hh : stC P ops C i K a) (hW : C W) : wpOp P ops Q' i K' a W := by
  unfold stC at hh
  unfold wpOp
  split
  · rename_i ho
    simp only [ho] at hh
    exact h _ _ hh hW
  · rename_i o ho
    simp only [ho] at hh
    obtain ⟨v, hy, hk⟩ := hh
    rcases hy with ⟨hw, hr⟩ | ⟨hw, rfl⟩
    · simp only [hw, if_true]
      refine .inl ?_
      unfold Oper.wp
      rcases hr W hW with e | ⟨e, rfl⟩ | ⟨f, args, e, hc⟩
      · rw [e]
        exact h _ _ hk hW
      · rw [e]
        exact h _ _ hk hW
      · rw [e]
        exact hc.mono fun e w' ⟨he, hw'⟩ => by subst he; exact h _ _ hk hw'
    · simp only [hw]
      exact h _ _ hk hW
def wpAnyC (P : Program) (md : Region.Mode) (ops : Array Oper) (C : World → Prop) (n : Nat) (L : Array Bool → Act → Prop) : Nat → Array Bool → Act → Prop
  | 0, listed, a => L listed a
  | f + 1, listed, a =>
    Region.ready md ops listed ≠ [] ∧ ∀ i ∈ Region.ready md ops listed, i < n ∧ stC P ops C i (wpAnyC P md ops C n L f (listed.setIfInBounds i true)) a
theorem wpAny_of_headC {n g : Nat} {L : Array Bool → Act → Prop} {Q' : Exit → Act → World → Prop} (hL : ∀ listed a W, L listed a → C W → wpAny P md ops Q' g listed a W) :
    ∀ (f : Nat) (listed : Array Bool) (a : Act) (W : World), wpAnyC P md ops C n L f listed a → C W → wpAny P md ops Q' (f + g) listed a W
  | 0, listed, a, W, h, hW => by rw [Nat.zero_add]; exact hL _ _ _ h hW
  | f + 1, listed, a, W, h, hW => by
    rw [show f + 1 + g = (f + g) + 1 by omega]
    exact ⟨fun h0 => absurd h0 h.1, fun i hi => wpOp_of_stC (fun a' W' h' hW' => wpAny_of_headC hL f _ a' W' h' hW') (h.2 i hi).2 hW⟩
theorem wpAnyC_first {n i : Nat} {oi : Oper} {v : Value} {L : Array Bool → Act → Prop} (hi : ops[i]? = some oi) (hsel : ∀ (j : Nat) (o : Oper) cs b, ops[j]? = some o → o.op ≠ .select cs b)
    (hs : Region.sinkB md ops n = true) (hc : Region.chainB md ops n = true) (hn : n < ops.size) (hin : i < n)
    (hdone : ∀ listed a, L listed a → ∀ j ∈ Region.ready md ops listed, n ≤ j) :
    ∀ (f : Nat) (listed : Array Bool) (a : Act), HeadInv md ops n listed →
      (∀ j oj, ops[j]? = some oj → j ≠ i → listed.getD j true = false → (∀ e ∈ oj.after, Region.binds md e = true → e.on ≠ i) → oi.apart ops oj = true) →
      i ∈ Region.ready md ops listed → YieldsC P ops C oi v a →
      wpAnyC P md ops C n L f (listed.setIfInBounds i true) (a.put oi.dst v) → wpAnyC P md ops C n L (f + 1) listed a := by
  have hit : ∀ {K : Act → Prop} {a : Act}, YieldsC P ops C oi v a → K (a.put oi.dst v) → stC P ops C i K a := fun hy hk => by
    unfold stC
    simp only [hi]
    exact ⟨v, hy, hk⟩
  intro f
  induction f with
  | zero =>
    intro listed a inv _ hr hy H
    have hun := (mem_ready.1 hr).1
    refine ⟨fun h => (by rw [h] at hr; cases hr), fun j hj => ?_⟩
    have hjn : j < n := by
      rcases Nat.lt_or_ge j n with h | h
      · exact h
      · exact absurd hj (tail_waits hs hc hn inv _ i rfl hin hun j h)
    refine ⟨hjn, ?_⟩
    by_cases hji : j = i
    · subst hji; exact hit hy H
    · have := hdone _ _ H j (ready_mono hj hji)
      omega
  | succ f ih =>
    intro listed a inv hfree hr hy H
    have hun := (mem_ready.1 hr).1
    refine ⟨fun h => (by rw [h] at hr; cases hr), fun j hj => ?_⟩
    have hjn : j < n := by
      rcases Nat.lt_or_ge j n with h | h
      · exact h
      · exact absurd hj (tail_waits hs hc hn inv _ i rfl hin hun j h)
    refine ⟨hjn, ?_⟩
    by_cases hji : j = i
    · subst hji; exact hit hy H
    · have h1 := (H.2 j (ready_mono hj hji)).2
      obtain ⟨hjun, oj, hoj, hall⟩ := mem_ready.1 hj
      have hnot : ∀ e ∈ oj.after, Region.binds md e = true → e.on ≠ i := fun e he hb heq => by
        have h1 := hall e he hb
        rw [heq, getD_both hun] at h1
        cases h1
      have h2 := stC_put hoj (hfree j oj hoj hji hjun hnot) (fun cs b => hsel i oi cs b hi) (fun cs b => hsel j oj cs b hoj) hy h1
      have hfree' : ∀ k ok, ops[k]? = some ok → k ≠ i → (listed.setIfInBounds j true).getD k true = false →
          (∀ e ∈ ok.after, Region.binds md e = true → e.on ≠ i) → oi.apart ops ok = true := fun k ok hk hki hun hno => by
        refine hfree k ok hk hki ?_ hno
        by_cases hjk : j = k
        · subst hjk; exact hjun
        · rw [getD_set_ne true hjk] at hun; exact hun
      refine stC_mono (fun a' h3 => ih (listed.setIfInBounds j true) a' (inv.set hj hjn) hfree' (ready_mono hr (Ne.symm hji)) h3.1 ?_) h2
      rw [Array.setIfInBounds_comm _ _ hji]
      exact h3.2
/-- the head, in the text's order. -/
def wpHead (P : Program) (ops : Array Oper) (C : World → Prop) (Q : Act → Prop) : List Oper → Act → Prop
  | [], a => Q a
  | o :: rest, a => ∃ v, YieldsC P ops C o v a ∧ wpHead P ops C Q rest (a.put o.dst v)
theorem wpAnyC_lex {n g : Nat} {Lq : Act → Prop} (hsel : Region.noSelect ops = true) (hs : Region.sinkB md ops n = true) (hc : Region.chainB md ops n = true) (hn : n < ops.size) :
    ∀ (l : List Oper) (k : Nat) (listed : Array Bool) (a : Act), (∀ j, j < l.length → l[j]? = ops[k + j]?) → k + l.length = n → HeadInv md ops n listed →
    Region.lexHead md ops g l.length k listed = true → wpHead P ops C Lq l a →
    wpAnyC P md ops C n (fun listed' a' => Region.seqB md ops g n listed' = true ∧ Lq a') l.length listed a
  | [], k, listed, a, _, hk, _, hB, h => by
    have : k = n := by simpa using hk
    subst this
    exact ⟨by simpa [Region.lexHead] using hB, h⟩
  | o :: l, k, listed, a, hl, hk, inv, hB, h => by
    have h0 : ops[k]? = some o := by simpa using (hl 0 (by simp)).symm
    simp only [List.length_cons, Region.lexHead, Bool.and_eq_true] at hB
    obtain ⟨⟨hr, hf⟩, hB'⟩ := hB
    have hkn : k < n := by simp only [List.length_cons] at hk; omega
    have hr' : k ∈ Region.ready md ops listed := by simpa using hr
    obtain ⟨v, hy, hK⟩ := h
    exact wpAnyC_first h0 (Region.noSelect_spec hsel) hs hc hn hkn (fun listed' a' hL => seqB_ready hL.1) l.length listed a inv (Region.free_spec h0 hf) hr' hy
      (wpAnyC_lex hsel hs hc hn l (k + 1) _ _ (fun j hj => by have := hl (j + 1) (by simp; omega); simpa [Nat.add_assoc, Nat.add_comm 1 j] using this) (by simp only [List.length_cons] at hk; omega) (inv.set hr' hkn) hB' hK)
/-- the region: its head in the text's order, in each of the worlds C; its tail behind it. -/
theorem wp_region_class {id : Nat} {Q : Exit → Act → World → Prop} {a : Act} {w : World} {l : List Oper} (n : Nat) (C : World → Prop) (hm : P.follows .mixedOrders = true) (hB : Region.lexTailB .any l.toArray n = true)
    (hC : C { w with drawn := w.drawn + 1 }) (h : wpHead P l.toArray C (fun a' => ∀ W, C W → wpList P l.toArray Q (l.drop n) a' W) (l.take n) a) : (Code.region id l.toArray true).wp P Q a w := by
  simp only [Region.lexTailB, Bool.and_eq_true, decide_eq_true_eq] at hB
  obtain ⟨⟨⟨⟨hsel, hn⟩, hs⟩, hc⟩, hlex⟩ := hB
  have hn' : n < l.length := by simpa using hn
  have htl : (l.take n).length = n := by simp; omega
  have hdl : (l.drop n).length = l.toArray.size - n := by simp
  have inv0 : HeadInv .any l.toArray n (Array.replicate l.toArray.size false) :=
    ⟨by simp, fun j oj _ hl => (by rw [getD_replicate_false] at hl; cases hl), fun t _ ht => getD_in (by simpa using ht) (getD_replicate_false _ _)⟩
  have H := wpAnyC_lex (md := .any) (g := l.toArray.size - n) hsel hs hc hn (l.take n) 0 _ a (fun j hj => by
    have hj' : j < n := by rw [htl] at hj; exact hj
    simp [hj']) (by simpa using htl) inv0 (by rw [htl]; exact hlex) h
  refine wp_region_any hm ?_
  have := wpAny_of_headC (Q' := Q) (g := l.toArray.size - n) (fun listed a' W hL hW => by
    have := wpAny_of_seq (md := .any) (Q' := Q) (l.drop n) n listed a' W (fun j => by simp [List.getElem?_drop]) (by rw [hdl]; exact hL.1) (hL.2 W hW)
    rwa [hdl] at this) _ _ _ _ H hC
  rw [htl, show n + (l.toArray.size - n) = l.toArray.size by omega] at this
  exact this
end
theorem head_step {P : Program} {ops : Array Oper} {C : World → Prop} {Q : Act → Prop} {o : Oper} {rest : List Oper} {a : Act} (v : Value) (hw : Region.wanted o (yielded ops a.tmps) = true) (hr : ∀ W, C W → (execOp a.eval o).run P W = .ok (.value v) W) (h : wpHead P ops C Q rest (a.put o.dst v)) : wpHead P ops C Q (o :: rest) a :=
  ⟨v, .inl ⟨hw, fun W hW => .inl (hr W hW)⟩, h⟩
theorem head_call {P : Program} {ops : Array Oper} {C : World → Prop} {Q : Act → Prop} {o : Oper} {rest : List Oper} {a : Act} (v : Value) (f : FuncId) (args : Array Value) (hw : Region.wanted o (yielded ops a.tmps) = true) (hr : ∀ W, C W → (execOp a.eval o).run P W = .ok (.enter f args) W)
    (hc : ∀ W, C W → Calls P f args W (fun e w' => e = .returned v ∧ C w')) (h : wpHead P ops C Q rest (a.put o.dst v)) : wpHead P ops C Q (o :: rest) a :=
  ⟨v, .inl ⟨hw, fun W hW => .inr (.inr ⟨f, args, hr W hW, hc W hW⟩)⟩, h⟩

end Go.Proofs.YtelbdcljdfadbaaDoor

namespace Go.Proofs.YtelbdcljdfadbaaDoor
open Go.RowKit
set_option linter.unusedVariables false

theorem Nm.at_ {w : World} (h : Nm w) : ∀ {n : Nat}, n < 4 → w.cell? ⟨0, n, none⟩ = some (.string (bytesOf (Od.name (n : Nat))))
  | 0, _ => h.c0
  | 1, _ => h.c1
  | 2, _ => h.c2
  | 3, _ => h.c3
  | n + 4, hn => by omega
/-- the words of an order, as texts. -/
def wordsO (o : OrV) : List ByteArray := [bytesOf (Tx.dig o.player.toNat), bytesOf (Tx.dig o.unit.toNat), bytesOf (Od.name o.what)] ++ (if o.what = 0 then [] else [bytesOf (Tx.dig o.arg.toNat)])
theorem wordsO_map (o : OrV) : (wordsO o).map (·.data.toList) = Od.words o := by
  unfold wordsO Od.words
  split <;> rfl
theorem oname_len (n : Int) : (Od.name n).length ≤ 6 := by
  unfold Od.name
  repeat' split
  all_goals decide
theorem oline_len {o : OrV} (h : ¬ Od.bad o) : (Od.oline o).length ≤ 40 := by
  have k := Od.ok_of h
  have h1 : (Tx.dig o.player.toNat).length ≤ 7 := Tx.dig_len (by decide) (by show o.player.toNat < 10000000; omega)
  have h2 : (Tx.dig o.unit.toNat).length ≤ 7 := Tx.dig_len (by decide) (by show o.unit.toNat < 10000000; omega)
  have h3 : (Tx.dig o.arg.toNat).length ≤ 7 := Tx.dig_len (by decide) (by show o.arg.toNat < 10000000; omega)
  have h4 := oname_len o.what
  unfold Od.oline Od.words
  split
  · simp only [Tx.join, List.length_append, List.length_cons]; omega
  · simp only [Tx.join, List.length_append, List.length_cons]; omega
theorem Os.three {w : World} {base z : Nat} (a b c : ByteArray) (hb : base ≤ w.heap.size) (hz : w.heap.size = z) : Os (w.alloc (.cells #[.string a, .string b, .string c] 9)) base (.slice (some ⟨z, 0, none⟩) 3 3) [a, b, c] := by
  subst hz
  exact ⟨rfl, .inr ⟨_, _, _, rfl, hb, heap_alloc_new w _, Nat.le_refl _, by unfold maxLen; decide, rfl, rfl⟩⟩
/-- a list's texts, joined. -/
theorem join_os {w : World} {base : Nat} {v : Value} {bs : List ByteArray} (h : Os w base v bs) (hn : bs ≠ []) (hl : bs.length ≤ 100) (hj : (Tx.join 32 (bs.map (·.data.toList))).length ≤ 1000) :
    Calls Tryd.prog 89 #[v, .string ⟨#[32]⟩] w fun e w' => e = .returned (.string (bytesOf (Tx.join 32 (bs.map (·.data.toList))))) ∧ Below w.heap.size w w' := by
  obtain ⟨a, c, rfl, c1, c2, hcs⟩ := h.cells
  obtain ⟨g, rfl, hg, hc⟩ := hcs hn
  obtain ⟨b0, hb0⟩ : ∃ b, bs[0]? = some b := ⟨_, List.getElem?_eq_getElem (List.length_pos_iff.2 hn)⟩
  have lg : g < w.heap.size := cell_lt (hc 0 b0 hb0)
  have JN := Tryd.strings_Join g 0 c bs ⟨#[32]⟩ w (fun j x hj => by rw [Nat.zero_add]; exact hc j x hj) lg (by omega) c1 (by
    rw [show (⟨#[32]⟩ : ByteArray).data.toList = [32] from rfl, join_tx]
    omega)
  rw [show (⟨#[32]⟩ : ByteArray).data.toList = [32] from rfl, join_tx] at JN
  exact JN
set_option maxRecDepth 100000 in
set_option maxHeartbeats 8000000 in
theorem owrite_any (o : OrV) (w : World) (hm : Nm w) (hw : Pw w) (hb : ¬ Od.bad o) :
    Calls Tryd.prog 56 #[o.val] w fun e w' => e = .returned (.string (bytesOf (Od.oline o ++ [10]))) ∧ Below w.heap.size w w' := by
  have OK := Od.ok_of hb
  have OL := oline_len hb
  have WM : Hid (Tx.join 32 ((wordsO o).map (·.data.toList)) = Od.oline o) := by unfold Hid; rw [wordsO_map]; rfl
  have LEN : Hid ((Od.oline o).length ≤ 40) := OL
  generalize Od.oline o = OLN at *
  have NP : Hid (Nm w ∧ Pw w) := ⟨hm, hw⟩
  obtain ⟨p, hp⟩ : ∃ p : Nat, o.player = p := ⟨o.player.toNat, by omega⟩
  obtain ⟨u, hu⟩ : ∃ p : Nat, o.unit = p := ⟨o.unit.toNat, by omega⟩
  obtain ⟨n, hn⟩ : ∃ p : Nat, o.what = p := ⟨o.what.toNat, by omega⟩
  obtain ⟨a, ha⟩ : ∃ p : Nat, o.arg = p := ⟨o.arg.toNat, by omega⟩
  obtain ⟨op, ou, on, oa⟩ := o
  simp only at hp hu hn ha OK
  subst hp hu hn ha
  have WO : Hid (wordsO ⟨(p : Nat), (u : Nat), (n : Nat), (a : Nat)⟩ = [bytesOf (Tx.dig p), bytesOf (Tx.dig u), bytesOf (Od.name (n : Nat))] ++ (if ((n : Nat) : Int) = 0 then [] else [bytesOf (Tx.dig a)])) := rfl
  have J0 : Hid (n = 0 → Tx.join 32 ([bytesOf (Tx.dig p), bytesOf (Tx.dig u), bytesOf (Od.name (n : Nat))].map (·.data.toList)) = OLN) := fun h => by
    have j := WM.out
    rw [WO.out, if_pos (by omega), List.append_nil] at j
    exact j
  have J1 : Hid (¬ n = 0 → Tx.join 32 ([bytesOf (Tx.dig p), bytesOf (Tx.dig u), bytesOf (Od.name (n : Nat)), bytesOf (Tx.dig a)].map (·.data.toList)) = OLN) := fun h => by
    have j := WM.out
    rw [WO.out, if_neg (by omega)] at j
    exact j
  clear WM WO
  have LE : Hid (p ≤ 1000000 ∧ u ≤ 1000000 ∧ a ≤ 1000000 ∧ n < 4) := ⟨by omega, by omega, by omega, by omega⟩
  have n4 : ((n : Nat) : Int) < 4 := by omega
  unfold OrV.val
  simp only
  clear hm hw hb OK OL
  go_enter Tryd.func56, Tryd.ntmps56
  go_upto_region 1 with fail
  have B1 : Hid (Below w.heap.size w (w.alloc (Obj.cells #[.int .i64 (p : Nat), .int .i64 (u : Nat), .int .i64 (n : Nat), .int .i64 (a : Nat)] 63))) := (Below.refl _ _).alloc (Nat.le_refl _) _
  have X1 : Hid (Orc (w.alloc (Obj.cells #[.int .i64 (p : Nat), .int .i64 (u : Nat), .int .i64 (n : Nat), .int .i64 (a : Nat)] 63)) ⟨w.heap.size, 0, none⟩ ⟨(p : Nat), (u : Nat), (n : Nat), (a : Nat)⟩) := Orc.mk' ⟨(p : Nat), (u : Nat), (n : Nat), (a : Nat)⟩ rfl
  generalize w.alloc (Obj.cells #[.int .i64 (p : Nat), .int .i64 (u : Nat), .int .i64 (n : Nat), .int .i64 (a : Nat)] 63) = w1 at *
  have N1 : Hid (Nm w1 ∧ Pw w1) := ⟨NP.out.1.below B1.out (Nat.le_refl _), NP.out.2.below B1.out⟩
  have FC : Hid (∀ W, Below w1.heap.size w1 W → W.cell? ⟨w.heap.size, 0, none⟩ = some (.int .i64 (p : Nat)) ∧ W.cell? ⟨w.heap.size, 1, none⟩ = some (.int .i64 (u : Nat)) ∧ W.cell? ⟨w.heap.size, 2, none⟩ = some (.int .i64 (n : Nat)) ∧ W.cell? ⟨0, n, none⟩ = some (.string (bytesOf (Od.name (n : Nat))))) := fun W hW => by
    obtain ⟨x0, x1, x2, x3⟩ := X1.out.below hW X1.out.lt
    simp only [Nat.zero_add] at x1 x2 x3
    exact ⟨x0, x1, x2, (N1.out.1.below hW (Nat.le_refl _)).at_ LE.out.2.2.2⟩
  have IT : Hid (∀ q : Nat, q ≤ 1000000 → ∀ W, Below w1.heap.size w1 W → Calls Tryd.prog 88 #[.int .i64 (q : Nat)] W fun e w' => e = .returned (.string (bytesOf (Tx.dig q))) ∧ Below w1.heap.size w1 w') := fun q hq W hW => (itoa_any q hq W (N1.out.2.below hW)).mono fun e w' ⟨h1, h2⟩ => ⟨h1, hW.trans (h2.mono hW.size)⟩
  refine wp_region_class 10 (fun W => Below w1.heap.size w1 W) (by kernel_rfl) (by kernel_rfl) (Below.refl _ _).drew ?_
  simp only [List.take_succ_cons, List.take_zero, List.drop_succ_cons, List.drop_zero]
  refine head_step (.pointer (some ⟨w.heap.size, 0, none⟩)) (by go_simp) (fun W hW => by go_simp) ?_
  go_simp
  refine head_step (.int .i64 (p : Nat)) (by go_simp) (fun W hW => by obtain ⟨x0, x1, x2, x3⟩ := FC.out W hW; go_simp) ?_
  go_simp
  refine head_call (.string (bytesOf (Tx.dig p))) 88 #[.int .i64 (p : Nat)] (by go_simp) (fun W hW => by go_simp) (fun W hW => IT.out p LE.out.1 W hW) ?_
  go_simp
  refine head_step (.pointer (some ⟨w.heap.size, 1, none⟩)) (by go_simp) (fun W hW => by go_simp) ?_
  go_simp
  refine head_step (.int .i64 (u : Nat)) (by go_simp) (fun W hW => by obtain ⟨x0, x1, x2, x3⟩ := FC.out W hW; go_simp) ?_
  go_simp
  refine head_call (.string (bytesOf (Tx.dig u))) 88 #[.int .i64 (u : Nat)] (by go_simp) (fun W hW => by go_simp) (fun W hW => IT.out u LE.out.2.1 W hW) ?_
  go_simp
  refine head_step (.pointer (some ⟨w.heap.size, 2, none⟩)) (by go_simp) (fun W hW => by go_simp) ?_
  go_simp
  refine head_step (.int .i64 (n : Nat)) (by go_simp) (fun W hW => by obtain ⟨x0, x1, x2, x3⟩ := FC.out W hW; go_simp) ?_
  go_simp
  refine head_step (.pointer (some ⟨0, n, none⟩)) (by go_simp) (fun W hW => by go_simp) ?_
  go_simp
  refine head_step (.string (bytesOf (Od.name (n : Nat)))) (by go_simp) (fun W hW => by obtain ⟨x0, x1, x2, x3⟩ := FC.out W hW; go_simp) ?_
  go_simp
  intro W2 hW2
  have D2 : Hid (Below w1.heap.size w1 W2) := hW2
  clear hW2 FC
  generalize bytesOf (Tx.dig p) = bp at *
  generalize bytesOf (Tx.dig u) = bu at *
  generalize bytesOf (Od.name (n : Nat)) = bn at *
  go_upto_region 2 with fail
  have O3 : Hid (Os (W2.alloc (Obj.cells #[.string bp, .string bu, .string bn] 9)) w1.heap.size (.slice (some ⟨W2.heap.size, 0, none⟩) 3 3) [bp, bu, bn]) := Os.three bp bu bn D2.out.size rfl
  have D3 : Hid (Below w1.heap.size w1 (W2.alloc (Obj.cells #[.string bp, .string bu, .string bn] 9))) := D2.out.alloc D2.out.size _
  obtain ⟨z2, hz2⟩ : ∃ z, W2.heap.size = z := ⟨_, rfl⟩
  rw [hz2] at O3 ⊢
  clear hz2
  generalize W2.alloc (Obj.cells #[.string bp, .string bu, .string bn] 9) = w3 at *
  have B3 : Hid (Below w.heap.size w w3) := B1.out.trans (D3.out.mono B1.out.size)
  have X3 : Hid (Orc w3 ⟨w.heap.size, 0, none⟩ ⟨(p : Nat), (u : Nat), (n : Nat), (a : Nat)⟩) := X1.out.below D3.out X1.out.lt
  obtain ⟨x0, x1, x2, x3⟩ := X3.out
  simp only [Nat.zero_add] at x1 x2 x3
  by_cases h0 : n = 0
  · subst h0
    have JW := J0.out rfl
    have JC := join_os O3.out (by simp) (by simp) (by rw [JW]; have := LEN.out; omega)
    rw [JW] at JC
    have JC' : Hid (Calls Tryd.prog 89 #[.slice (some ⟨z2, 0, none⟩) 3 3, .string ⟨#[32]⟩] w3 fun e w' => e = .returned (.string (bytesOf OLN)) ∧ Below w3.heap.size w3 w') := JC
    clear JC JW
    go_wp2_with fail
    refine JC'.out.mono ?_
    rintro e w4 ⟨rfl, b4⟩
    have B4 : Hid (Below w.heap.size w w4) := B3.out.trans (b4.mono B3.out.size)
    have hs9 : (bytesOf OLN).size ≤ 40 := LEN.out
    have hs8 : ¬ 9223372036854775807 < (bytesOf OLN).size + 1 := by omega
    clear b4 JC' x0 x1 x2 x3
    go_wp2
    go_ret
    refine ⟨?_, B4.out⟩
    show Ending.returned (.string (bytesOf OLN ++ ⟨#[10]⟩)) = _
    rw [bytesOf_cat OLN [10]]
  · have h0i : ¬ ((n : Nat) : Int) = 0 := by omega
    have h0b : (((n : Nat) : Int) == 0) = false := beq_eq_false_iff_ne.2 h0i
    have ITA : Hid (Calls Tryd.prog 88 #[.int .i64 (a : Nat)] w3 fun e w' => e = .returned (.string (bytesOf (Tx.dig a))) ∧ Below w3.heap.size w3 w') := itoa_any a LE.out.2.2.1 w3 (N1.out.2.below D3.out)
    have JW' : Hid (Tx.join 32 ([bp, bu, bn, bytesOf (Tx.dig a)].map (·.data.toList)) = OLN) := J1.out h0
    clear h0i J0 J1
    generalize bytesOf (Tx.dig a) = ba at *
    go_wp2_with fail
    refine ITA.out.mono ?_
    rintro e w4 ⟨rfl, b4⟩
    have O4 : Hid (Os w4 w1.heap.size (.slice (some ⟨z2, 0, none⟩) 3 3) [bp, bu, bn]) := O3.out.below b4
    have D4 : Hid (Below w1.heap.size w1 w4) := D3.out.trans (b4.mono D3.out.size)
    have hs4 : w1.heap.size ≤ w4.heap.size := D4.out.size
    clear b4 ITA x0 x1 x2 x3
    go_wp2_with (at_builtin; refine app_str _ rfl _ _ rfl w1.heap.size _ [bp, bu, bn] rfl (O4.out.alloc _) ⟨w4.heap.size, 0, none⟩ ba rfl (by simp) (by simp) (by simp; omega) ?_)
    intro g cap w6 o6 g6 a6 l6
    have B6 : Hid (Below w.heap.size w w6) := B1.out.trans (((D4.out.alloc D4.out.size _).grown g6 (by simp; omega) (fun k hk => (O4.out.block k hk).1)).mono B1.out.size)
    have JC := join_os (bs := [bp, bu, bn, ba]) o6 (by simp) (by simp) (by rw [JW'.out]; have := LEN.out; omega)
    rw [JW'.out] at JC
    have JC' : Hid (Calls Tryd.prog 89 #[.slice (some ⟨g, 0, none⟩) 4 cap, .string ⟨#[32]⟩] w6 fun e w' => e = .returned (.string (bytesOf OLN)) ∧ Below w6.heap.size w6 w') := JC
    clear JC o6 g6 a6 l6
    go_wp2_with fail
    refine JC'.out.mono ?_
    rintro e w7 ⟨rfl, b7⟩
    have B7 : Hid (Below w.heap.size w w7) := B6.out.trans (b7.mono B6.out.size)
    have hs9 : (bytesOf OLN).size ≤ 40 := LEN.out
    have hs8 : ¬ 9223372036854775807 < (bytesOf OLN).size + 1 := by omega
    clear b7 JC'
    go_wp2
    go_ret
    refine ⟨?_, B7.out⟩
    show Ending.returned (.string (bytesOf OLN ++ ⟨#[10]⟩)) = _
    rw [bytesOf_cat OLN [10]]
end Go.Proofs.YtelbdcljdfadbaaDoor

namespace Go.Proofs.YtelbdcljdfadbaaDoor
open Go.RowKit
set_option linter.unusedVariables false

def sgn (x y : Int) : Int := if x < y then -1 else if y < x then 1 else 0
def or3 (x y z : Int) : Int := if x ≠ 0 then x else if y ≠ 0 then y else z
def rnk (o : OrV) : Int := if o.what = 3 then 0 else 1
/-- how two orders compare. -/
def cmpo (a b : OrV) : Int := or3 (sgn a.player b.player) (sgn a.unit b.unit) (sgn (rnk a) (rnk b))

theorem isnan_any (x : Int) (w : World) : Calls Tryd.prog 122 #[.int .i64 x] w fun e w' => e = .returned (.bool false) ∧ w' = w := by
  go_enter Tryd.func122, Tryd.ntmps122
  go_wp2
  go_ret
  exact ⟨by simp, rfl⟩
theorem cmpint_any (x y : Int) (w : World) : Calls Tryd.prog 85 #[.int .i64 x, .int .i64 y] w fun e w' => e = .returned (.int .i64 (sgn x y)) ∧ w' = w := by
  have NA : Hid (∀ x w, Calls Tryd.prog 122 #[.int .i64 x] w fun e w' => e = .returned (.bool false) ∧ w' = w) := isnan_any
  by_cases h1 : x < y
  · go_enter Tryd.func85, Tryd.ntmps85
    go_wp2_with fail
    refine (NA.out _ _).mono ?_
    rintro e w' ⟨rfl, rfl⟩
    go_wp2_with fail
    refine (NA.out _ _).mono ?_
    rintro e w' ⟨rfl, rfl⟩
    go_wp2
    go_ret
    exact ⟨by simp [sgn, h1], rfl⟩
  · by_cases h2 : y < x
    · go_enter Tryd.func85, Tryd.ntmps85
      go_wp2_with fail
      refine (NA.out _ _).mono ?_
      rintro e w' ⟨rfl, rfl⟩
      go_wp2_with fail
      refine (NA.out _ _).mono ?_
      rintro e w' ⟨rfl, rfl⟩
      go_wp2
      go_ret
      exact ⟨by simp [sgn, h1, h2], rfl⟩
    · go_enter Tryd.func85, Tryd.ntmps85
      go_wp2_with fail
      refine (NA.out _ _).mono ?_
      rintro e w' ⟨rfl, rfl⟩
      go_wp2_with fail
      refine (NA.out _ _).mono ?_
      rintro e w' ⟨rfl, rfl⟩
      go_wp2
      go_ret
      exact ⟨by unfold sgn; rw [if_neg (by omega), if_neg (by omega)]; rfl, rfl⟩
theorem rank_any (o : OrV) (w : World) : Calls Tryd.prog 86 #[o.val] w fun e w' => e = .returned (.int .i64 (rnk o)) ∧ Below w.heap.size w w' := by
  obtain ⟨p, u, n, a⟩ := o
  have BB : Hid (Below w.heap.size w (w.alloc (Obj.cells #[.int .i64 p, .int .i64 u, .int .i64 n, .int .i64 a] 63))) := (Below.refl _ _).alloc (Nat.le_refl _) _
  unfold OrV.val rnk
  simp only
  by_cases h : n = 3
  · subst h
    go_enter Tryd.func86, Tryd.ntmps86
    go_wp2
    go_ret
    exact ⟨rfl, BB⟩
  · have hb : (n == 3) = false := beq_eq_false_iff_ne.2 h
    rw [if_neg h]
    go_enter Tryd.func86, Tryd.ntmps86
    go_wp2
    go_ret
    exact ⟨rfl, BB⟩
theorem or_any (x y z : Int) (b : Nat) (w : World) (h0 : w.cell? ⟨b, 0, none⟩ = some (.int .i64 x)) (h1 : w.cell? ⟨b, 1, none⟩ = some (.int .i64 y)) (h2 : w.cell? ⟨b, 2, none⟩ = some (.int .i64 z)) :
    Calls Tryd.prog 84 #[.slice (some ⟨b, 0, none⟩) 3 3] w fun e w' => e = .returned (.int .i64 (or3 x y z)) ∧ w' = w := by
  by_cases hx : x = 0
  · subst hx
    by_cases hy : y = 0
    · subst hy
      by_cases hz : z = 0
      · subst hz
        go_enter Tryd.func84, Tryd.ntmps84
        go_wp2
        refine wp_loop_rounds 4 ?_
        rw [rounds_succ]
        go_wp2
        rw [rounds_succ]
        go_wp2
        rw [rounds_succ]
        go_wp2
        rw [rounds_succ]
        go_wp2
        go_ret
        exact ⟨rfl, rfl⟩
      · have hzb : (z == 0) = false := beq_eq_false_iff_ne.2 hz
        go_enter Tryd.func84, Tryd.ntmps84
        go_wp2
        refine wp_loop_rounds 3 ?_
        rw [rounds_succ]
        go_wp2
        rw [rounds_succ]
        go_wp2
        rw [rounds_succ]
        go_wp2
        go_ret
        exact ⟨by simp [or3], rfl⟩
    · have hyb : (y == 0) = false := beq_eq_false_iff_ne.2 hy
      go_enter Tryd.func84, Tryd.ntmps84
      go_wp2
      refine wp_loop_rounds 2 ?_
      rw [rounds_succ]
      go_wp2
      rw [rounds_succ]
      go_wp2
      go_ret
      exact ⟨by simp [or3, hy], rfl⟩
  · have hxb : (x == 0) = false := beq_eq_false_iff_ne.2 hx
    go_enter Tryd.func84, Tryd.ntmps84
    go_wp2
    refine wp_loop_rounds 1 ?_
    rw [rounds_succ]
    go_wp2
    go_ret
    exact ⟨by simp [or3, hx], rfl⟩
end Go.Proofs.YtelbdcljdfadbaaDoor

namespace Go.Proofs.YtelbdcljdfadbaaDoor.So
set_option linter.unusedVariables false

abbrev T := OrV × Nat
/-- the key of an order stands ahead of another one's. -/
def klt (a b : OrV) : Prop := a.player < b.player ∨ (a.player = b.player ∧ (a.unit < b.unit ∨ (a.unit = b.unit ∧ rnk a < rnk b)))
theorem sgn_neg {x y : Int} : sgn x y < 0 ↔ x < y := by
  unfold sgn
  split
  · omega
  · split <;> omega
theorem sgn_zero {x y : Int} : sgn x y = 0 ↔ x = y := by
  unfold sgn
  split
  · omega
  · split <;> omega
theorem klt_iff (a b : OrV) : cmpo a b < 0 ↔ klt a b := by
  unfold cmpo or3 klt
  by_cases h1 : sgn a.player b.player = 0
  · rw [if_neg (fun h => h h1)]
    have e1 := sgn_zero.1 h1
    by_cases h2 : sgn a.unit b.unit = 0
    · rw [if_neg (fun h => h h2), sgn_neg]
      have e2 := sgn_zero.1 h2
      omega
    · rw [if_pos h2, sgn_neg]
      have e2 : ¬ a.unit = b.unit := fun e => h2 (sgn_zero.2 e)
      omega
  · rw [if_pos h1, sgn_neg]
    have e2 : ¬ a.player = b.player := fun e => h1 (sgn_zero.2 e)
    omega
instance (a b : OrV) : Decidable (klt a b) := by unfold klt; infer_instance
theorem klt_irr (a : OrV) : ¬ klt a a := by unfold klt; omega
theorem klt_trans {a b c : OrV} (h : klt a b) (k : klt b c) : klt a c := by unfold klt at *; omega
theorem klt_asym {a b : OrV} (h : klt a b) : ¬ klt b a := by unfold klt at *; omega
theorem klt_neg {a b c : OrV} (h : ¬ klt b a) (k : ¬ klt c b) : ¬ klt c a := by unfold klt at *; omega
/-- x stands ahead of y: by the key, then by the place that it had. -/
def lt (x y : T) : Prop := klt x.1 y.1 ∨ (¬ klt y.1 x.1 ∧ x.2 < y.2)
theorem lt_trans {x y z : T} (h : lt x y) (k : lt y z) : lt x z := by
  unfold lt klt at *
  omega
theorem lt_irr (x : T) : ¬ lt x x := by
  unfold lt klt
  omega
/-- where x had its place ahead of y: what the program asks tells which stands ahead. -/
theorem ask_lt {x y : T} (h : x.2 < y.2) : klt y.1 x.1 ↔ lt y x := by
  unfold lt klt
  omega
theorem ask_ge {x y : T} (h : x.2 < y.2) : ¬ klt y.1 x.1 ↔ lt x y := by
  unfold lt klt
  omega
/-- a list that rises has one order alone. -/
theorem rise_unique : ∀ {l l' : List T}, l.Perm l' → l.Pairwise lt → l'.Pairwise lt → l = l'
  | [], l', p, _, _ => by
    have := p.length_eq
    cases l' with
    | nil => rfl
    | cons x l' => simp at this
  | x :: l, [], p, _, _ => by
    have := p.length_eq
    simp at this
  | x :: l, y :: l', p, h, h' => by
    rw [List.pairwise_cons] at h h'
    have exy : x = y := by
      have hx : x ∈ y :: l' := p.mem_iff.1 (List.mem_cons_self ..)
      have hy : y ∈ x :: l := p.mem_iff.2 (List.mem_cons_self ..)
      rcases List.mem_cons.1 hx with e | hx
      · exact e
      · rcases List.mem_cons.1 hy with e | hy
        · exact e.symm
        · exact absurd (lt_trans (h.1 y hy) (h'.1 x hx)) (lt_irr x)
    subst exy
    rw [rise_unique (List.Perm.cons_inv p) h.2 h'.2]
/-- x is put among those that rise. -/
theorem put_rise {S1 S2 : List T} {x : T} (h : (S1 ++ S2).Pairwise lt) (h1 : ∀ y ∈ S1, lt y x) (h2 : ∀ y ∈ S2, lt x y) : (S1 ++ x :: S2).Pairwise lt := by
  rw [List.pairwise_append] at h ⊢
  refine ⟨h.1, List.pairwise_cons.2 ⟨h2, h.2.1⟩, fun a ha b hb => ?_⟩
  rcases List.mem_cons.1 hb with rfl | hb
  · exact h1 a ha
  · exact h.2.2 a ha b hb
/-- two that rise, one behind the other. -/
theorem cat_rise {S1 S2 : List T} (h1 : S1.Pairwise lt) (h2 : S2.Pairwise lt) (h : ∀ x ∈ S1, ∀ y ∈ S2, lt x y) : (S1 ++ S2).Pairwise lt := List.pairwise_append.2 ⟨h1, h2, h⟩
end Go.Proofs.YtelbdcljdfadbaaDoor.So

namespace Go.Proofs.YtelbdcljdfadbaaDoor
open Go.RowKit
set_option linter.unusedVariables false
set_option maxRecDepth 100000

theorem um_laid : laidOutB Tryd.prog = true := by kernel_rfl
theorem um_row : (103 : TypeId) < Tryd.prog.types.size := of_decide_eq_true (by kernel_rfl)
theorem um_wide : (match Tryd.prog.underlying 103 with | some (.array _ _) | some (.struct _) => true | _ => false) = true := by kernel_rfl
theorem um_deep : Tryd.prog.keyTypeAt 3 103 = true := by kernel_rfl
theorem um_law : Maps.Keyed Tryd.prog 103 := Maps.Keyed.of_law (deep_law_laid um_laid (m := 3) (by omega) um_row um_deep um_wide)
theorem um_cells : Tryd.prog.cellsOf 103 = 2 := by kernel_rfl
theorem um_int : Tryd.prog.cellsOf 3 = 1 := by kernel_rfl
theorem um_type : Tryd.prog.keyType 103 = true := by kernel_rfl
theorem um_size : ∃ m, Tryd.prog.types.size = m + 1 := ⟨Tryd.prog.types.size - 1, by have h : 0 < Tryd.prog.types.size := Nat.lt_of_le_of_lt (Nat.zero_le _) um_row; omega⟩
theorem um_key {p u : Int} (hp : (Lit.int .i64 p).wf = true) (hu : (Lit.int .i64 u).wf = true) : ∃ kl, keyOf Tryd.prog 103 (.agg #[.int .i64 p, .int .i64 u]) = some kl := by
  obtain ⟨m, hm⟩ := um_size
  have ht := um_type
  have hc := um_cells
  have hi := um_int
  unfold keyOf
  simp only [Tryd.underlying103]
  rw [if_pos (by simp [ht, Value.formed, Tryd.underlying103, hc]), hm]
  unfold Program.keyLits
  simp only [Tryd.underlying103, Value.cells]
  rw [if_pos ⟨by rw [hc]; rfl, by kernel_rfl⟩]
  simp [Program.keyLits, Tryd.underlying3, hp, hu, hi]
theorem um_zero (w : World) : (zeroValue 3).run Tryd.prog w = .ok (.int .i64 0) w := by kernel_rfl
theorem wf64 {n : Int} (h0 : -9223372036854775808 ≤ n) (h1 : n ≤ 9223372036854775807) : (Lit.int .i64 n).wf = true := WalkArith.wf_i64 (by omega)
/-- block b is a map: f tells what stands at each player and unit. -/
def Um (w : World) (b n : Nat) (f : Int → Int → Int) : Prop := ∃ D : DataW Unit, w.ownsMap Tryd.prog 103 (plainElem Tryd.prog 3) b n D ∧ Maps.IsMap D ∧ ∀ p u kl, keyOf Tryd.prog 103 (.agg #[.int .i64 p, .int .i64 u]) = some kl → D.atKey kl (.lit (.int .i64 0)) = .lit (.int .i64 (f p u))
def updAt (f : Int → Int → Int) (p u v : Int) : Int → Int → Int := fun p' u' => if p' = p ∧ u' = u then v else f p' u'
theorem um_made (w : World) : Um (w.alloc (.map #[] 0)) w.heap.size 0 (fun _ _ => 0) :=
  ⟨.map [], World.ownsMap_made _ _ _ _, Maps.isMap_empty, fun p u kl _ => Maps.atKey_of_not_has rfl _⟩
theorem Um.lt {w : World} {b n : Nat} {f : Int → Int → Int} (h : Um w b n f) : b < w.heap.size := by
  obtain ⟨D, h1, -⟩ := h
  exact h1.lt
theorem Um.gb {w w' : World} {b n : Nat} {f : Int → Int → Int} {r : Option Nat} (h : Um w b n f) (g : w.grownBy w' r) (hr : some b ≠ r) : Um w' b n f := by
  obtain ⟨D, h1, h2⟩ := h
  exact ⟨D, h1.kept g hr, h2⟩
theorem Um.below {w w' : World} {b n : Nat} {f : Int → Int → Int} (h : Um w b n f) (g : Below w.heap.size w w') : Um w' b n f :=
  h.gb (r := none) ⟨g.os, g.tape, g.output, g.size, fun k hk _ => g.block k hk⟩ (by simp)
theorem Um.put {w : World} {b n : Nat} {f : Int → Int → Int} (h : Um w b n f) (hn : n < maxLen) {p u v : Int} (hp : (Lit.int .i64 p).wf = true) (hu : (Lit.int .i64 u).wf = true) (hv : (Lit.int .i64 v).wf = true) :
    ∃ w', (Instr.mapUpdate 100 (.map (some b)) (.agg #[.int .i64 p, .int .i64 u]) (.int .i64 v)).run Tryd.prog w = .ok () w' ∧ Um w' b (n + 1) (updAt f p u v) ∧ w.grownBy w' (some b) := by
  obtain ⟨D, h1, hD, h2⟩ := h
  obtain ⟨kl, hk⟩ := um_key hp hu
  obtain ⟨w', r, o, g⟩ := World.ownsMap.update h1 um_law Tryd.underlying100 hn hk (plainElem_int Tryd.underlying3 hv)
  refine ⟨w', r, ⟨_, o, hD.put _ _, fun p' u' kl' hk' => ?_⟩, g⟩
  unfold updAt
  by_cases e : kl' = kl
  · subst e
    have ei := um_law.inj hk hk'
    simp only [Value.agg.injEq, Array.mk.injEq, List.cons.injEq, Value.int.injEq, true_and, and_true] at ei
    rw [if_pos ⟨ei.1.symm, ei.2.symm⟩]
    exact Maps.atKey_put_same hD (um_law.key hk) _ _
  · rw [Maps.atKey_put_other e, if_neg, h2 p' u' kl' hk']
    rintro ⟨rfl, rfl⟩
    exact e (Option.some.inj (hk'.symm.trans hk))
theorem Um.look {w : World} {b n : Nat} {f : Int → Int → Int} (h : Um w b n f) {p u : Int} (hp : (Lit.int .i64 p).wf = true) (hu : (Lit.int .i64 u).wf = true) :
    (Instr.lookup 100 (.map (some b)) (.agg #[.int .i64 p, .int .i64 u]) false).run Tryd.prog w = .ok (.int .i64 (f p u)) w := by
  obtain ⟨D, h1, hD, h2⟩ := h
  obtain ⟨kl, hk⟩ := um_key hp hu
  obtain ⟨c, hr, hat, -⟩ := h1.lookup_int um_law Tryd.underlying100 Tryd.underlying3 (um_zero w) hk
  rw [h2 p u kl hk] at hat
  injection hat with e
  injection e with _ e
  rw [e]
  exact hr
end Go.Proofs.YtelbdcljdfadbaaDoor

namespace Go.Proofs.YtelbdcljdfadbaaDoor
namespace So
set_option linter.unusedVariables false
/-- where each unit's last order stands, among the first q. -/
def lf (l : List OrV) : Nat → Int → Int → Int
  | 0 => fun _ _ => 0
  | q + 1 => match l[q]? with
    | some o => if o.what = 3 then lf l q else updAt (lf l q) o.player o.unit (q : Nat)
    | none => lf l q
/-- those that count, of the first q, with their places. -/
def kp (l : List OrV) : Nat → List T
  | 0 => []
  | q + 1 => match l[q]? with
    | some o => if o.what = 3 ∨ lf l l.length o.player o.unit = (q : Nat) then kp l q ++ [(o, q)] else kp l q
    | none => kp l q
theorem lf_train {l : List OrV} {q : Nat} {o : OrV} (h : l[q]? = some o) (h3 : o.what = 3) : lf l (q + 1) = lf l q := by rw [lf]; simp only [h]; rw [if_pos h3]
theorem lf_other {l : List OrV} {q : Nat} {o : OrV} (h : l[q]? = some o) (h3 : ¬ o.what = 3) : lf l (q + 1) = updAt (lf l q) o.player o.unit (q : Nat) := by rw [lf]; simp only [h]; rw [if_neg h3]
theorem kp_yes {l : List OrV} {q : Nat} {o : OrV} (h : l[q]? = some o) (h3 : o.what = 3 ∨ lf l l.length o.player o.unit = (q : Nat)) : kp l (q + 1) = kp l q ++ [(o, q)] := by rw [kp]; simp only [h]; rw [if_pos h3]
theorem kp_no {l : List OrV} {q : Nat} {o : OrV} (h : l[q]? = some o) (h3 : ¬ (o.what = 3 ∨ lf l l.length o.player o.unit = (q : Nat))) : kp l (q + 1) = kp l q := by rw [kp]; simp only [h]; rw [if_neg h3]
theorem kp_mem {l : List OrV} : ∀ {q : Nat} {x : T}, x ∈ kp l q → x.2 < q ∧ l[x.2]? = some x.1 ∧ (x.1.what = 3 ∨ lf l l.length x.1.player x.1.unit = (x.2 : Nat))
  | 0, x, h => by simp [kp] at h
  | q + 1, x, h => by
    rw [kp] at h
    cases ho : l[q]? with
    | none =>
      simp only [ho] at h
      obtain ⟨h1, h2⟩ := kp_mem h
      exact ⟨by omega, h2⟩
    | some o =>
      simp only [ho] at h
      split at h
      · rename_i hc
        rcases List.mem_append.1 h with h | h
        · obtain ⟨h1, h2⟩ := kp_mem h
          exact ⟨by omega, h2⟩
        · simp at h
          subst h
          exact ⟨by simp, ho, hc⟩
      · obtain ⟨h1, h2⟩ := kp_mem h
        exact ⟨by omega, h2⟩
theorem kp_in {l : List OrV} {i : Nat} {o : OrV} (ho : l[i]? = some o) (hc : o.what = 3 ∨ lf l l.length o.player o.unit = (i : Nat)) : ∀ {q : Nat}, i < q → (o, i) ∈ kp l q
  | 0, h => by omega
  | q + 1, h => by
    by_cases e : i = q
    · subst e
      rw [kp_yes ho hc]
      simp
    · have ih := kp_in ho hc (q := q) (by omega)
      rw [kp]
      cases hq : l[q]? with
      | none => exact ih
      | some o' =>
        simp only
        split
        · exact List.mem_append_left _ ih
        · exact ih
theorem kp_tags {l : List OrV} : ∀ (q : Nat), (kp l q).Pairwise (fun x y => x.2 < y.2)
  | 0 => List.Pairwise.nil
  | q + 1 => by
    rw [kp]
    cases hq : l[q]? with
    | none => exact kp_tags q
    | some o =>
      simp only
      split
      · refine List.pairwise_append.2 ⟨kp_tags q, by simp, fun x hx y hy => ?_⟩
        simp at hy
        subst hy
        exact (kp_mem hx).1
      · exact kp_tags q
theorem kp_len {l : List OrV} : ∀ (q : Nat), (kp l q).length ≤ q
  | 0 => Nat.le_refl _
  | q + 1 => by
    rw [kp]
    have := kp_len (l := l) q
    cases hq : l[q]? with
    | none => simp only; omega
    | some o =>
      simp only
      split
      · simp; omega
      · omega
/-- the last order of a unit is told. -/
theorem lf_last {l : List OrV} {i : Nat} {o : OrV} (ho : l[i]? = some o) (h3 : ¬ o.what = 3) : ∀ {q : Nat}, i < q → (∀ k x, i < k → k < q → l[k]? = some x → x.what = 3 ∨ x.player ≠ o.player ∨ x.unit ≠ o.unit) → lf l q o.player o.unit = (i : Nat)
  | 0, h, _ => by omega
  | q + 1, h, hn => by
    by_cases e : i = q
    · subst e
      rw [lf_other ho h3]
      unfold updAt
      rw [if_pos ⟨rfl, rfl⟩]
    · have ih := lf_last ho h3 (q := q) (by omega) (fun k x h1 h2 hx => hn k x h1 (by omega) hx)
      rw [lf]
      cases hq : l[q]? with
      | none => exact ih
      | some x =>
        simp only
        split
        · exact ih
        · rename_i hx3
          unfold updAt
          rw [if_neg]
          · exact ih
          · rintro ⟨h1, h2⟩
            rcases hn q x (by omega) (by omega) hq with h | h | h
            · exact hx3 h
            · exact h h1.symm
            · exact h h2.symm
/-- of orders l, those that count. -/
def LastSays (l out : List OrV) : Prop := ∃ S : List T, S.Perm (kp l l.length) ∧ S.Pairwise lt ∧ out = S.map Prod.fst
theorem LastSays.one {l out out' : List OrV} (h : LastSays l out) (h' : LastSays l out') : out = out' := by
  obtain ⟨S, p, r, rfl⟩ := h
  obtain ⟨S', p', r', rfl⟩ := h'
  rw [rise_unique (p.trans p'.symm) r r']
theorem LastSays.len {l out : List OrV} (h : LastSays l out) : out.length ≤ l.length := by
  obtain ⟨S, p, r, rfl⟩ := h
  have := kp_len (l := l) l.length
  rw [List.length_map, p.length_eq]
  exact this
theorem LastSays.mem {l out : List OrV} (h : LastSays l out) {o : OrV} (ho : o ∈ out) : o ∈ l := by
  obtain ⟨S, p, r, rfl⟩ := h
  obtain ⟨x, hx, rfl⟩ := List.mem_map.1 ho
  exact List.mem_of_getElem? (kp_mem (p.mem_iff.1 hx)).2.1
end So
end Go.Proofs.YtelbdcljdfadbaaDoor

