/- The program's orders: a line that is read, behind others. -/
import Derived.Test.YtkceccajamdbjaaDoorOdR
namespace Go.Proofs.YtkceccajamdbjaaDoor
open Go.RowKit
set_option linter.unusedVariables false

/-- what is said of a line, behind so many others: the order; or the fault. -/
def lineFault (n : Nat) (l : List UInt8) : Int := match Od.ofLine l with
  | none => 2
  | some o => if n = 60 then 4 else Od.fault o
def OnextSays (n : Nat) (l : List UInt8) (w : World) (e : Ending) (w' : World) : Prop := ∃ (o : OrV) (v : Value), e = .returned (.tuple #[o.val, v]) ∧ Er v (lineFault n l) ∧ (lineFault n l = 0 → Od.ofLine l = some o) ∧ Below w.heap.size w w'

set_option maxRecDepth 100000 in
set_option maxHeartbeats 8000000 in
theorem onext_any (b n : Nat) (hn : n ≤ 60) (s : ByteArray) (w : World) (hsx : s.size ≤ 9223372036854775806) (hm : Wm w b 4 W4) (hp : Pw w) (hy : Sy w) :
    Calls Tryd.prog 40 #[.map (some b), .int .i64 (n : Nat), .string s] w (OnextSays n s.data.toList w) := by
  have P0 : Hid (Pw w ∧ Sy w ∧ Wm w b 4 W4) := ⟨hp, hy, hm⟩
  have B0 : Hid (Below w.heap.size w (w.alloc (Obj.cells #[.int .i64 0, .int .i64 0, .int .i64 0, .int .i64 0] 51))) := (Below.refl _ _).alloc (Nat.le_refl _) _
  have Z0 : Hid (Orb (w.alloc (Obj.cells #[.int .i64 0, .int .i64 0, .int .i64 0, .int .i64 0] 51)) w.heap.size ⟨0, 0, 0, 0⟩) := Orb.mk' w ⟨0, 0, 0, 0⟩
  clear hp hy hm
  go_enter Tryd.func40, Tryd.ntmps40
  go_wp2_with fail
  generalize hw1 : w.alloc (Obj.cells #[.int .i64 0, .int .i64 0, .int .i64 0, .int .i64 0] 51) = w1 at *
  clear hw1
  refine (oread_any b s w1 hsx (P0.out.2.2.below B0.out P0.out.2.2.lt) (P0.out.1.below B0.out) (P0.out.2.1.below B0.out)).mono ?_
  rintro e w2 ⟨o, ok, rfl, hok, b2⟩
  have B2 : Hid (Below w.heap.size w w2) := B0.out.trans (b2.mono B0.out.size)
  have Z2 : Hid (Orb w2 w.heap.size ⟨0, 0, 0, 0⟩) := Z0.out.below b2 Z0.out.lt
  clear B0 Z0 b2
  obtain ⟨op, ou, on, oa⟩ := o
  have ba : Below w2.heap.size w2 (w2.alloc (Obj.cells #[.int .i64 op, .int .i64 ou, .int .i64 on, .int .i64 oa] 51)) := (Below.refl _ _).alloc (Nat.le_refl _) _
  have B3 : Hid (Below w.heap.size w (w2.alloc (Obj.cells #[.int .i64 op, .int .i64 ou, .int .i64 on, .int .i64 oa] 51))) := B2.out.trans (ba.mono B2.out.size)
  have Z3 : Hid (Orb (w2.alloc (Obj.cells #[.int .i64 op, .int .i64 ou, .int .i64 on, .int .i64 oa] 51)) w.heap.size ⟨0, 0, 0, 0⟩) := Z2.out.below ba Z2.out.lt
  have O3 : Hid (Orb (w2.alloc (Obj.cells #[.int .i64 op, .int .i64 ou, .int .i64 on, .int .i64 oa] 51)) w2.heap.size ⟨op, ou, on, oa⟩) := Orb.mk' w2 ⟨op, ou, on, oa⟩
  have Hlt : Hid (w.heap.size < w2.heap.size) := Z2.out.lt
  clear ba B2 Z2
  unfold OrV.val
  simp only
  rcases hok with ⟨rfl, hl⟩ | ⟨rfl, hl⟩
  · by_cases h60 : n = 60
    · have LF : Hid (lineFault n s.data.toList = 4) := by unfold Hid lineFault; rw [hl]; simp [h60]
      subst h60
      clear hl
      have z9 := Z3.out.put 0 0 0 0
      have B9 : Hid (Below w.heap.size w (((((w2.alloc (Obj.cells #[.int .i64 op, .int .i64 ou, .int .i64 on, .int .i64 oa] 51)).setCell ⟨w.heap.size, 0, none⟩ (.int .i64 0)).setCell ⟨w.heap.size, 1, none⟩ (.int .i64 0)).setCell ⟨w.heap.size, 2, none⟩ (.int .i64 0)).setCell ⟨w.heap.size, 3, none⟩ (.int .i64 0))) := put_below 0 0 0 0 B3.out (Nat.le_refl _)
      obtain ⟨y0, y1, y2, y3⟩ := Z3.out.cells
      have f0 := Z3.out.thaw 0
      have f1 := Z3.out.thaw 1
      have f2 := Z3.out.thaw 2
      have f3 := Z3.out.thaw 3
      simp only at y0 y1 y2 y3
      go_wp2
      generalize (((((w2.alloc (Obj.cells #[.int .i64 op, .int .i64 ou, .int .i64 on, .int .i64 oa] 51)).setCell ⟨w.heap.size, 0, none⟩ (.int .i64 0)).setCell ⟨w.heap.size, 1, none⟩ (.int .i64 0)).setCell ⟨w.heap.size, 2, none⟩ (.int .i64 0)).setCell ⟨w.heap.size, 3, none⟩ (.int .i64 0)) = w9 at *
      clear y0 y1 y2 y3 f0 f1 f2 f3
      obtain ⟨x0, x1, x2, x3⟩ := z9.cells
      refine bodyPost_ret (v := .tuple #[OrV.val ⟨0, 0, 0, 0⟩, .iface 68 (.int .i64 4)]) (by simp [results, Tryd.results40, go_sem, x0, x1, x2, x3, OrV.val]) rfl ?_
      exact ⟨⟨0, 0, 0, 0⟩, _, rfl, by rw [LF.out]; exact Er.no (by decide), (fun h => by rw [LF.out] at h; cases h), B9⟩
    · have LF : Hid (lineFault n s.data.toList = Od.fault ⟨op, ou, on, oa⟩) := by unfold Hid lineFault; rw [hl]; simp [h60]
      have h60b : ((n : Int) == 60) = false := by rw [beq_eq_false_iff_ne]; omega
      have HL : Hid (Od.ofLine s.data.toList = some ⟨op, ou, on, oa⟩) := hl
      clear hl
      go_upto_region 6 with fail
      generalize (w2.alloc (Obj.cells #[.int .i64 op, .int .i64 ou, .int .i64 on, .int .i64 oa] 51)) = w3 at *
      have FF : Hid (∀ W, Below w3.heap.size w3 W → W.cell? ⟨w2.heap.size, 0, none⟩ = some (.int .i64 op) ∧ W.cell? ⟨w2.heap.size, 1, none⟩ = some (.int .i64 ou) ∧ W.cell? ⟨w2.heap.size, 2, none⟩ = some (.int .i64 on) ∧ W.cell? ⟨w2.heap.size, 3, none⟩ = some (.int .i64 oa) ∧ W.cell? ⟨w.heap.size, 0, none⟩ = some (.int .i64 0) ∧ W.cell? ⟨w.heap.size, 1, none⟩ = some (.int .i64 0) ∧ W.cell? ⟨w.heap.size, 2, none⟩ = some (.int .i64 0) ∧ W.cell? ⟨w.heap.size, 3, none⟩ = some (.int .i64 0) ∧ W.frozen? ⟨w.heap.size, 0, none⟩ = false ∧ W.frozen? ⟨w.heap.size, 1, none⟩ = false ∧ W.frozen? ⟨w.heap.size, 2, none⟩ = false ∧ W.frozen? ⟨w.heap.size, 3, none⟩ = false) := fun W hW => by
        have z := Z3.out.below hW Z3.out.lt
        have o := O3.out.below hW O3.out.lt
        obtain ⟨a0, a1, a2, a3⟩ := o.cells
        obtain ⟨c0, c1, c2, c3⟩ := z.cells
        exact ⟨a0, a1, a2, a3, c0, c1, c2, c3, z.thaw 0, z.thaw 1, z.thaw 2, z.thaw 3⟩
      obtain ⟨p0, p1, p2, p3, y0, y1, y2, y3, f0, f1, f2, f3⟩ := FF.out w3 (Below.refl _ _)
      go_region_with (go_at_call 29; refine (checkOrder_any ⟨op, ou, on, oa⟩ _).mono ?_; rintro e w4 ⟨v, rfl, hv, b4⟩; have HV : Hid (Er v (Od.fault ⟨op, ou, on, oa⟩)) := hv; have B4 : Hid (Below w3.heap.size w3 w4) := (Below.refl _ _).drew.trans b4; clear hv b4; obtain ⟨pp0, pp1, pp2, pp3, yy0, yy1, yy2, yy3, ff0, ff1, ff2, ff3⟩ := FF.out w4 B4.out)
      all_goals (
        have z9 := (Z3.out.below B4.out Z3.out.lt).put op ou on oa
        have B9 : Hid (Below w.heap.size w ((((w4.setCell ⟨w.heap.size, 0, none⟩ (.int .i64 op)).setCell ⟨w.heap.size, 1, none⟩ (.int .i64 ou)).setCell ⟨w.heap.size, 2, none⟩ (.int .i64 on)).setCell ⟨w.heap.size, 3, none⟩ (.int .i64 oa))) := put_below op ou on oa (B3.out.trans (B4.out.mono B3.out.size)) (Nat.le_refl _)
        go_wp2
        generalize ((((w4.setCell ⟨w.heap.size, 0, none⟩ (.int .i64 op)).setCell ⟨w.heap.size, 1, none⟩ (.int .i64 ou)).setCell ⟨w.heap.size, 2, none⟩ (.int .i64 on)).setCell ⟨w.heap.size, 3, none⟩ (.int .i64 oa)) = w9 at *
        obtain ⟨x0, x1, x2, x3⟩ := z9.cells
        refine bodyPost_ret (v := .tuple #[OrV.val ⟨op, ou, on, oa⟩, v]) (by simp [results, Tryd.results40, go_sem, x0, x1, x2, x3, OrV.val]) rfl ?_
        exact ⟨_, v, rfl, by rw [LF.out]; exact HV, fun _ => HL.out, B9⟩)
  · have LF : Hid (lineFault n s.data.toList = 2) := by unfold Hid lineFault; rw [hl]
    clear hl
    have z9 := Z3.out.put 0 0 0 0
    have B9 : Hid (Below w.heap.size w (((((w2.alloc (Obj.cells #[.int .i64 op, .int .i64 ou, .int .i64 on, .int .i64 oa] 51)).setCell ⟨w.heap.size, 0, none⟩ (.int .i64 0)).setCell ⟨w.heap.size, 1, none⟩ (.int .i64 0)).setCell ⟨w.heap.size, 2, none⟩ (.int .i64 0)).setCell ⟨w.heap.size, 3, none⟩ (.int .i64 0))) := put_below 0 0 0 0 B3.out (Nat.le_refl _)
    obtain ⟨y0, y1, y2, y3⟩ := Z3.out.cells
    have f0 := Z3.out.thaw 0
    have f1 := Z3.out.thaw 1
    have f2 := Z3.out.thaw 2
    have f3 := Z3.out.thaw 3
    simp only at y0 y1 y2 y3
    go_wp2
    generalize (((((w2.alloc (Obj.cells #[.int .i64 op, .int .i64 ou, .int .i64 on, .int .i64 oa] 51)).setCell ⟨w.heap.size, 0, none⟩ (.int .i64 0)).setCell ⟨w.heap.size, 1, none⟩ (.int .i64 0)).setCell ⟨w.heap.size, 2, none⟩ (.int .i64 0)).setCell ⟨w.heap.size, 3, none⟩ (.int .i64 0)) = w9 at *
    clear y0 y1 y2 y3 f0 f1 f2 f3
    obtain ⟨x0, x1, x2, x3⟩ := z9.cells
    refine bodyPost_ret (v := .tuple #[OrV.val ⟨0, 0, 0, 0⟩, .iface 68 (.int .i64 2)]) (by simp [results, Tryd.results40, go_sem, x0, x1, x2, x3, OrV.val]) rfl ?_
    exact ⟨⟨0, 0, 0, 0⟩, _, rfl, by rw [LF.out]; exact Er.no (by decide), (fun h => by rw [LF.out] at h; cases h), B9⟩
end Go.Proofs.YtkceccajamdbjaaDoor
