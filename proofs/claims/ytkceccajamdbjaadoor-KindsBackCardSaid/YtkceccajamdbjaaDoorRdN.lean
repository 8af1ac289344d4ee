/- The program's kinds: a line that is read, behind others. -/
import Derived.Test.YtkceccajamdbjaaDoorRdD
import Derived.Test.YtkceccajamdbjaaDoorKdE
namespace Go.Proofs.YtkceccajamdbjaaDoor
open Go.RowKit
set_option linter.unusedVariables false

/-- what is said of a line, behind others: the kind; or the fault. -/
def klineFault (acc : List Kd.K) (l : List UInt8) : Int := match Kd.ofLine l with
  | none => 2
  | some k => if acc.length = 8 then 4 else Kd.kindFault acc k
def KnextSays (acc : List Kd.K) (l : List UInt8) (w : World) (e : Ending) (w' : World) : Prop := ∃ (k : KV) (v : Value), e = .returned (.tuple #[k.val, v]) ∧ Er v (klineFault acc l) ∧ (klineFault acc l = 0 → Kd.ofLine l = some k.k ∧ k.b.size ≤ l.length) ∧ Below w.heap.size w w'

set_option maxRecDepth 100000 in
set_option maxHeartbeats 16000000 in
theorem knext_any (vv : Value) (ks : List KV) (s : ByteArray) (w : World) (hsx : s.size ≤ 281474976710656) (hk : Kl w vv ks) (hp : Pw w) (hy : Sy w) :
    Calls Tryd.prog 22 #[vv, .string s] w (KnextSays (ks.map KV.k) s.data.toList w) := by
  obtain ⟨va, vc, hvv⟩ : ∃ a c, vv = .slice a ks.length c := by obtain ⟨a, c, h1, -⟩ := hk; exact ⟨a, c, h1⟩
  subst hvv
  have P0 : Hid (Pw w ∧ Sy w ∧ Kl w (.slice va ks.length vc) ks) := ⟨hp, hy, hk⟩
  have B0 : Hid (Below w.heap.size w (w.alloc (Obj.cells #[.string ⟨#[]⟩, .int .i64 0, .int .i64 0, .int .i64 0, .int .i64 0, .int .i64 0, .int .i64 0, .int .i64 0, .int .i64 0, .bool false, .bool false] 28))) := (Below.refl _ _).alloc (Nat.le_refl _) _
  have Z0 : Hid (Kb (w.alloc (Obj.cells #[.string ⟨#[]⟩, .int .i64 0, .int .i64 0, .int .i64 0, .int .i64 0, .int .i64 0, .int .i64 0, .int .i64 0, .int .i64 0, .bool false, .bool false] 28)) w.heap.size ⟨⟨#[]⟩, 0, 0, 0, 0, 0, 0, 0, 0, false, false⟩) := Kb.mk' w ⟨⟨#[]⟩, 0, 0, 0, 0, 0, 0, 0, 0, false, false⟩
  clear hp hy hk
  go_enter Tryd.func22, Tryd.ntmps22
  go_wp2_with fail
  generalize hw1 : w.alloc (Obj.cells #[.string ⟨#[]⟩, .int .i64 0, .int .i64 0, .int .i64 0, .int .i64 0, .int .i64 0, .int .i64 0, .int .i64 0, .int .i64 0, .bool false, .bool false] 28) = w1 at *
  clear hw1
  refine (kread_any s w1 hsx (P0.out.1.below B0.out) (P0.out.2.1.below B0.out)).mono ?_
  rintro e w2 ⟨k, ok, rfl, hok, b2⟩
  have B2 : Hid (Below w.heap.size w w2) := B0.out.trans (b2.mono B0.out.size)
  have Z2 : Hid (Kb w2 w.heap.size ⟨⟨#[]⟩, 0, 0, 0, 0, 0, 0, 0, 0, false, false⟩) := Z0.out.below b2 Z0.out.lt
  clear B0 Z0 b2
  obtain ⟨kb, k0, k1, k2, k3, k4, k5, k6, k7, kf, kt⟩ := k
  have ba : Below w2.heap.size w2 (w2.alloc (Obj.cells #[.string kb, .int .i64 k0, .int .i64 k1, .int .i64 k2, .int .i64 k3, .int .i64 k4, .int .i64 k5, .int .i64 k6, .int .i64 k7, .bool kf, .bool kt] 28)) := (Below.refl _ _).alloc (Nat.le_refl _) _
  have B3 : Hid (Below w.heap.size w (w2.alloc (Obj.cells #[.string kb, .int .i64 k0, .int .i64 k1, .int .i64 k2, .int .i64 k3, .int .i64 k4, .int .i64 k5, .int .i64 k6, .int .i64 k7, .bool kf, .bool kt] 28))) := B2.out.trans (ba.mono B2.out.size)
  have Z3 : Hid (Kb (w2.alloc (Obj.cells #[.string kb, .int .i64 k0, .int .i64 k1, .int .i64 k2, .int .i64 k3, .int .i64 k4, .int .i64 k5, .int .i64 k6, .int .i64 k7, .bool kf, .bool kt] 28)) w.heap.size ⟨⟨#[]⟩, 0, 0, 0, 0, 0, 0, 0, 0, false, false⟩) := Z2.out.below ba Z2.out.lt
  have O3 : Hid (Kb (w2.alloc (Obj.cells #[.string kb, .int .i64 k0, .int .i64 k1, .int .i64 k2, .int .i64 k3, .int .i64 k4, .int .i64 k5, .int .i64 k6, .int .i64 k7, .bool kf, .bool kt] 28)) w2.heap.size ⟨kb, k0, k1, k2, k3, k4, k5, k6, k7, kf, kt⟩) := Kb.mk' w2 ⟨kb, k0, k1, k2, k3, k4, k5, k6, k7, kf, kt⟩
  clear ba B2 Z2
  unfold KV.val
  simp only
  rcases hok with ⟨rfl, hl, hbz⟩ | ⟨rfl, hl⟩
  · by_cases h8 : ks.length = 8
    · have LF : Hid (klineFault (ks.map KV.k) s.data.toList = 4) := by unfold Hid klineFault; rw [hl]; simp [h8]
      have h8b : (((ks.length : Nat) : Int) == 8) = true := by rw [beq_iff_eq]; omega
      clear hl h8
      have z9 := Z3.out.put ⟨⟨#[]⟩, 0, 0, 0, 0, 0, 0, 0, 0, false, false⟩
      have B9 : Hid (Below w.heap.size w (kset (w2.alloc (Obj.cells #[.string kb, .int .i64 k0, .int .i64 k1, .int .i64 k2, .int .i64 k3, .int .i64 k4, .int .i64 k5, .int .i64 k6, .int .i64 k7, .bool kf, .bool kt] 28)) w.heap.size ⟨⟨#[]⟩, 0, 0, 0, 0, 0, 0, 0, 0, false, false⟩)) := kset_below ⟨⟨#[]⟩, 0, 0, 0, 0, 0, 0, 0, 0, false, false⟩ B3.out (Nat.le_refl _)
      obtain ⟨y0, y1, y2, y3, y4, y5, y6, y7, y8, y9, y10⟩ := Z3.out.cells
      have f0 := Z3.out.thaw 0
      have f1 := Z3.out.thaw 1
      have f2 := Z3.out.thaw 2
      have f3 := Z3.out.thaw 3
      have f4 := Z3.out.thaw 4
      have f5 := Z3.out.thaw 5
      have f6 := Z3.out.thaw 6
      have f7 := Z3.out.thaw 7
      have f8 := Z3.out.thaw 8
      have f9 := Z3.out.thaw 9
      have f10 := Z3.out.thaw 10
      simp only at y0 y1 y2 y3 y4 y5 y6 y7 y8 y9 y10
      go_wp2
      unfold kset at z9 B9
      simp only at z9 B9
      generalize ((((((((((((w2.alloc (Obj.cells #[.string kb, .int .i64 k0, .int .i64 k1, .int .i64 k2, .int .i64 k3, .int .i64 k4, .int .i64 k5, .int .i64 k6, .int .i64 k7, .bool kf, .bool kt] 28)).setCell ⟨w.heap.size, 0, none⟩ (.string ⟨#[]⟩)).setCell ⟨w.heap.size, 1, none⟩ (.int .i64 0)).setCell ⟨w.heap.size, 2, none⟩ (.int .i64 0)).setCell ⟨w.heap.size, 3, none⟩ (.int .i64 0)).setCell ⟨w.heap.size, 4, none⟩ (.int .i64 0)).setCell ⟨w.heap.size, 5, none⟩ (.int .i64 0)).setCell ⟨w.heap.size, 6, none⟩ (.int .i64 0)).setCell ⟨w.heap.size, 7, none⟩ (.int .i64 0)).setCell ⟨w.heap.size, 8, none⟩ (.int .i64 0)).setCell ⟨w.heap.size, 9, none⟩ (.bool false)).setCell ⟨w.heap.size, 10, none⟩ (.bool false)) = w9 at *
      clear y0 y1 y2 y3 y4 y5 y6 y7 y8 y9 y10 f0 f1 f2 f3 f4 f5 f6 f7 f8 f9 f10
      obtain ⟨x0, x1, x2, x3, x4, x5, x6, x7, x8, x9, x10⟩ := z9.cells
      refine bodyPost_ret (v := .tuple #[KV.val ⟨⟨#[]⟩, 0, 0, 0, 0, 0, 0, 0, 0, false, false⟩, .iface 68 (.int .i64 4)]) (by simp [results, Tryd.results22, go_sem, x0, x1, x2, x3, x4, x5, x6, x7, x8, x9, x10, KV.val]) rfl ?_
      exact ⟨⟨⟨#[]⟩, 0, 0, 0, 0, 0, 0, 0, 0, false, false⟩, _, rfl, by rw [LF.out]; exact Er.no (by decide), (fun h => by rw [LF.out] at h; cases h), B9⟩
    · have LF : Hid (klineFault (ks.map KV.k) s.data.toList = Kd.kindFault (ks.map KV.k) (KV.k ⟨kb, k0, k1, k2, k3, k4, k5, k6, k7, kf, kt⟩)) := by unfold Hid klineFault; rw [hl]; simp [h8]
      have h8b : (((ks.length : Nat) : Int) == 8) = false := by rw [beq_eq_false_iff_ne]; omega
      have HL : Hid (Kd.ofLine s.data.toList = some (KV.k ⟨kb, k0, k1, k2, k3, k4, k5, k6, k7, kf, kt⟩) ∧ kb.size ≤ s.data.toList.length) := ⟨hl, hbz⟩
      have hkb : kb.size ≤ 9223372036854775807 := by simp only at hbz; have : s.data.toList.length = s.size := rfl; omega
      clear hl hbz h8
      go_upto_region 6 with fail
      generalize (w2.alloc (Obj.cells #[.string kb, .int .i64 k0, .int .i64 k1, .int .i64 k2, .int .i64 k3, .int .i64 k4, .int .i64 k5, .int .i64 k6, .int .i64 k7, .bool kf, .bool kt] 28)) = w3 at *
      have FF : Hid (∀ W, Below w3.heap.size w3 W → W.cell? ⟨w2.heap.size, 0, none⟩ = some (.string kb) ∧ W.cell? ⟨w2.heap.size, 1, none⟩ = some (.int .i64 k0) ∧ W.cell? ⟨w2.heap.size, 2, none⟩ = some (.int .i64 k1) ∧ W.cell? ⟨w2.heap.size, 3, none⟩ = some (.int .i64 k2) ∧ W.cell? ⟨w2.heap.size, 4, none⟩ = some (.int .i64 k3) ∧ W.cell? ⟨w2.heap.size, 5, none⟩ = some (.int .i64 k4) ∧ W.cell? ⟨w2.heap.size, 6, none⟩ = some (.int .i64 k5) ∧ W.cell? ⟨w2.heap.size, 7, none⟩ = some (.int .i64 k6) ∧ W.cell? ⟨w2.heap.size, 8, none⟩ = some (.int .i64 k7) ∧ W.cell? ⟨w2.heap.size, 9, none⟩ = some (.bool kf) ∧ W.cell? ⟨w2.heap.size, 10, none⟩ = some (.bool kt) ∧ W.cell? ⟨w.heap.size, 0, none⟩ = some (.string ⟨#[]⟩) ∧ W.cell? ⟨w.heap.size, 1, none⟩ = some (.int .i64 0) ∧ W.cell? ⟨w.heap.size, 2, none⟩ = some (.int .i64 0) ∧ W.cell? ⟨w.heap.size, 3, none⟩ = some (.int .i64 0) ∧ W.cell? ⟨w.heap.size, 4, none⟩ = some (.int .i64 0) ∧ W.cell? ⟨w.heap.size, 5, none⟩ = some (.int .i64 0) ∧ W.cell? ⟨w.heap.size, 6, none⟩ = some (.int .i64 0) ∧ W.cell? ⟨w.heap.size, 7, none⟩ = some (.int .i64 0) ∧ W.cell? ⟨w.heap.size, 8, none⟩ = some (.int .i64 0) ∧ W.cell? ⟨w.heap.size, 9, none⟩ = some (.bool false) ∧ W.cell? ⟨w.heap.size, 10, none⟩ = some (.bool false) ∧ W.frozen? ⟨w.heap.size, 0, none⟩ = false ∧ W.frozen? ⟨w.heap.size, 1, none⟩ = false ∧ W.frozen? ⟨w.heap.size, 2, none⟩ = false ∧ W.frozen? ⟨w.heap.size, 3, none⟩ = false ∧ W.frozen? ⟨w.heap.size, 4, none⟩ = false ∧ W.frozen? ⟨w.heap.size, 5, none⟩ = false ∧ W.frozen? ⟨w.heap.size, 6, none⟩ = false ∧ W.frozen? ⟨w.heap.size, 7, none⟩ = false ∧ W.frozen? ⟨w.heap.size, 8, none⟩ = false ∧ W.frozen? ⟨w.heap.size, 9, none⟩ = false ∧ W.frozen? ⟨w.heap.size, 10, none⟩ = false) := fun W hW => by
        have z := Z3.out.below hW Z3.out.lt
        have o := O3.out.below hW O3.out.lt
        obtain ⟨a0, a1, a2, a3, a4, a5, a6, a7, a8, a9, a10⟩ := o.cells
        obtain ⟨c0, c1, c2, c3, c4, c5, c6, c7, c8, c9, c10⟩ := z.cells
        exact ⟨a0, a1, a2, a3, a4, a5, a6, a7, a8, a9, a10, c0, c1, c2, c3, c4, c5, c6, c7, c8, c9, c10, z.thaw 0, z.thaw 1, z.thaw 2, z.thaw 3, z.thaw 4, z.thaw 5, z.thaw 6, z.thaw 7, z.thaw 8, z.thaw 9, z.thaw 10⟩
      obtain ⟨p0, p1, p2, p3, p4, p5, p6, p7, p8, p9, p10, y0, y1, y2, y3, y4, y5, y6, y7, y8, y9, y10, f0, f1, f2, f3, f4, f5, f6, f7, f8, f9, f10⟩ := FF.out w3 (Below.refl _ _)
      go_region_with (go_at_call 44; refine (ckind_any (.slice va ks.length vc) ks ⟨kb, k0, k1, k2, k3, k4, k5, k6, k7, kf, kt⟩ _ (P0.out.2.2.below (B3.out.trans (Below.refl _ _).drew)) hkb).mono ?_; rintro e w4 ⟨v, rfl, hv, b4⟩; have HV : Hid (Er v (Kd.kindFault (ks.map KV.k) (KV.k ⟨kb, k0, k1, k2, k3, k4, k5, k6, k7, kf, kt⟩))) := hv; have B4 : Hid (Below w3.heap.size w3 w4) := (Below.refl _ _).drew.trans b4; clear hv b4; obtain ⟨pp0, pp1, pp2, pp3, pp4, pp5, pp6, pp7, pp8, pp9, pp10, yy0, yy1, yy2, yy3, yy4, yy5, yy6, yy7, yy8, yy9, yy10, ff0, ff1, ff2, ff3, ff4, ff5, ff6, ff7, ff8, ff9, ff10⟩ := FF.out w4 B4.out)
      all_goals (
        have z9 := (Z3.out.below B4.out Z3.out.lt).put ⟨kb, k0, k1, k2, k3, k4, k5, k6, k7, kf, kt⟩
        have B9 : Hid (Below w.heap.size w (kset w4 w.heap.size ⟨kb, k0, k1, k2, k3, k4, k5, k6, k7, kf, kt⟩)) := kset_below ⟨kb, k0, k1, k2, k3, k4, k5, k6, k7, kf, kt⟩ (B3.out.trans (B4.out.mono B3.out.size)) (Nat.le_refl _)
        go_wp2
        unfold kset at z9 B9
        simp only at z9 B9
        generalize (((((((((((w4.setCell ⟨w.heap.size, 0, none⟩ (.string kb)).setCell ⟨w.heap.size, 1, none⟩ (.int .i64 k0)).setCell ⟨w.heap.size, 2, none⟩ (.int .i64 k1)).setCell ⟨w.heap.size, 3, none⟩ (.int .i64 k2)).setCell ⟨w.heap.size, 4, none⟩ (.int .i64 k3)).setCell ⟨w.heap.size, 5, none⟩ (.int .i64 k4)).setCell ⟨w.heap.size, 6, none⟩ (.int .i64 k5)).setCell ⟨w.heap.size, 7, none⟩ (.int .i64 k6)).setCell ⟨w.heap.size, 8, none⟩ (.int .i64 k7)).setCell ⟨w.heap.size, 9, none⟩ (.bool kf)).setCell ⟨w.heap.size, 10, none⟩ (.bool kt)) = w9 at *
        obtain ⟨x0, x1, x2, x3, x4, x5, x6, x7, x8, x9, x10⟩ := z9.cells
        refine bodyPost_ret (v := .tuple #[KV.val ⟨kb, k0, k1, k2, k3, k4, k5, k6, k7, kf, kt⟩, v]) (by simp [results, Tryd.results22, go_sem, x0, x1, x2, x3, x4, x5, x6, x7, x8, x9, x10, KV.val]) rfl ?_
        exact ⟨_, v, rfl, by rw [LF.out]; exact HV, fun _ => HL.out, B9⟩)
  · have LF : Hid (klineFault (ks.map KV.k) s.data.toList = 2) := by unfold Hid klineFault; rw [hl]
    clear hl
    have z9 := Z3.out.put ⟨⟨#[]⟩, 0, 0, 0, 0, 0, 0, 0, 0, false, false⟩
    have B9 : Hid (Below w.heap.size w (kset (w2.alloc (Obj.cells #[.string kb, .int .i64 k0, .int .i64 k1, .int .i64 k2, .int .i64 k3, .int .i64 k4, .int .i64 k5, .int .i64 k6, .int .i64 k7, .bool kf, .bool kt] 28)) w.heap.size ⟨⟨#[]⟩, 0, 0, 0, 0, 0, 0, 0, 0, false, false⟩)) := kset_below ⟨⟨#[]⟩, 0, 0, 0, 0, 0, 0, 0, 0, false, false⟩ B3.out (Nat.le_refl _)
    obtain ⟨y0, y1, y2, y3, y4, y5, y6, y7, y8, y9, y10⟩ := Z3.out.cells
    have f0 := Z3.out.thaw 0
    have f1 := Z3.out.thaw 1
    have f2 := Z3.out.thaw 2
    have f3 := Z3.out.thaw 3
    have f4 := Z3.out.thaw 4
    have f5 := Z3.out.thaw 5
    have f6 := Z3.out.thaw 6
    have f7 := Z3.out.thaw 7
    have f8 := Z3.out.thaw 8
    have f9 := Z3.out.thaw 9
    have f10 := Z3.out.thaw 10
    simp only at y0 y1 y2 y3 y4 y5 y6 y7 y8 y9 y10
    go_wp2
    unfold kset at z9 B9
    simp only at z9 B9
    generalize ((((((((((((w2.alloc (Obj.cells #[.string kb, .int .i64 k0, .int .i64 k1, .int .i64 k2, .int .i64 k3, .int .i64 k4, .int .i64 k5, .int .i64 k6, .int .i64 k7, .bool kf, .bool kt] 28)).setCell ⟨w.heap.size, 0, none⟩ (.string ⟨#[]⟩)).setCell ⟨w.heap.size, 1, none⟩ (.int .i64 0)).setCell ⟨w.heap.size, 2, none⟩ (.int .i64 0)).setCell ⟨w.heap.size, 3, none⟩ (.int .i64 0)).setCell ⟨w.heap.size, 4, none⟩ (.int .i64 0)).setCell ⟨w.heap.size, 5, none⟩ (.int .i64 0)).setCell ⟨w.heap.size, 6, none⟩ (.int .i64 0)).setCell ⟨w.heap.size, 7, none⟩ (.int .i64 0)).setCell ⟨w.heap.size, 8, none⟩ (.int .i64 0)).setCell ⟨w.heap.size, 9, none⟩ (.bool false)).setCell ⟨w.heap.size, 10, none⟩ (.bool false)) = w9 at *
    clear y0 y1 y2 y3 y4 y5 y6 y7 y8 y9 y10 f0 f1 f2 f3 f4 f5 f6 f7 f8 f9 f10
    obtain ⟨x0, x1, x2, x3, x4, x5, x6, x7, x8, x9, x10⟩ := z9.cells
    refine bodyPost_ret (v := .tuple #[KV.val ⟨⟨#[]⟩, 0, 0, 0, 0, 0, 0, 0, 0, false, false⟩, .iface 68 (.int .i64 2)]) (by simp [results, Tryd.results22, go_sem, x0, x1, x2, x3, x4, x5, x6, x7, x8, x9, x10, KV.val]) rfl ?_
    exact ⟨⟨⟨#[]⟩, 0, 0, 0, 0, 0, 0, 0, 0, false, false⟩, _, rfl, by rw [LF.out]; exact Er.no (by decide), (fun h => by rw [LF.out] at h; cases h), B9⟩
end Go.Proofs.YtkceccajamdbjaaDoor
