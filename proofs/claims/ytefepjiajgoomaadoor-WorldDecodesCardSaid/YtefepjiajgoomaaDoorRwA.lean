/- The reference: a number in bytes. -/
import Derived.Test.YtefepjiajgoomaaDoorWdR
import Derived.Test.YtefepjiajgoomaaDoorByA
import Derived.Test.YtefepjiajgoomaaDoorPaA
import Derived.BigQuiet
import Derived.Deep.DeepCutAuto
namespace Go.Proofs.YtefepjiajgoomaaDoor
open Go.RowKit
set_option linter.unusedVariables false

/-- what is read, how far, and whether something was wrong. -/
structure Dr (w0 : World) (z : Nat) (v : Value) (l : List UInt8) (w : World) (a : Nat) (f : Bool) : Prop where
  src : By w0 v l
  low : w0.heap.size ≤ z
  bl : Below z w0 w
  blk : w.heap[z]? = some (.cells #[v, .int .i64 (a : Nat), .bool f] 124 (0, 0))
  le : a ≤ l.length
theorem Dr.lt {w0 w : World} {z a : Nat} {v : Value} {l : List UInt8} {f : Bool} (h : Dr w0 z v l w a f) : z < w.heap.size := lt_of_block h.blk
theorem Dr.cells {w0 w : World} {z a : Nat} {v : Value} {l : List UInt8} {f : Bool} (h : Dr w0 z v l w a f) : w.cell? ⟨z, 0, none⟩ = some v ∧ w.cell? ⟨z, 1, none⟩ = some (.int .i64 (a : Nat)) ∧ w.cell? ⟨z, 2, none⟩ = some (.bool f) := by
  have := h.blk
  refine ⟨?_, ?_, ?_⟩ <;> simp [World.cell?, this]
theorem Dr.thaw {w0 w : World} {z a : Nat} {v : Value} {l : List UInt8} {f : Bool} (h : Dr w0 z v l w a f) (i : Nat) : w.frozen? ⟨z, i, none⟩ = false := by
  have := h.blk
  simp [World.frozen?, this]
theorem Dr.kept {w0 w w' : World} {z a : Nat} {v : Value} {l : List UInt8} {f : Bool} (h : Dr w0 z v l w a f) (hb : Below (z + 1) w w') : Dr w0 z v l w' a f :=
  ⟨h.src, h.low, h.bl.trans (hb.mono (by omega)), by rw [hb.block z (by omega)]; exact h.blk, h.le⟩
theorem Dr.by_ {w0 w : World} {z a : Nat} {v : Value} {l : List UInt8} {f : Bool} (h : Dr w0 z v l w a f) : By w v l := h.src.below (h.bl.mono h.low)
theorem Dr.at_ {w0 w : World} {z a : Nat} {v : Value} {l : List UInt8} {f : Bool} (h : Dr w0 z v l w a f) {a' : Nat} (hle : a' ≤ l.length) : Dr w0 z v l (w.setCell ⟨z, 1, none⟩ (.int .i64 (a' : Nat))) a' f :=
  ⟨h.src, h.low, Kp.below h.bl (Kp.set w 1 _) (Nat.le_of_lt h.lt) (Nat.le_refl _), heap_setCell_same w z 1 _ _ (.int .i64 (a' : Nat)) h.blk, hle⟩
theorem Dr.bad {w0 w : World} {z a : Nat} {v : Value} {l : List UInt8} {f : Bool} (h : Dr w0 z v l w a f) (f' : Bool) : Dr w0 z v l (w.setCell ⟨z, 2, none⟩ (.bool f')) a f' :=
  ⟨h.src, h.low, Kp.below h.bl (Kp.set w 2 _) (Nat.le_of_lt h.lt) (Nat.le_refl _), heap_setCell_same w z 2 _ _ (.bool f') h.blk, h.le⟩
theorem Dr.drewN {w0 w : World} {z a : Nat} {v : Value} {l : List UInt8} {f : Bool} (h : Dr w0 z v l w a f) (n : Nat) : Dr w0 z v l (w.drewN n) a f := h.kept (below_drewN (Below.refl _ _) n)
theorem Wd.Rd.none {α : Type} {p : Wd.Pr α} {a : Nat} {v : α} {a' : Nat} (h : p a = Option.none) : Wd.Rd p a false v a' true := ⟨(fun h => by cases h), fun _ => .inr ⟨h, rfl⟩⟩
theorem Wd.Rd.some {α : Type} {p : Wd.Pr α} {a : Nat} {v : α} {a' : Nat} (h : p a = Option.some (v, a')) : Wd.Rd p a false v a' false := ⟨fun h => h, fun _ => .inl ⟨h, rfl⟩⟩
/-- what Num says. -/
def RnSays (w0 : World) (z : Nat) (v : Value) (l : List UInt8) (w : World) (a : Nat) (f : Bool) (e : Ending) (w' : World) : Prop :=
  ∃ (n : Int) (a' : Nat) (f' : Bool), e = .returned (.int .i64 n) ∧ Wd.Rd (Wd.pnum l) a f n a' f' ∧ Dr w0 z v l w' a' f' ∧ Kp z w w'
theorem pnum_none {l : List UInt8} {a : Nat} (h : Wd.rd 0 0 (l.drop a) = none) : Wd.pnum l a = none := by unfold Wd.pnum; rw [h]
theorem pnum_some {l : List UInt8} {a x n : Nat} (h : Wd.rd 0 0 (l.drop a) = some (x, n)) : Wd.pnum l a = some (Wd.unz x, a + n) := by unfold Wd.pnum; rw [h]
theorem Kp.cellsOf {z : Nat} {w w' : World} (k : Kp z w w') (p : Addr) (hp : p.block < w.heap.size) (hz : p.block ≠ z) : w'.cell? p = w.cell? p := by
  have := k.block p.block hp hz
  simp only [World.cell?, this]
set_option maxRecDepth 100000 in
set_option maxHeartbeats 4000000 in
theorem rnum_any (w0 : World) (z : Nat) (v : Value) (l : List UInt8) (w : World) (a : Nat) (f : Bool) (h : Dr w0 z v l w a f) :
    Calls Tryd.prog 69 #[.pointer (some ⟨z, 0, none⟩)] w (RnSays w0 z v l w a f) := by
  have D : Hid (Dr w0 z v l w a f) := h
  obtain ⟨ad, cap, rfl, hc1, hc2, hc3⟩ := h.by_
  clear hc3
  cases f with
  | true =>
    obtain ⟨c0, c1, c2⟩ := h.cells
    have t2 := h.thaw 2
    clear h
    have FIN : Hid (RnSays w0 z (.slice ad l.length cap) l w a true (.returned (.int .i64 0)) (w.setCell ⟨z, 2, none⟩ (.bool true))) := ⟨0, a, true, rfl, Wd.Rd.bad, D.out.bad true, Kp.set w 2 _⟩
    go_enter Tryd.func69, Tryd.ntmps69
    go_wp2
    refine wp_loop_rounds 1 ?_
    rw [rounds_succ]
    go_wp2
    go_ret
    exact FIN.out
  | false =>
    clear h
    go_enter Tryd.func69, Tryd.ntmps69
    go_wp2
    go_loopw [3, 4, 5] (fun xv bv iv W => ∃ (x k : Nat), xv = .int .u64 (x : Nat) ∧ bv = .int .u64 ((128 ^ k : Nat) : Int) ∧ iv = .int .i64 (k : Nat) ∧ k ≤ 9 ∧ x < 128 ^ k ∧ Dr w0 z (.slice ad l.length cap) l W (a + k) false ∧ Kp z w W ∧ Wd.rd k x (l.drop (a + k)) = Wd.rd 0 0 (l.drop a)) (fun _ _ iv _ => 10 - (intOf iv).toNat)
    case atStart => exact ⟨0, 0, rfl, rfl, rfl, by omega, by decide, D.out, Kp.refl _ _, rfl⟩
    case round =>
      obtain ⟨x, k, rfl, rfl, rfl, hk9, hx, hd, hk, hrd⟩ := hrel
      have D1 : Hid (Dr w0 z (.slice ad l.length cap) l wr (a + k) false) := hd
      have K1 : Hid (Kp z w wr) := hk
      have HR : Hid (Wd.rd k x (l.drop (a + k)) = Wd.rd 0 0 (l.drop a)) := hrd
      have hk10 : (k : Int) < 10 := by omega
      obtain ⟨b, hb⟩ : ∃ b, a + k = b := ⟨_, rfl⟩
      rw [hb] at D1 HR hd
      have HB : Hid (a + k = b) := hb
      obtain ⟨c0, c1, c2⟩ := hd.cells
      have hble : b ≤ l.length := hd.le
      have t1 := hd.thaw 1
      have t2 := hd.thaw 2
      have BY := hd.by_
      clear hd hk hrd hb
      by_cases hend : b = l.length
      · have E : Hid (Wd.rd 0 0 (l.drop a) = none) := by
          unfold Hid
          rw [← HR.out, hend, List.drop_length]
          rfl
        have hge : (l.length : Int) ≤ (b : Int) := by omega
        have FIN : Hid (∀ q, RnSays w0 z (.slice ad l.length cap) l w a false (.returned (.int .i64 0)) ((wr.drewN q).setCell ⟨z, 2, none⟩ (.bool true))) := fun q => ⟨0, b, true, rfl, Wd.Rd.none (pnum_none E.out), (D1.out.drewN q).bad true, (K1.out.drewN q).trans (Kp.set _ 2 _)⟩
        clear hx BY hend
        go_wp2
        go_quiet (fail)
        go_wp2
        go_ret
        exact FIN.out _
      · have hlt : b < l.length := by omega
        have hlti : ¬ (l.length : Int) ≤ (b : Int) := by omega
        have hlt2 : (b : Int) < (l.length : Int) := by omega
        obtain ⟨c, hc⟩ : ∃ c, l[b]? = some c := ⟨_, List.getElem?_eq_getElem hlt⟩
        obtain ⟨ad', cap', e, -, -, hcell⟩ := BY
        injection e with e1 e2 e3
        subst e1 e3
        obtain ⟨y, rfl, hy, hcy⟩ := hcell (by intro e; subst e; simp at hlt)
        have cc : wr.cell? (y.add b) = some (.int .u8 (c.toNat : Int)) := hcy b c hc
        have HS : Hid (Wd.rd 0 0 (l.drop a) = if k = 9 ∧ 1 < c.toNat then none else if 128 ≤ c.toNat then Wd.rd (k + 1) (x + c.toNat % 128 * 128 ^ k) (l.drop (b + 1)) else if c.toNat = 0 ∧ 0 < k then none else some (x + c.toNat * 128 ^ k, k + 1)) := by
          unfold Hid
          rw [← HR.out]
          obtain ⟨hi, e⟩ := List.getElem?_eq_some_iff.1 hc
          rw [List.drop_eq_getElem_cons hi, e]
          rfl
        have hcl : c.toNat < 256 := c.toNat_lt
        generalize c.toNat = n at *
        obtain ⟨b1, hb1⟩ : ∃ b1, b + 1 = b1 := ⟨_, rfl⟩
        have bi : (b : Int) + 1 = (b1 : Nat) := by omega
        have wb : IntKind.i64.wrap ((b1 : Nat) : Int) = (b1 : Nat) := by
          have : l.length ≤ 9223372036854775807 := by unfold maxLen at hc2; omega
          rw [IntKind.wrap_i64]; omega
        have hb1l : b1 ≤ l.length := by omega
        have HB1 : Hid (b + 1 = b1) := hb1
        rw [hb1] at HS
        clear hb1
        have p128 : Hid (x < 128 ^ k) := hx
        obtain ⟨p, hp⟩ : ∃ p, 128 ^ k = p := ⟨_, rfl⟩
        have hpi : (128 : Int) ^ k = (p : Nat) := by rw [← hp]; simp
        obtain ⟨m, hm⟩ : ∃ m, n % 128 = m := ⟨_, rfl⟩
        have hmi : (n : Int) % 128 = m := by omega
        have hm2 : m < 128 := by omega
        clear hcell hcy hy hc hend HR
        go_wp2
        go_quiet (fail)
        have DA : Hid (Dr w0 z (.slice (some y) l.length cap) l (wr.drewN nq) b false ∧ Kp z w (wr.drewN nq) ∧ (wr.drewN nq).cell? (y.add b) = some (.int .u8 (n : Int))) := ⟨D1.out.drewN nq, K1.out.drewN nq, cc⟩
        generalize wr.drewN nq = w2 at *
        clear c0 c1 c2 t1 t2 cc
        obtain ⟨c0, c1, c2⟩ := DA.out.1.cells
        have cc := DA.out.2.2
        go_wp2
        go_quiet (fail)
        have DB : Hid (Dr w0 z (.slice (some y) l.length cap) l (w2.drewN nq) b false ∧ Kp z w (w2.drewN nq)) := ⟨DA.out.1.drewN nq, DA.out.2.1.drewN nq⟩
        generalize w2.drewN nq = w3 at *
        clear c0 c1 c2 cc DA
        obtain ⟨c0, c1, c2⟩ := DB.out.1.cells
        have t1 := DB.out.1.thaw 1
        have D4 : Hid (Dr w0 z (.slice (some y) l.length cap) l (w3.setCell ⟨z, 1, none⟩ (.int .i64 (b1 : Nat))) b1 false) := DB.out.1.at_ hb1l
        have K4 : Hid (Kp z w (w3.setCell ⟨z, 1, none⟩ (.int .i64 (b1 : Nat)))) := DB.out.2.trans (Kp.set _ 1 _)
        go_upto_region 11 with fail
        generalize (w3.setCell ⟨z, 1, none⟩ (.int .i64 (b1 : Nat))) = w4 at *
        clear c0 c1 c2 t1 DB
        obtain ⟨c0, c1, c2⟩ := D4.out.cells
        have t2 := D4.out.thaw 2
        have hab : a + (k + 1) = b1 := by have := HB.out; have := HB1.out; omega
        have HAB : Hid (a + (k + 1) = b1) := hab
        clear hab wb bi
        have BADF : Hid (Wd.rd 0 0 (l.drop a) = none → RnSays w0 z (.slice (some y) l.length cap) l w a false (.returned (.int .i64 0)) (w4.setCell ⟨z, 2, none⟩ (.bool true))) := fun E => ⟨0, b1, true, rfl, Wd.Rd.none (pnum_none E), D4.out.bad true, K4.out.trans (Kp.set _ 2 _)⟩
        by_cases h9 : k = 9 ∧ 1 < n
        · have E : Hid (Wd.rd 0 0 (l.drop a) = none) := by unfold Hid; rw [HS.out, if_pos h9]
          have hkb : (((k : Nat) : Int) == 9) = true := by
            have : ((k : Nat) : Int) = 9 := by omega
            simpa using this
          have hn1 : (1 : Int) < (n : Int) := by omega
          clear HS h9
          go_wp2
          go_ret
          exact BADF.out E.out
        · have E9 : Hid (Wd.rd 0 0 (l.drop a) = if 128 ≤ n then Wd.rd (k + 1) (x + n % 128 * 128 ^ k) (l.drop b1) else if n = 0 ∧ 0 < k then none else some (x + n * 128 ^ k, k + 1)) := by unfold Hid; rw [HS.out, if_neg h9]
          by_cases h0 : n = 0 ∧ 0 < k
          · have E : Hid (Wd.rd 0 0 (l.drop a) = none) := by unfold Hid; rw [E9.out, if_neg (by omega), if_pos h0]
            have KB : ∃ c : Bool, (((k : Nat) : Int) == 9) = c := ⟨_, rfl⟩
            obtain ⟨c, hkb⟩ := KB
            obtain ⟨h0a, h0b⟩ := h0
            subst h0a
            have hk0i : (0 : Int) < (k : Int) := by omega
            clear HS h9 E9
            cases c
            all_goals
              go_wp2
              go_ret
              exact BADF.out E.out
          · obtain ⟨yy, hy⟩ : ∃ yy, m * p = yy := ⟨_, rfl⟩
            obtain ⟨zz, hz⟩ : ∃ zz, x + yy = zz := ⟨_, rfl⟩
            have ey : (m : Int) * (p : Nat) = (yy : Nat) := by rw [← hy]; simp
            have hb2 : yy ≤ 9223372036854775808 ∧ zz < 18446744073709551616 := by
              by_cases hk0 : k = 9
              · have hm1 : m ≤ 1 := by omega
                have h2 : m * p ≤ 1 * p := Nat.mul_le_mul_right _ hm1
                have hp9 : p = 9223372036854775808 := by rw [← hp, hk0]
                rw [hp] at hx
                omega
              · have h8 : 128 ^ k ≤ 128 ^ 8 := Nat.pow_le_pow_right (by decide) (by omega)
                have h82 : (128 : Nat) ^ 8 = 72057594037927936 := by decide
                have : m * p ≤ 127 * p := Nat.mul_le_mul_right _ (by omega)
                rw [hp] at hx h8
                omega
            have wy : IntKind.u64.wrap ((yy : Nat) : Int) = (yy : Nat) := by rw [IntKind.wrap_u64]; omega
            have ez : ((x : Nat) : Int) + (yy : Nat) = (zz : Nat) := by omega
            have wz : IntKind.u64.wrap ((zz : Nat) : Int) = (zz : Nat) := by rw [IntKind.wrap_u64]; omega
            have zb : zz < 18446744073709551616 := hb2.2
            have HZ : Hid (x + m * 128 ^ k = zz) := by unfold Hid; rw [hp, hy]; exact hz
            have HM : Hid (n % 128 = m) := hm
            by_cases hk0 : k = 0
            · have hk0i : ¬ (0 : Int) < (k : Int) := by omega
              have hkb : (((k : Nat) : Int) == 9) = false := by
                have : ¬ ((k : Nat) : Int) = 9 := by omega
                simpa using this
              have k8 : k ≤ 8 := by omega
              clear hk0
              go_upto_region 14 with fail
              rcases Nat.lt_or_ge n 128 with hn | hn
              · obtain ⟨p2, hp2⟩ : ∃ p2, p * 128 = p2 := ⟨_, rfl⟩
                have ep : (p : Int) * 128 = (p2 : Nat) := by omega
                obtain ⟨p3, hp3⟩ : ∃ p3 : Nat, IntKind.u64.wrap ((p2 : Nat) : Int) = (p3 : Nat) := ⟨(IntKind.u64.wrap ((p2 : Nat) : Int)).toNat, by rw [IntKind.wrap_u64]; omega⟩
                clear hp2
                obtain ⟨q, hq⟩ : ∃ q, zz / 2 = q := ⟨_, rfl⟩
                have hqi : (zz : Int) / 2 = q := by omega
                have hqb : (q : Int) < 9223372036854775808 := by omega
                have wq : IntKind.i64.wrap (q : Int) = (q : Int) := by rw [IntKind.wrap_i64]; omega
                have hni : (n : Int) < 128 := by omega
                have E : Hid (Wd.rd 0 0 (l.drop a) = some (zz, k + 1)) := by unfold Hid; rw [E9.out, if_neg (by omega), if_neg h0, ← HZ.out, show m = n from by have := HM.out; omega]
                have FIN : Hid (RnSays w0 z (.slice (some y) l.length cap) l w a false (.returned (.int .i64 (Wd.unz zz))) w4) := ⟨_, b1, false, rfl, Wd.Rd.some (by rw [pnum_some E.out, HAB.out]), D4.out, K4.out⟩
                by_cases h2 : zz % 2 = 1
                · have hr : (zz : Int) % 2 = 1 := by omega
                  have U : Hid (Wd.unz zz = -(q : Int) - 1) := by unfold Hid Wd.unz; rw [if_pos h2, hq]
                  have hmn : m = n := by have := HM.out; omega
                  subst hmn
                  clear HS h9 E9 h0 h2 hq hb2 hz hy hm hp hmi
                  have hmi : (m : Int) % 128 = (m : Int) := by omega
                  go_wp2
                  go_ret
                  have := FIN.out
                  rw [U.out] at this
                  exact this
                · have hr : (zz : Int) % 2 = 0 := by omega
                  have U : Hid (Wd.unz zz = (q : Int)) := by unfold Hid Wd.unz; rw [if_neg h2, hq]
                  have hmn : m = n := by have := HM.out; omega
                  subst hmn
                  clear HS h9 E9 h0 h2 hq hb2 hz hy hm hp hmi
                  have hmi : (m : Int) % 128 = (m : Int) := by omega
                  go_wp2
                  go_ret
                  have := FIN.out
                  rw [U.out] at this
                  exact this
              · have hni : ¬ (n : Int) < 128 := by omega
                obtain ⟨p2, hp2⟩ : ∃ p2, p * 128 = p2 := ⟨_, rfl⟩
                have hps : 128 ^ (k + 1) = p2 := by rw [Nat.pow_succ, hp, hp2]
                have h8 : p ≤ 72057594037927936 := by
                  rw [← hp]
                  exact Nat.le_trans (Nat.pow_le_pow_right (by decide) k8) (by decide)
                have ep : (p : Int) * 128 = (p2 : Nat) := by omega
                have wp2 : IntKind.u64.wrap ((p2 : Nat) : Int) = (p2 : Nat) := by rw [IntKind.wrap_u64]; omega
                have E : Hid (Wd.rd (k + 1) zz (l.drop b1) = Wd.rd 0 0 (l.drop a)) := by unfold Hid; rw [E9.out, if_pos hn, HM.out, HZ.out]
                have ZL : Hid (zz < 128 ^ (k + 1)) := by
                  unfold Hid
                  have : m * p ≤ 127 * p := Nat.mul_le_mul_right _ (by omega)
                  have h3 := p128.out
                  rw [hp] at h3
                  rw [hps, ← hp2]
                  omega
                have HPS : Hid (((128 ^ (k + 1) : Nat) : Int) = (p2 : Nat)) := by unfold Hid; rw [hps]
                clear HS h9 E9 h0 hb2 hz hy hm hp hps hp2
                go_wp2
                go_roundw
                case rel => exact ⟨zz, k + 1, rfl, by rw [HPS.out], rfl, by omega, ZL.out, by rw [HAB.out]; exact D4.out, K4.out, by rw [HAB.out]; exact E.out⟩
                case measure => simp [intOf]; omega
            · have hk0i : (0 : Int) < (k : Int) := by omega
              have hn0 : (((n : Nat) : Int) == 0) = false := by
                have : ¬ ((n : Nat) : Int) = 0 := by omega
                simpa using this
              by_cases hk9' : k = 9
              · have hkb : (((k : Nat) : Int) == 9) = true := by
                  have : ((k : Nat) : Int) = 9 := by omega
                  simpa using this
                have hcx : ¬ (1 : Int) < (n : Int) := by omega
                have hn : n < 128 := by omega
                clear hk9' hk0
                go_upto_region 14 with fail
                obtain ⟨p2, hp2⟩ : ∃ p2, p * 128 = p2 := ⟨_, rfl⟩
                have ep : (p : Int) * 128 = (p2 : Nat) := by omega
                obtain ⟨p3, hp3⟩ : ∃ p3 : Nat, IntKind.u64.wrap ((p2 : Nat) : Int) = (p3 : Nat) := ⟨(IntKind.u64.wrap ((p2 : Nat) : Int)).toNat, by rw [IntKind.wrap_u64]; omega⟩
                clear hp2
                obtain ⟨q, hq⟩ : ∃ q, zz / 2 = q := ⟨_, rfl⟩
                have hqi : (zz : Int) / 2 = q := by omega
                have hqb : (q : Int) < 9223372036854775808 := by omega
                have wq : IntKind.i64.wrap (q : Int) = (q : Int) := by rw [IntKind.wrap_i64]; omega
                have hni : (n : Int) < 128 := by omega
                have E : Hid (Wd.rd 0 0 (l.drop a) = some (zz, k + 1)) := by unfold Hid; rw [E9.out, if_neg (by omega), if_neg h0, ← HZ.out, show m = n from by have := HM.out; omega]
                have FIN : Hid (RnSays w0 z (.slice (some y) l.length cap) l w a false (.returned (.int .i64 (Wd.unz zz))) w4) := ⟨_, b1, false, rfl, Wd.Rd.some (by rw [pnum_some E.out, HAB.out]), D4.out, K4.out⟩
                by_cases h2 : zz % 2 = 1
                · have hr : (zz : Int) % 2 = 1 := by omega
                  have U : Hid (Wd.unz zz = -(q : Int) - 1) := by unfold Hid Wd.unz; rw [if_pos h2, hq]
                  have hmn : m = n := by have := HM.out; omega
                  subst hmn
                  clear HS h9 E9 h0 h2 hq hb2 hz hy hm hp hmi
                  have hmi : (m : Int) % 128 = (m : Int) := by omega
                  go_wp2
                  go_ret
                  have := FIN.out
                  rw [U.out] at this
                  exact this
                · have hr : (zz : Int) % 2 = 0 := by omega
                  have U : Hid (Wd.unz zz = (q : Int)) := by unfold Hid Wd.unz; rw [if_neg h2, hq]
                  have hmn : m = n := by have := HM.out; omega
                  subst hmn
                  clear HS h9 E9 h0 h2 hq hb2 hz hy hm hp hmi
                  have hmi : (m : Int) % 128 = (m : Int) := by omega
                  go_wp2
                  go_ret
                  have := FIN.out
                  rw [U.out] at this
                  exact this
              · have hkb : (((k : Nat) : Int) == 9) = false := by
                  have : ¬ ((k : Nat) : Int) = 9 := by omega
                  simpa using this
                have k8 : k ≤ 8 := by omega
                clear hk9' hk0
                go_upto_region 14 with fail
                rcases Nat.lt_or_ge n 128 with hn | hn
                · obtain ⟨p2, hp2⟩ : ∃ p2, p * 128 = p2 := ⟨_, rfl⟩
                  have ep : (p : Int) * 128 = (p2 : Nat) := by omega
                  obtain ⟨p3, hp3⟩ : ∃ p3 : Nat, IntKind.u64.wrap ((p2 : Nat) : Int) = (p3 : Nat) := ⟨(IntKind.u64.wrap ((p2 : Nat) : Int)).toNat, by rw [IntKind.wrap_u64]; omega⟩
                  clear hp2
                  obtain ⟨q, hq⟩ : ∃ q, zz / 2 = q := ⟨_, rfl⟩
                  have hqi : (zz : Int) / 2 = q := by omega
                  have hqb : (q : Int) < 9223372036854775808 := by omega
                  have wq : IntKind.i64.wrap (q : Int) = (q : Int) := by rw [IntKind.wrap_i64]; omega
                  have hni : (n : Int) < 128 := by omega
                  have E : Hid (Wd.rd 0 0 (l.drop a) = some (zz, k + 1)) := by unfold Hid; rw [E9.out, if_neg (by omega), if_neg h0, ← HZ.out, show m = n from by have := HM.out; omega]
                  have FIN : Hid (RnSays w0 z (.slice (some y) l.length cap) l w a false (.returned (.int .i64 (Wd.unz zz))) w4) := ⟨_, b1, false, rfl, Wd.Rd.some (by rw [pnum_some E.out, HAB.out]), D4.out, K4.out⟩
                  by_cases h2 : zz % 2 = 1
                  · have hr : (zz : Int) % 2 = 1 := by omega
                    have U : Hid (Wd.unz zz = -(q : Int) - 1) := by unfold Hid Wd.unz; rw [if_pos h2, hq]
                    have hmn : m = n := by have := HM.out; omega
                    subst hmn
                    clear HS h9 E9 h0 h2 hq hb2 hz hy hm hp hmi
                    have hmi : (m : Int) % 128 = (m : Int) := by omega
                    go_wp2
                    go_ret
                    have := FIN.out
                    rw [U.out] at this
                    exact this
                  · have hr : (zz : Int) % 2 = 0 := by omega
                    have U : Hid (Wd.unz zz = (q : Int)) := by unfold Hid Wd.unz; rw [if_neg h2, hq]
                    have hmn : m = n := by have := HM.out; omega
                    subst hmn
                    clear HS h9 E9 h0 h2 hq hb2 hz hy hm hp hmi
                    have hmi : (m : Int) % 128 = (m : Int) := by omega
                    go_wp2
                    go_ret
                    have := FIN.out
                    rw [U.out] at this
                    exact this
                · have hni : ¬ (n : Int) < 128 := by omega
                  obtain ⟨p2, hp2⟩ : ∃ p2, p * 128 = p2 := ⟨_, rfl⟩
                  have hps : 128 ^ (k + 1) = p2 := by rw [Nat.pow_succ, hp, hp2]
                  have h8 : p ≤ 72057594037927936 := by
                    rw [← hp]
                    exact Nat.le_trans (Nat.pow_le_pow_right (by decide) k8) (by decide)
                  have ep : (p : Int) * 128 = (p2 : Nat) := by omega
                  have wp2 : IntKind.u64.wrap ((p2 : Nat) : Int) = (p2 : Nat) := by rw [IntKind.wrap_u64]; omega
                  have E : Hid (Wd.rd (k + 1) zz (l.drop b1) = Wd.rd 0 0 (l.drop a)) := by unfold Hid; rw [E9.out, if_pos hn, HM.out, HZ.out]
                  have ZL : Hid (zz < 128 ^ (k + 1)) := by
                    unfold Hid
                    have : m * p ≤ 127 * p := Nat.mul_le_mul_right _ (by omega)
                    have h3 := p128.out
                    rw [hp] at h3
                    rw [hps, ← hp2]
                    omega
                  have HPS : Hid (((128 ^ (k + 1) : Nat) : Int) = (p2 : Nat)) := by unfold Hid; rw [hps]
                  clear HS h9 E9 h0 hb2 hz hy hm hp hps hp2
                  go_wp2
                  go_roundw
                  case rel => exact ⟨zz, k + 1, rfl, by rw [HPS.out], rfl, by omega, ZL.out, by rw [HAB.out]; exact D4.out, K4.out, by rw [HAB.out]; exact E.out⟩
                  case measure => simp [intOf]; omega
end Go.Proofs.YtefepjiajgoomaaDoor
