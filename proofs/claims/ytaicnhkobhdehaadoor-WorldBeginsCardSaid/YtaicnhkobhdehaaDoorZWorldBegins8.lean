/- What marchsame.Field answers of two fields that are the same. · What marchsame.World answers of two worlds that are the same. · How great what came in is; a byte. · What a walk is told of worlds and bytes that came in. · What a walk is told of kinds that came in. · What a walk is told of a field that came in. · WorldBegins: the walk, up to the fourth cut. · WorldBegins: the walk, a part. · WorldBegins: the walk, a part. -/
import Derived.Test.YtaicnhkobhdehaaDoorZWorldBegins2
import Derived.Test.YtaicnhkobhdehaaDoorZWorldBegins7
import Derived.Test.YtaicnhkobhdehaaDoorZWorldBegins1
import Derived.Deep.SlicePairs
import Derived.ChangeArms
import Derived.ProofKit
import Derived.OpenShut
import Derived.Lib.SmallJoins
import Derived.Test.YtaicnhkobhdehaaDoorZWorldBegins4
import Derived.Test.YtaicnhkobhdehaaDoorZWorldBegins6
namespace Go.Proofs.YtaicnhkobhdehaaDoor
open Go.RowKit
set_option linter.unusedVariables false

set_option maxHeartbeats 1000000 in
theorem same_field (u v : Value) (W H : Int) (gs os : List Int) (w : World) (hu : Fl w u W H gs os) (hv : Fl w v W H gs os) :
    Calls Tryd.prog 20 #[u, v] w fun e w' => e = .returned (.bool true) ∧ Below w.heap.size w w' := by
  obtain ⟨a1, a2, rfl, ha1, ha2⟩ := hu
  obtain ⟨b1, b2, rfl, hb1, hb2⟩ := hv
  have A1 : Hid (Ro w a1 gs) := ha1
  have A2 : Hid (Ro w a2 os) := ha2
  have B1 : Hid (Ro w b1 gs) := hb1
  have B2 : Hid (Ro w b2 os) := hb2
  clear ha1 ha2 hb1 hb2
  go_enter Tryd.func20, Tryd.ntmps20
  go_wp2_with fail
  have K0 : Below w.heap.size w ((w.alloc (Obj.cells #[.int .i64 W, .int .i64 H, a1, a2] 25)).alloc (Obj.cells #[.int .i64 W, .int .i64 H, b1, b2] 25)) := ((Below.refl _ _).alloc (Nat.le_refl _) _).alloc (by simp) _
  have X0 := (Bf.mk' (w := w) W H a1 a2 rfl).below ((Below.refl _ _).alloc (Nat.le_refl _) (Obj.cells #[.int .i64 W, .int .i64 H, b1, b2] 25)) (by simp)
  have Y0 := Bf.mk' (w := w.alloc (Obj.cells #[.int .i64 W, .int .i64 H, a1, a2] 25)) (z := w.heap.size + 1) W H b1 b2 (by simp)
  generalize (w.alloc (Obj.cells #[.int .i64 W, .int .i64 H, a1, a2] 25)).alloc (Obj.cells #[.int .i64 W, .int .i64 H, b1, b2] 25) = w0 at *
  refine (ints_any _ _ gs gs _ (A1.out.below K0) (B1.out.below K0)).mono ?_
  rintro e w1 ⟨rfl, q1, hq1⟩
  rw [decide_eq_true rfl]
  have k1 : Below w0.heap.size w0 w1 := by rw [hq1]; exact _root_.Go.below_drewN (Below.refl _ _) _
  have K1 : Below w.heap.size w w1 := K0.trans (k1.mono K0.size)
  have X1 : Hid (Bf w1 w.heap.size W H a1 a2) := X0.below k1 X0.lt
  have Y1 : Hid (Bf w1 (w.heap.size + 1) W H b1 b2) := Y0.below k1 Y0.lt
  clear hq1 k1 X0 Y0 K0
  obtain ⟨x0, x1, x2, x3⟩ := X1.out
  obtain ⟨y0, y1, y2, y3⟩ := Y1.out
  have K1' : Hid (Below w.heap.size w w1) := K1
  clear K1
  go_wp2_with fail
  refine (ints_any _ _ os os _ (A2.out.below K1'.out) (B2.out.below K1'.out)).mono ?_
  rintro e w2 ⟨rfl, q2, hq2⟩
  rw [decide_eq_true rfl]
  have k2 : Below w1.heap.size w1 w2 := by rw [hq2]; exact _root_.Go.below_drewN (Below.refl _ _) _
  have K2 : Hid (Below w.heap.size w w2) := K1'.out.trans (k2.mono K1'.out.size)
  have X2 : Hid (Bf w2 w.heap.size W H a1 a2) := X1.out.below k2 X1.out.lt
  have Y2 : Hid (Bf w2 (w.heap.size + 1) W H b1 b2) := Y1.out.below k2 Y1.out.lt
  clear hq2 k2 x0 x1 x2 x3 y0 y1 y2 y3 X1 Y1 K1'
  obtain ⟨x0, x1, x2, x3⟩ := X2.out
  obtain ⟨y0, y1, y2, y3⟩ := Y2.out
  go_wp2
  go_ret
  exact ⟨rfl, K2⟩
end Go.Proofs.YtaicnhkobhdehaaDoor

namespace Go.Proofs.YtaicnhkobhdehaaDoor
open Go.RowKit
set_option linter.unusedVariables false

theorem ints_like (u v : Value) (xs : List Int) (w : World) (hu : Ro w u xs) (hv : Ro w v xs) :
    Calls Tryd.prog 21 #[u, v] w fun e w' => e = .returned (.bool true) ∧ Below w.heap.size w w' :=
  (ints_any u v xs xs w hu hv).mono fun e w' ⟨h1, q, h2⟩ => ⟨by rw [h1, decide_eq_true rfl], by rw [h2]; exact _root_.Go.below_drewN (Below.refl _ _) _⟩
set_option maxRecDepth 100000 in
set_option maxHeartbeats 4000000 in
theorem worlds_like (u v : Value) (W : WV) (w : World) (hu : Wl w u W) (hv : Wl w v W) :
    Calls Tryd.prog 8 #[u, v] w fun e w' => e = .returned (.bool true) ∧ Below w.heap.size w w' := by
  obtain ⟨u1, u2, u3, u4, u5, rfl, g1, g2, g3, g4, g5⟩ := hu
  obtain ⟨v1, v2, v3, v4, v5, rfl, k1, k2, k3, k4, k5⟩ := hv
  obtain ⟨a4, c4, rfl, gl4, gc4, ga4⟩ := g4
  obtain ⟨b4, d4, rfl, kl4, kc4, ka4⟩ := k4
  obtain ⟨a5, c5, rfl, gl5, gc5, ga5⟩ := g5
  obtain ⟨b5, d5, rfl, kl5, kc5, ka5⟩ := k5
  have R : Hid (Ro w u1 W.gs ∧ Ro w u2 W.os ∧ Ro w u3 W.gold ∧ Ro w v1 W.gs ∧ Ro w v2 W.os ∧ Ro w v3 W.gold) := ⟨g1, g2, g3, k1, k2, k3⟩
  have GU : Hid (W.us ≠ [] → ∃ x, a4 = some x ∧ x.block < w.heap.size ∧ ∀ (i : Nat) k, W.us[i]? = some k → Unc w (x.add (i * 8)) k) := ga4
  have KU : Hid (W.us ≠ [] → ∃ x, b4 = some x ∧ x.block < w.heap.size ∧ ∀ (i : Nat) k, W.us[i]? = some k → Unc w (x.add (i * 8)) k) := ka4
  have GJ : Hid (W.qs ≠ [] → ∃ x, a5 = some x ∧ x.block < w.heap.size ∧ ∀ (i : Nat) k, W.qs[i]? = some k → Jbc w (x.add (i * 4)) k) := ga5
  have KJ : Hid (W.qs ≠ [] → ∃ x, b5 = some x ∧ x.block < w.heap.size ∧ ∀ (i : Nat) k, W.qs[i]? = some k → Jbc w (x.add (i * 4)) k) := ka5
  have hul : W.us.length ≤ 9223372036854775807 := by omega
  have hql : W.qs.length ≤ 9223372036854775807 := by omega
  clear g1 g2 g3 k1 k2 k3 ga4 ka4 ga5 ka5 gl4 gc4 kl4 kc4 gl5 gc5 kl5 kc5
  go_enter Tryd.func8, Tryd.ntmps8
  go_wp2_with fail
  have K0 : Below w.heap.size w ((w.alloc (Obj.cells #[.int .i64 W.turn, .int .i64 W.next, .int .i64 W.wide, .int .i64 W.high, u1, u2, u3, .slice a4 W.us.length c4, .slice a5 W.qs.length c5] 29)).alloc (Obj.cells #[.int .i64 W.turn, .int .i64 W.next, .int .i64 W.wide, .int .i64 W.high, v1, v2, v3, .slice b4 W.us.length d4, .slice b5 W.qs.length d5] 29)) := ((Below.refl _ _).alloc (Nat.le_refl _) _).alloc (by simp) _
  have X0 := (Bw.mk' (w := w) W u1 u2 u3 (.slice a4 W.us.length c4) (.slice a5 W.qs.length c5) rfl).below ((Below.refl _ _).alloc (Nat.le_refl _) (Obj.cells #[.int .i64 W.turn, .int .i64 W.next, .int .i64 W.wide, .int .i64 W.high, v1, v2, v3, .slice b4 W.us.length d4, .slice b5 W.qs.length d5] 29)) (by simp)
  have Y0 := Bw.mk' (w := w.alloc (Obj.cells #[.int .i64 W.turn, .int .i64 W.next, .int .i64 W.wide, .int .i64 W.high, u1, u2, u3, .slice a4 W.us.length c4, .slice a5 W.qs.length c5] 29)) (z := w.heap.size + 1) W v1 v2 v3 (.slice b4 W.us.length d4) (.slice b5 W.qs.length d5) (by simp)
  generalize ((w.alloc (Obj.cells #[.int .i64 W.turn, .int .i64 W.next, .int .i64 W.wide, .int .i64 W.high, u1, u2, u3, .slice a4 W.us.length c4, .slice a5 W.qs.length c5] 29)).alloc (Obj.cells #[.int .i64 W.turn, .int .i64 W.next, .int .i64 W.wide, .int .i64 W.high, v1, v2, v3, .slice b4 W.us.length d4, .slice b5 W.qs.length d5] 29)) = w0 at *
  refine (same_field _ _ W.wide W.high W.gs W.os w0 ⟨_, _, rfl, R.out.1.below K0, R.out.2.1.below K0⟩ ⟨_, _, rfl, R.out.2.2.2.1.below K0, R.out.2.2.2.2.1.below K0⟩).mono ?_
  rintro e w1 ⟨rfl, hb1⟩
  have K1 : Hid (Below w.heap.size w w1) := K0.trans (hb1.mono K0.size)
  have X1 : Hid (Bw w1 w.heap.size W u1 u2 u3 (.slice a4 W.us.length c4) (.slice a5 W.qs.length c5)) := X0.below hb1 X0.lt
  have Y1 : Hid (Bw w1 (w.heap.size + 1) W v1 v2 v3 (.slice b4 W.us.length d4) (.slice b5 W.qs.length d5)) := Y0.below hb1 Y0.lt
  clear K0 X0 Y0 hb1
  obtain ⟨x0, x1, x2, x3, x4, x5, x6, x7, x8⟩ := X1.out
  obtain ⟨y0, y1, y2, y3, y4, y5, y6, y7, y8⟩ := Y1.out
  go_wp2_with fail
  refine (ints_like _ _ W.gold w1 (R.out.2.2.1.below K1.out) (R.out.2.2.2.2.2.below K1.out)).mono ?_
  rintro e w2 ⟨rfl, hb2⟩
  have K2' : Hid (Below w.heap.size w w2) := K1.out.trans (hb2.mono K1.out.size)
  have X2 : Hid (Bw w2 w.heap.size W u1 u2 u3 (.slice a4 W.us.length c4) (.slice a5 W.qs.length c5)) := X1.out.below hb2 X1.out.lt
  have Y2 : Hid (Bw w2 (w.heap.size + 1) W v1 v2 v3 (.slice b4 W.us.length d4) (.slice b5 W.qs.length d5)) := Y1.out.below hb2 Y1.out.lt
  clear hb2 x0 x1 x2 x3 x4 x5 x6 x7 x8 y0 y1 y2 y3 y4 y5 y6 y7 y8 X1 Y1 K1
  obtain ⟨x0, x1, x2, x3, x4, x5, x6, x7, x8⟩ := X2.out
  obtain ⟨y0, y1, y2, y3, y4, y5, y6, y7, y8⟩ := Y2.out
  go_wp2
  clear x0 x1 x2 x3 x4 x5 x6 x7 x8 y0 y1 y2 y3 y4 y5 y6 y7 y8
  go_loopw [7] (fun i W' => ∃ k : Nat, k ≤ W.us.length ∧ i = .int .i64 (k : Nat) ∧ Bw W' w.heap.size W u1 u2 u3 (.slice a4 W.us.length c4) (.slice a5 W.qs.length c5) ∧ Bw W' (w.heap.size + 1) W v1 v2 v3 (.slice b4 W.us.length d4) (.slice b5 W.qs.length d5) ∧ Below w.heap.size w W') (fun i _ => W.us.length - (intOf i).toNat)
  case atStart => exact ⟨0, Nat.zero_le _, rfl, X2.out, Y2.out, K2'.out⟩
  case round =>
    obtain ⟨k, hk, rfl, hX, hY, hB⟩ := hrel
    have XB : Hid (Bw wr w.heap.size W u1 u2 u3 (.slice a4 W.us.length c4) (.slice a5 W.qs.length c5)) := hX
    have YB : Hid (Bw wr (w.heap.size + 1) W v1 v2 v3 (.slice b4 W.us.length d4) (.slice b5 W.qs.length d5)) := hY
    have B : Hid (Below w.heap.size w wr) := hB
    clear hX hY hB X2 Y2 K2'
    by_cases h0 : k = W.us.length
    · subst h0
      have x7 := XB.out.c7
      clear hk
      go_wp2
      clear x7
      go_loopw [8] (fun i W' => ∃ k : Nat, k ≤ W.qs.length ∧ i = .int .i64 (k : Nat) ∧ Bw W' w.heap.size W u1 u2 u3 (.slice a4 W.us.length c4) (.slice a5 W.qs.length c5) ∧ Bw W' (w.heap.size + 1) W v1 v2 v3 (.slice b4 W.us.length d4) (.slice b5 W.qs.length d5) ∧ Below w.heap.size w W') (fun i _ => W.qs.length - (intOf i).toNat)
      case atStart => exact ⟨0, Nat.zero_le _, rfl, XB.out, YB.out, B.out⟩
      case round =>
        obtain ⟨k, hk, rfl, hX, hY, hB⟩ := hrel
        have XB : Hid (Bw wr w.heap.size W u1 u2 u3 (.slice a4 W.us.length c4) (.slice a5 W.qs.length c5)) := hX
        have YB : Hid (Bw wr (w.heap.size + 1) W v1 v2 v3 (.slice b4 W.us.length d4) (.slice b5 W.qs.length d5)) := hY
        have B : Hid (Below w.heap.size w wr) := hB
        clear hX hY hB
        by_cases h0 : k = W.qs.length
        · subst h0
          have x8 := XB.out.c8
          clear hk
          go_wp2
          go_ret
          exact ⟨rfl, B.out⟩
        · have hlt : k < W.qs.length := by omega
          have hlti : ((k : Nat) : Int) < (W.qs.length : Nat) := by omega
          obtain ⟨o, ho⟩ : ∃ o, W.qs[k]? = some o := ⟨_, List.getElem?_eq_getElem hlt⟩
          have hne : W.qs ≠ [] := by intro e; rw [e] at hlt; simp at hlt
          obtain ⟨x, rfl, hx, hxc⟩ := GJ.out hne
          obtain ⟨y, rfl, hy, hyc⟩ := KJ.out hne
          obtain ⟨q0, q1, q2, q3⟩ := (hxc k o ho).below B.out (by rw [add_block]; exact hx)
          obtain ⟨r0, r1, r2, r3⟩ := (hyc k o ho).below B.out (by rw [add_block]; exact hy)
          have x8 := XB.out.c8
          have y8 := YB.out.c8
          clear hxc hyc hne ho hx hy
          go_wp2
          go_quiet (fail)
          go_wp2
          go_round
          case rel => exact ⟨k + 1, by omega, by go_num, XB.out.below (_root_.Go.below_drewN (Below.refl _ _) _) XB.out.lt, YB.out.below (_root_.Go.below_drewN (Below.refl _ _) _) YB.out.lt, _root_.Go.below_drewN B.out _⟩
          case measure => simp [intOf]; omega
    · have hlt : k < W.us.length := by omega
      have hlti : ((k : Nat) : Int) < (W.us.length : Nat) := by omega
      obtain ⟨o, ho⟩ : ∃ o, W.us[k]? = some o := ⟨_, List.getElem?_eq_getElem hlt⟩
      have hne : W.us ≠ [] := by intro e; rw [e] at hlt; simp at hlt
      obtain ⟨x, rfl, hx, hxc⟩ := GU.out hne
      obtain ⟨y, rfl, hy, hyc⟩ := KU.out hne
      obtain ⟨q0, q1, q2, q3, q4, q5, q6, q7⟩ := (hxc k o ho).below B.out (by rw [add_block]; exact hx)
      obtain ⟨r0, r1, r2, r3, r4, r5, r6, r7⟩ := (hyc k o ho).below B.out (by rw [add_block]; exact hy)
      have x7 := XB.out.c7
      have y7 := YB.out.c7
      clear hxc hyc hne ho hx hy
      go_wp2
      go_quiet (fail)
      go_wp2
      go_round
      case rel => exact ⟨k + 1, by omega, by go_num, XB.out.below (_root_.Go.below_drewN (Below.refl _ _) _) XB.out.lt, YB.out.below (_root_.Go.below_drewN (Below.refl _ _) _) YB.out.lt, _root_.Go.below_drewN B.out _⟩
      case measure => simp [intOf]; omega
end Go.Proofs.YtaicnhkobhdehaaDoor

namespace Go.Proofs.YtaicnhkobhdehaaDoor
open Go.ChangeShapes Go.WideShapes Go.ChangeAt Go.RowKit
set_option linter.unusedVariables false

theorem byte_of_wf {n : Int} (h : (Lit.int .u8 n).wf = true) : 0 ≤ n ∧ n < 256 := by
  simp only [Lit.wf, Bool.and_eq_true, decide_eq_true_eq] at h
  have h1 : IntKind.u8.min = 0 := by decide
  have h2 : IntKind.u8.max = 255 := by decide
  omega
theorem bulk_pos {H : Type} : ∀ d : DataW H, 1 ≤ Rows.uptoBulk d
  | .lit (.string bytes) => by simp [Rows.uptoBulk]
  | .lit (.int _ _) => by simp [Rows.uptoBulk]
  | .lit (.bool _) => by simp [Rows.uptoBulk]
  | .lit (.float .f32 _) => by simp [Rows.uptoBulk]
  | .lit (.float .f64 _) => by simp [Rows.uptoBulk]
  | .lit .nil => by simp [Rows.uptoBulk]
  | .nil => by simp [Rows.uptoBulk]
  | .ptr d => by simp [Rows.uptoBulk]
  | .slice _ _ => by simp [Rows.uptoBulk]
  | .agg _ => by simp [Rows.uptoBulk]
  | .iface _ _ => by simp [Rows.uptoBulk]
  | .map _ => by simp [Rows.uptoBulk]
  | .held _ => by simp [Rows.uptoBulk]
theorem bulk_len {H : Type} : ∀ ds : List (DataW H), ds.length ≤ Rows.uptoBulkAll ds
  | [] => by simp
  | d :: ds => by
    have h1 := bulk_pos d
    have h2 := bulk_len ds
    simp only [Rows.uptoBulkAll, List.length_cons]
    omega
theorem bulk_slice {H : Type} (es sp : List (DataW H)) : es.length ≤ Rows.uptoBulk (.slice es sp) := by
  have := bulk_len es
  simp only [Rows.uptoBulk]
  omega
end Go.Proofs.YtaicnhkobhdehaaDoor

namespace Go.Proofs.YtaicnhkobhdehaaDoor
open Go.ChangeShapes Go.WideShapes Go.ChangeAt Go.RowKit
set_option linter.unusedVariables false

theorem in64_of_wf {n : Int} (h : (Lit.int .i64 n).wf = true) : Wd.In64 n := by
  unfold Wd.In64
  simp only [Lit.wf, Bool.and_eq_true, decide_eq_true_eq] at h
  have h1 : IntKind.i64.min = -9223372036854775808 := by decide
  have h2 : IntKind.i64.max = 9223372036854775807 := by decide
  omega
set_option maxRecDepth 100000 in
theorem open_row64 {H : Type} {enc : TypeId × Value → H} {W : World} {base : Nat} {held : Bool} {fuel : Nat} {v : Value} {y : DataW H × List MemPlace} (h : DataW.trod enc Tryd.prog W base (fun _ => true) held fuel 23 [v] = some y) :
    ∃ zs, Ro W v zs ∧ (∀ n ∈ zs, Wd.In64 n) ∧ zs.length ≤ Rows.uptoBulk y.1 := by
  rcases open_ints Tryd.underlying23 Tryd.underlying3 (by kernel_rfl) h with ⟨hcs, rfl⟩ | ⟨x, l, c, zs, hcs, _, hl, hm, hz, rfl, hcell, hwz⟩
  · simp at hcs
    subst hcs
    exact ⟨_, IsRow.ro (.inl ⟨rfl, rfl, rfl, rfl⟩), by simp, by simp⟩
  · simp at hcs
    subst hcs
    refine ⟨_, IsRow.ro (zs := zs) (.inr ⟨_, rfl, hl, hm, by simpa using hz, hcell, hwz⟩), fun n hn => in64_of_wf (hwz n (List.mem_of_mem_take hn)), ?_⟩
    have := bulk_slice (H := H) (lits .i64 (zs.take l)) (lits .i64 (zs.drop l))
    simpa [lits] using this
theorem un_flds : ∃ f0 f1 f2 f3 f4 f5 f6 f7 : Field, Tryd.prog.underlying 45 = some (.struct #[f0, f1, f2, f3, f4, f5, f6, f7]) ∧ f0.offset = 0 ∧ f0.type = 3 ∧ f1.offset = 1 ∧ f1.type = 3 ∧ f2.offset = 2 ∧ f2.type = 3 ∧ f3.offset = 3 ∧ f3.type = 3 ∧ f4.offset = 4 ∧ f4.type = 3 ∧ f5.offset = 5 ∧ f5.type = 3 ∧ f6.offset = 6 ∧ f6.type = 3 ∧ f7.offset = 7 ∧ f7.type = 3 := ⟨_, _, _, _, _, _, _, _, Tryd.underlying45, rfl, rfl, rfl, rfl, rfl, rfl, rfl, rfl, rfl, rfl, rfl, rfl, rfl, rfl, rfl, rfl⟩
set_option maxRecDepth 100000 in
theorem open_un64 {H : Type} {enc : TypeId × Value → H} {W : World} {base : Nat} {held : Bool} {fuel : Nat} {cs : List Value} {y : DataW H × List MemPlace} (h : DataW.trod enc Tryd.prog W base (fun _ => true) held fuel 45 cs = some y) :
    ∃ k : UnV, cs = [.int .i64 k.id, .int .i64 k.player, .int .i64 k.kind, .int .i64 k.at_, .int .i64 k.life, .int .i64 k.load, .int .i64 k.task, .int .i64 k.goal] ∧ ∀ n ∈ Wd.unums k, Wd.In64 n := by
  obtain ⟨f0, f1, f2, f3, f4, f5, f6, f7, he, o0, t0, o1, t1, o2, t2, o3, t3, o4, t4, o5, t5, o6, t6, o7, t7⟩ := un_flds
  obtain ⟨xs, m, -, -, hlen, hxl, hf⟩ := DataW.trod_struct he h
  have csi : Tryd.prog.cellsOf 3 = 1 := by kernel_rfl
  have csk : Tryd.prog.cellsOf 45 = 8 := by kernel_rfl
  rw [csk] at hlen
  match cs, hlen with
  | [v0, v1, v2, v3, v4, v5, v6, v7], _ =>
    have hx : xs.length = 8 := hxl
    match xs, hx with
    | [x0, x1, x2, x3, x4, x5, x6, x7], _ =>
      have g0 := hf 0 f0 rfl
      rw [o0, t0, csi] at g0
      have g1 := hf 1 f1 rfl
      rw [o1, t1, csi] at g1
      have g2 := hf 2 f2 rfl
      rw [o2, t2, csi] at g2
      have g3 := hf 3 f3 rfl
      rw [o3, t3, csi] at g3
      have g4 := hf 4 f4 rfl
      rw [o4, t4, csi] at g4
      have g5 := hf 5 f5 rfl
      rw [o5, t5, csi] at g5
      have g6 := hf 6 f6 rfl
      rw [o6, t6, csi] at g6
      have g7 := hf 7 f7 rfl
      rw [o7, t7, csi] at g7
      obtain ⟨m0, e0, -, w0⟩ := DataW.trod_int Tryd.underlying3 g0
      obtain ⟨m1, e1, -, w1⟩ := DataW.trod_int Tryd.underlying3 g1
      obtain ⟨m2, e2, -, w2⟩ := DataW.trod_int Tryd.underlying3 g2
      obtain ⟨m3, e3, -, w3⟩ := DataW.trod_int Tryd.underlying3 g3
      obtain ⟨m4, e4, -, w4⟩ := DataW.trod_int Tryd.underlying3 g4
      obtain ⟨m5, e5, -, w5⟩ := DataW.trod_int Tryd.underlying3 g5
      obtain ⟨m6, e6, -, w6⟩ := DataW.trod_int Tryd.underlying3 g6
      obtain ⟨m7, e7, -, w7⟩ := DataW.trod_int Tryd.underlying3 g7
      simp at e0 e1 e2 e3 e4 e5 e6 e7
      subst e0 e1 e2 e3 e4 e5 e6 e7
      refine ⟨⟨m0, m1, m2, m3, m4, m5, m6, m7⟩, rfl, ?_⟩
      intro n hn
      simp only [Wd.unums, List.mem_cons, List.not_mem_nil, or_false] at hn
      rcases hn with rfl | rfl | rfl | rfl | rfl | rfl | rfl | rfl
      · exact in64_of_wf w0
      · exact in64_of_wf w1
      · exact in64_of_wf w2
      · exact in64_of_wf w3
      · exact in64_of_wf w4
      · exact in64_of_wf w5
      · exact in64_of_wf w6
      · exact in64_of_wf w7
theorem open_uns64 {H : Type} {enc : TypeId × Value → H} {W : World} {base : Nat} {held : Bool} {fuel : Nat} {v : Value} {y : DataW H × List MemPlace} (h : DataW.trod enc Tryd.prog W base (fun _ => true) held fuel 26 [v] = some y) :
    ∃ ks : List UnV, Unl W v ks ∧ (∀ k ∈ ks, ∀ n ∈ Wd.unums k, Wd.In64 n) ∧ ks.length ≤ Rows.uptoBulk y.1 := by
  have csk : Tryd.prog.cellsOf 45 = 8 := by kernel_rfl
  rcases Go.Deep.open_slice Tryd.underlying26 h with ⟨hcs, -⟩ | ⟨a, len, cap, m, q, D, Pl, hcs, hb, hl, hm, hmm, rfl, hx⟩
  · simp at hcs
    subst hcs
    exact ⟨[], ⟨none, 0, rfl, Nat.le_refl _, by omega, fun h => absurd rfl h⟩, by simp, by simp⟩
  · simp at hcs
    subst hcs
    have hlm : len ≤ m := by rw [hmm]; simp; exact hl
    have each : ∀ i, i < len → ∃ k : UnV, Unc W (a.add (i * 8)) k ∧ (∀ n ∈ Wd.unums k, Wd.In64 n) := by
      intro i hi
      obtain ⟨cs', h1, h2⟩ := hx i (by omega)
      obtain ⟨k, rfl, hk⟩ := open_un64 h2
      rw [csk] at h1
      obtain ⟨-, -, hcell⟩ := World.cells?_some h1
      refine ⟨k, ?_, hk⟩
      generalize a.add (i * 8) = y at *
      exact ⟨hcell 0 (by decide), hcell 1 (by decide), hcell 2 (by decide), hcell 3 (by decide), hcell 4 (by decide), hcell 5 (by decide), hcell 6 (by decide), hcell 7 (by decide)⟩
    have inh : Inhabited UnV := ⟨⟨0, 0, 0, 0, 0, 0, 0, 0⟩⟩
    obtain ⟨q, hq⟩ := Go.Deep.choose_lt each
    refine ⟨(List.range len).map q, ⟨some a, cap, by simp, by simpa using hl, by unfold maxLen at hm; omega, fun hn => ⟨a, rfl, ?_, fun i k hk => ?_⟩⟩, ?_, ?_⟩
    · have h0 : 0 < len := by
        rcases Nat.eq_zero_or_pos len with h | h
        · subst h; simp at hn
        · exact h
      have := (hq 0 h0).1.lt
      rwa [add_block] at this
    · have hi : i < len := by
        have := (List.getElem?_eq_some_iff.1 hk).1
        simpa using this
      rw [List.getElem?_map, List.getElem?_range hi] at hk
      injection hk with hk
      subst hk
      exact (hq i hi).1
    · intro k hk
      obtain ⟨i, hi, rfl⟩ := List.mem_map.1 hk
      exact (hq i (List.mem_range.1 hi)).2
    · have := bulk_slice ((List.range len).map D) ((List.range (m - len)).map fun j => D (len + j))
      simpa using this
theorem jb_flds : ∃ f0 f1 f2 f3 : Field, Tryd.prog.underlying 57 = some (.struct #[f0, f1, f2, f3]) ∧ f0.offset = 0 ∧ f0.type = 3 ∧ f1.offset = 1 ∧ f1.type = 3 ∧ f2.offset = 2 ∧ f2.type = 3 ∧ f3.offset = 3 ∧ f3.type = 3 := ⟨_, _, _, _, Tryd.underlying57, rfl, rfl, rfl, rfl, rfl, rfl, rfl, rfl⟩
set_option maxRecDepth 100000 in
theorem open_jb64 {H : Type} {enc : TypeId × Value → H} {W : World} {base : Nat} {held : Bool} {fuel : Nat} {cs : List Value} {y : DataW H × List MemPlace} (h : DataW.trod enc Tryd.prog W base (fun _ => true) held fuel 57 cs = some y) :
    ∃ k : JbV, cs = [.int .i64 k.player, .int .i64 k.unit, .int .i64 k.kind, .int .i64 k.left] ∧ ∀ n ∈ Wd.jnums k, Wd.In64 n := by
  obtain ⟨f0, f1, f2, f3, he, o0, t0, o1, t1, o2, t2, o3, t3⟩ := jb_flds
  obtain ⟨xs, m, -, -, hlen, hxl, hf⟩ := DataW.trod_struct he h
  have csi : Tryd.prog.cellsOf 3 = 1 := by kernel_rfl
  have csk : Tryd.prog.cellsOf 57 = 4 := by kernel_rfl
  rw [csk] at hlen
  match cs, hlen with
  | [v0, v1, v2, v3], _ =>
    have hx : xs.length = 4 := hxl
    match xs, hx with
    | [x0, x1, x2, x3], _ =>
      have g0 := hf 0 f0 rfl
      rw [o0, t0, csi] at g0
      have g1 := hf 1 f1 rfl
      rw [o1, t1, csi] at g1
      have g2 := hf 2 f2 rfl
      rw [o2, t2, csi] at g2
      have g3 := hf 3 f3 rfl
      rw [o3, t3, csi] at g3
      obtain ⟨m0, e0, -, w0⟩ := DataW.trod_int Tryd.underlying3 g0
      obtain ⟨m1, e1, -, w1⟩ := DataW.trod_int Tryd.underlying3 g1
      obtain ⟨m2, e2, -, w2⟩ := DataW.trod_int Tryd.underlying3 g2
      obtain ⟨m3, e3, -, w3⟩ := DataW.trod_int Tryd.underlying3 g3
      simp at e0 e1 e2 e3
      subst e0 e1 e2 e3
      refine ⟨⟨m0, m1, m2, m3⟩, rfl, ?_⟩
      intro n hn
      simp only [Wd.jnums, List.mem_cons, List.not_mem_nil, or_false] at hn
      rcases hn with rfl | rfl | rfl | rfl
      · exact in64_of_wf w0
      · exact in64_of_wf w1
      · exact in64_of_wf w2
      · exact in64_of_wf w3
theorem open_jbs64 {H : Type} {enc : TypeId × Value → H} {W : World} {base : Nat} {held : Bool} {fuel : Nat} {v : Value} {y : DataW H × List MemPlace} (h : DataW.trod enc Tryd.prog W base (fun _ => true) held fuel 27 [v] = some y) :
    ∃ ks : List JbV, Jbl W v ks ∧ (∀ k ∈ ks, ∀ n ∈ Wd.jnums k, Wd.In64 n) ∧ ks.length ≤ Rows.uptoBulk y.1 := by
  have csk : Tryd.prog.cellsOf 57 = 4 := by kernel_rfl
  rcases Go.Deep.open_slice Tryd.underlying27 h with ⟨hcs, -⟩ | ⟨a, len, cap, m, q, D, Pl, hcs, hb, hl, hm, hmm, rfl, hx⟩
  · simp at hcs
    subst hcs
    exact ⟨[], ⟨none, 0, rfl, Nat.le_refl _, by omega, fun h => absurd rfl h⟩, by simp, by simp⟩
  · simp at hcs
    subst hcs
    have hlm : len ≤ m := by rw [hmm]; simp; exact hl
    have each : ∀ i, i < len → ∃ k : JbV, Jbc W (a.add (i * 4)) k ∧ (∀ n ∈ Wd.jnums k, Wd.In64 n) := by
      intro i hi
      obtain ⟨cs', h1, h2⟩ := hx i (by omega)
      obtain ⟨k, rfl, hk⟩ := open_jb64 h2
      rw [csk] at h1
      obtain ⟨-, -, hcell⟩ := World.cells?_some h1
      refine ⟨k, ?_, hk⟩
      generalize a.add (i * 4) = y at *
      exact ⟨hcell 0 (by decide), hcell 1 (by decide), hcell 2 (by decide), hcell 3 (by decide)⟩
    have inh : Inhabited JbV := ⟨⟨0, 0, 0, 0⟩⟩
    obtain ⟨q, hq⟩ := Go.Deep.choose_lt each
    refine ⟨(List.range len).map q, ⟨some a, cap, by simp, by simpa using hl, by unfold maxLen at hm; omega, fun hn => ⟨a, rfl, ?_, fun i k hk => ?_⟩⟩, ?_, ?_⟩
    · have h0 : 0 < len := by
        rcases Nat.eq_zero_or_pos len with h | h
        · subst h; simp at hn
        · exact h
      have := (hq 0 h0).1.lt
      rwa [add_block] at this
    · have hi : i < len := by
        have := (List.getElem?_eq_some_iff.1 hk).1
        simpa using this
      rw [List.getElem?_map, List.getElem?_range hi] at hk
      injection hk with hk
      subst hk
      exact (hq i hi).1
    · intro k hk
      obtain ⟨i, hi, rfl⟩ := List.mem_map.1 hk
      exact (hq i (List.mem_range.1 hi)).2
    · have := bulk_slice ((List.range len).map D) ((List.range (m - len)).map fun j => D (len + j))
      simpa using this
theorem world_flds : ∃ f0 f1 f2 f3 f4 f5 : Field, Tryd.prog.underlying 29 = some (.struct #[f0, f1, f2, f3, f4, f5]) ∧ f0.offset = 0 ∧ f0.type = 3 ∧ f1.offset = 1 ∧ f1.type = 3 ∧ f2.offset = 2 ∧ f2.type = 25 ∧ f3.offset = 6 ∧ f3.type = 23 ∧ f4.offset = 7 ∧ f4.type = 26 ∧ f5.offset = 8 ∧ f5.type = 27 := ⟨_, _, _, _, _, _, Tryd.underlying29, rfl, rfl, rfl, rfl, rfl, rfl, rfl, rfl, rfl, rfl, rfl, rfl⟩
theorem field_flds : ∃ f0 f1 f2 f3 : Field, Tryd.prog.underlying 25 = some (.struct #[f0, f1, f2, f3]) ∧ f0.offset = 0 ∧ f0.type = 3 ∧ f1.offset = 1 ∧ f1.type = 3 ∧ f2.offset = 2 ∧ f2.type = 23 ∧ f3.offset = 3 ∧ f3.type = 23 := ⟨_, _, _, _, Tryd.underlying25, rfl, rfl, rfl, rfl, rfl, rfl, rfl, rfl⟩
theorem ro_len {w : World} {v : Value} {xs : List Int} (h : Ro w v xs) : Wd.In64 (xs.length : Int) := by
  obtain ⟨a, c, -, h1, h2, -⟩ := h
  unfold Wd.In64; omega
set_option maxRecDepth 100000 in
theorem open_world64 {H : Type} {enc : TypeId × Value → H} {W : World} {base : Nat} {held : Bool} {fuel : Nat} {cs : List Value} {y : DataW H × List MemPlace} (h : DataW.trod enc Tryd.prog W base (fun _ => true) held fuel 29 cs = some y) :
    ∃ X : WV, Wl W (.agg cs.toArray) X ∧ (∀ n ∈ Wd.nums X, Wd.In64 n) ∧ (Rows.uptoBulk y.1 ≤ 1048576 → WSmall X) := by
  obtain ⟨f0, f1, f2, f3, f4, f5, he, o0, t0, o1, t1, o2, t2, o3, t3, o4, t4, o5, t5⟩ := world_flds
  obtain ⟨xs, m, -, rfl, hlen, hxl, hf⟩ := DataW.trod_struct he h
  have csi : Tryd.prog.cellsOf 3 = 1 := by kernel_rfl
  have csf : Tryd.prog.cellsOf 25 = 4 := by kernel_rfl
  have csl : Tryd.prog.cellsOf 23 = 1 := by kernel_rfl
  have csu : Tryd.prog.cellsOf 26 = 1 := by kernel_rfl
  have csj : Tryd.prog.cellsOf 27 = 1 := by kernel_rfl
  have csk : Tryd.prog.cellsOf 29 = 9 := by kernel_rfl
  rw [csk] at hlen
  match cs, hlen with
  | [v0, v1, v2, v3, v4, v5, v6, v7, v8], _ =>
    have hx : xs.length = 6 := hxl
    match xs, hx with
    | [x0, x1, x2, x3, x4, x5], _ =>
      have g0 := hf 0 f0 rfl
      rw [o0, t0, csi] at g0
      have g1 := hf 1 f1 rfl
      rw [o1, t1, csi] at g1
      have g2 := hf 2 f2 rfl
      rw [o2, t2, csf] at g2
      have g3 := hf 3 f3 rfl
      rw [o3, t3, csl] at g3
      have g4 := hf 4 f4 rfl
      rw [o4, t4, csu] at g4
      have g5 := hf 5 f5 rfl
      rw [o5, t5, csj] at g5
      obtain ⟨m0, e0, -, w0⟩ := DataW.trod_int Tryd.underlying3 g0
      obtain ⟨m1, e1, -, w1⟩ := DataW.trod_int Tryd.underlying3 g1
      obtain ⟨r0, r1, r2, r3, he', p0, s0, p1, s1, p2, s2, p3, s3⟩ := field_flds
      obtain ⟨ys, m', -, rfl, hlen', hyl, hg⟩ := DataW.trod_struct he' g2
      have hy : ys.length = 4 := hyl
      match ys, hy with
      | [y0, y1, y2, y3], _ =>
        have k0 := hg 0 r0 rfl
        rw [p0, s0, csi] at k0
        have k1 := hg 1 r1 rfl
        rw [p1, s1, csi] at k1
        have k2 := hg 2 r2 rfl
        rw [p2, s2, csl] at k2
        have k3 := hg 3 r3 rfl
        rw [p3, s3, csl] at k3
        obtain ⟨m2, e2, -, w2⟩ := DataW.trod_int Tryd.underlying3 k0
        obtain ⟨m3, e3, -, w3⟩ := DataW.trod_int Tryd.underlying3 k1
        simp at e0 e1 e2 e3
        subst e0 e1 e2 e3
        obtain ⟨gs, hgs, igs, bgs⟩ := open_row64 k2
        obtain ⟨os, hos, ios, bos⟩ := open_row64 k3
        obtain ⟨gold, hgold, igold, bgold⟩ := open_row64 g3
        obtain ⟨us, hus, ius, bus⟩ := open_uns64 g4
        obtain ⟨qs, hqs, iqs, bqs⟩ := open_jbs64 g5
        have lu : Wd.In64 (us.length : Int) := by
          obtain ⟨a, c, -, h1, h2, -⟩ := hus
          unfold Wd.In64; omega
        have lq : Wd.In64 (qs.length : Int) := by
          obtain ⟨a, c, -, h1, h2, -⟩ := hqs
          unfold Wd.In64; omega
        refine ⟨⟨m0, m1, m2, m3, gs, os, gold, us, qs⟩, ⟨_, _, _, _, _, rfl, hgs, hos, hgold, hus, hqs⟩, ?_, ?_⟩
        · intro n hn
          simp only [Wd.nums, List.mem_append, List.mem_cons, List.not_mem_nil, or_false, List.mem_flatMap] at hn
          rcases hn with (((((rfl | rfl | rfl | rfl) | (rfl | hn)) | (rfl | hn)) | (rfl | hn)) | (rfl | ⟨u, hu, hn⟩)) | (rfl | ⟨u, hu, hn⟩)
          · exact in64_of_wf w0
          · exact in64_of_wf w1
          · exact in64_of_wf w2
          · exact in64_of_wf w3
          · exact ro_len hgs
          · exact igs _ hn
          · exact ro_len hos
          · exact ios _ hn
          · exact ro_len hgold
          · exact igold _ hn
          · exact lu
          · exact ius u hu n hn
          · exact lq
          · exact iqs u hu n hn
        · intro hb
          simp only [Rows.uptoBulk, Rows.uptoBulkAll, List.map_cons, List.map_nil] at hb
          exact ⟨by simp only; omega, by simp only; omega, by simp only; omega, by simp only; omega, by simp only; omega⟩
set_option maxRecDepth 100000 in
theorem world_in {H : Type} {enc : TypeId × Value → H} {W : World} {base b0 : Nat} {held : Bool} {v : Value} {d : DataW H} {p : List MemPlace} (hv : Value.okWide Tryd.prog W .any b0 29 v) (h : DataW.Trod enc Tryd.prog W base (fun _ => true) held 29 v d p) :
    ∃ X : WV, Wl W v X ∧ (∀ n ∈ Wd.nums X, Wd.In64 n) ∧ (Rows.uptoBulk d ≤ 1048576 → WSmall X) := by
  obtain ⟨cs, rfl, hsz⟩ := okWide_struct Tryd.underlying29 hv
  obtain ⟨fuel, hf⟩ := h
  have := open_world64 hf
  simpa [Value.cells] using this
end Go.Proofs.YtaicnhkobhdehaaDoor

namespace Go.Proofs.YtaicnhkobhdehaaDoor
open Go.ChangeShapes Go.WideShapes Go.ChangeAt Go.RowKit
set_option linter.unusedVariables false

theorem kind_fields : ∃ f0 f1 f2 f3 f4 f5 f6 f7 f8 f9 f10 : Field, Tryd.prog.underlying 41 = some (.struct #[f0, f1, f2, f3, f4, f5, f6, f7, f8, f9, f10]) ∧
    f0.offset = 0 ∧ f0.type = 9 ∧ f1.offset = 1 ∧ f1.type = 3 ∧ f2.offset = 2 ∧ f2.type = 3 ∧ f3.offset = 3 ∧ f3.type = 3 ∧ f4.offset = 4 ∧ f4.type = 3 ∧ f5.offset = 5 ∧ f5.type = 3 ∧ f6.offset = 6 ∧ f6.type = 3 ∧ f7.offset = 7 ∧ f7.type = 3 ∧ f8.offset = 8 ∧ f8.type = 3 ∧ f9.offset = 9 ∧ f9.type = 4 ∧ f10.offset = 10 ∧ f10.type = 4 := ⟨_, _, _, _, _, _, _, _, _, _, _, Tryd.underlying41, rfl, rfl, rfl, rfl, rfl, rfl, rfl, rfl, rfl, rfl, rfl, rfl, rfl, rfl, rfl, rfl, rfl, rfl, rfl, rfl, rfl, rfl⟩


set_option maxRecDepth 100000 in
theorem open_kind {H : Type} {enc : TypeId × Value → H} {W : World} {base : Nat} {held : Bool} {fuel : Nat} {cs : List Value} {y : DataW H × List MemPlace} (h : DataW.trod enc Tryd.prog W base (fun _ => true) held fuel 41 cs = some y) :
    ∃ k : KV, cs = [.string k.b, .int .i64 k.n0, .int .i64 k.n1, .int .i64 k.n2, .int .i64 k.n3, .int .i64 k.n4, .int .i64 k.n5, .int .i64 k.n6, .int .i64 k.n7, .bool k.f, .bool k.t] ∧ k.b.size ≤ maxLen := by
  obtain ⟨f0, f1, f2, f3, f4, f5, f6, f7, f8, f9, f10, he, o0, t0, o1, t1, o2, t2, o3, t3, o4, t4, o5, t5, o6, t6, o7, t7, o8, t8, o9, t9, o10, t10⟩ := kind_fields
  obtain ⟨xs, n, -, -, hlen, hxl, hf⟩ := DataW.trod_struct he h
  have cs9 : Tryd.prog.cellsOf 9 = 1 := by kernel_rfl
  have cs3 : Tryd.prog.cellsOf 3 = 1 := by kernel_rfl
  have cs4 : Tryd.prog.cellsOf 4 = 1 := by kernel_rfl
  have csk : Tryd.prog.cellsOf 41 = 11 := by kernel_rfl
  rw [csk] at hlen
  match cs, hlen with
  | [v0, v1, v2, v3, v4, v5, v6, v7, v8, v9, v10], _ =>
    have hx11 : xs.length = 11 := hxl
    match xs, hx11 with
    | [x0, x1, x2, x3, x4, x5, x6, x7, x8, x9, x10], _ =>
      have g0 := hf 0 f0 rfl
      rw [o0, t0, cs9] at g0
      have g1 := hf 1 f1 rfl
      rw [o1, t1, cs3] at g1
      have g2 := hf 2 f2 rfl
      rw [o2, t2, cs3] at g2
      have g3 := hf 3 f3 rfl
      rw [o3, t3, cs3] at g3
      have g4 := hf 4 f4 rfl
      rw [o4, t4, cs3] at g4
      have g5 := hf 5 f5 rfl
      rw [o5, t5, cs3] at g5
      have g6 := hf 6 f6 rfl
      rw [o6, t6, cs3] at g6
      have g7 := hf 7 f7 rfl
      rw [o7, t7, cs3] at g7
      have g8 := hf 8 f8 rfl
      rw [o8, t8, cs3] at g8
      have g9 := hf 9 f9 rfl
      rw [o9, t9, cs4] at g9
      have g10 := hf 10 f10 rfl
      rw [o10, t10, cs4] at g10
      obtain ⟨b, e0, -, hb⟩ := DataW.trod_string Tryd.underlying9 g0
      obtain ⟨m1, e1, -, -⟩ := DataW.trod_int Tryd.underlying3 g1
      obtain ⟨m2, e2, -, -⟩ := DataW.trod_int Tryd.underlying3 g2
      obtain ⟨m3, e3, -, -⟩ := DataW.trod_int Tryd.underlying3 g3
      obtain ⟨m4, e4, -, -⟩ := DataW.trod_int Tryd.underlying3 g4
      obtain ⟨m5, e5, -, -⟩ := DataW.trod_int Tryd.underlying3 g5
      obtain ⟨m6, e6, -, -⟩ := DataW.trod_int Tryd.underlying3 g6
      obtain ⟨m7, e7, -, -⟩ := DataW.trod_int Tryd.underlying3 g7
      obtain ⟨m8, e8, -, -⟩ := DataW.trod_int Tryd.underlying3 g8
      obtain ⟨bf, e9, -⟩ := DataW.trod_bool Tryd.underlying4 g9
      obtain ⟨bt, e10, -⟩ := DataW.trod_bool Tryd.underlying4 g10
      simp at e0 e1 e2 e3 e4 e5 e6 e7 e8 e9 e10
      subst e0 e1 e2 e3 e4 e5 e6 e7 e8 e9 e10
      exact ⟨⟨b, m1, m2, m3, m4, m5, m6, m7, m8, bf, bt⟩, rfl, hb⟩

/-- kinds that came in. -/
theorem open_kinds {H : Type} {enc : TypeId × Value → H} {W : World} {base : Nat} {held : Bool} {fuel : Nat} {v : Value} {y : DataW H × List MemPlace} (h : DataW.trod enc Tryd.prog W base (fun _ => true) held fuel 22 [v] = some y) :
    ∃ ks : List KV, Kl W v ks ∧ ∀ k ∈ ks, k.b.size ≤ maxLen := by
  have csk : Tryd.prog.cellsOf 41 = 11 := by kernel_rfl
  rcases Go.Deep.open_slice Tryd.underlying22 h with ⟨hcs, -⟩ | ⟨a, len, cap, m, n, D, Pl, hcs, hb, hl, hm, hmm, -, hx⟩
  · simp at hcs
    subst hcs
    exact ⟨[], ⟨none, 0, rfl, Nat.le_refl _, by omega, fun h => absurd rfl h⟩, by simp⟩
  · simp at hcs
    subst hcs
    have hlm : len ≤ m := by rw [hmm]; simp; exact hl
    have each : ∀ i, i < len → ∃ k : KV, Kc W (a.add (i * 11)) k ∧ k.b.size ≤ maxLen := by
      intro i hi
      obtain ⟨cs', h1, h2⟩ := hx i (by omega)
      obtain ⟨k, rfl, hk⟩ := open_kind h2
      rw [csk] at h1
      obtain ⟨-, -, hcell⟩ := World.cells?_some h1
      refine ⟨k, ?_, hk⟩
      generalize a.add (i * 11) = y at *
      exact ⟨hcell 0 (by decide), hcell 1 (by decide), hcell 2 (by decide), hcell 3 (by decide), hcell 4 (by decide), hcell 5 (by decide), hcell 6 (by decide), hcell 7 (by decide), hcell 8 (by decide), hcell 9 (by decide), hcell 10 (by decide)⟩
    have inh : Inhabited KV := ⟨⟨ByteArray.empty, 0, 0, 0, 0, 0, 0, 0, 0, false, false⟩⟩
    obtain ⟨q, hq⟩ := Go.Deep.choose_lt each
    refine ⟨(List.range len).map q, ⟨some a, cap, by simp, by simpa using hl, by unfold maxLen at hm; omega, fun hn => ⟨a, rfl, ?_, fun i k hk => ?_⟩⟩, ?_⟩
    · have h0 : 0 < len := by
        rcases Nat.eq_zero_or_pos len with h | h
        · subst h; simp at hn
        · exact h
      have := (hq 0 h0).1.lt
      rwa [add_block] at this
    · have hi : i < len := by
        have := (List.getElem?_eq_some_iff.1 hk).1
        simpa using this
      rw [List.getElem?_map, List.getElem?_range hi] at hk
      injection hk with hk
      subst hk
      exact (hq i hi).1
    · intro k hk
      obtain ⟨i, hi, rfl⟩ := List.mem_map.1 hk
      exact (hq i (List.mem_range.1 hi)).2
set_option maxRecDepth 100000 in
theorem kinds_in {H : Type} {enc : TypeId × Value → H} {W : World} {base b0 : Nat} {held : Bool} {v : Value} {d : DataW H} {p : List MemPlace} (hv : Value.okWide Tryd.prog W .any b0 22 v) (h : DataW.Trod enc Tryd.prog W base (fun _ => true) held 22 v d p) :
    ∃ ks : List KV, Kl W v ks ∧ ∀ k ∈ ks, k.b.size ≤ maxLen := by
  obtain ⟨a, len, cap, rfl⟩ := okWide_slice Tryd.underlying22 hv
  obtain ⟨fuel, hf⟩ := h
  exact open_kinds hf
end Go.Proofs.YtaicnhkobhdehaaDoor

namespace Go.Proofs.YtaicnhkobhdehaaDoor
open Go.ChangeShapes Go.WideShapes Go.ChangeAt Go.RowKit
set_option linter.unusedVariables false

set_option maxRecDepth 100000 in
theorem open_row {H : Type} {enc : TypeId × Value → H} {W : World} {base : Nat} {held : Bool} {fuel : Nat} {v : Value} {y : DataW H × List MemPlace} (h : DataW.trod enc Tryd.prog W base (fun _ => true) held fuel 23 [v] = some y) : ∃ zs, Ro W v zs := by
  rcases open_ints Tryd.underlying23 Tryd.underlying3 (by kernel_rfl) h with ⟨hcs, _⟩ | ⟨x, l, c, zs, hcs, _, hl, hm, hz, _, hcell, hwz⟩
  · simp at hcs
    subst hcs
    exact ⟨_, IsRow.ro (.inl ⟨rfl, rfl, rfl, rfl⟩)⟩
  · simp at hcs
    subst hcs
    exact ⟨_, IsRow.ro (zs := zs) (.inr ⟨_, rfl, hl, hm, by simpa using hz, hcell, hwz⟩)⟩

set_option maxRecDepth 100000 in
theorem open_field {H : Type} {enc : TypeId × Value → H} {W : World} {base b0 : Nat} {held : Bool} {v : Value} {d : DataW H} {p : List MemPlace} (hv : Value.okWide Tryd.prog W .any b0 25 v) (h : DataW.Trod enc Tryd.prog W base (fun _ => true) held 25 v d p) :
    ∃ (Wd Hh : Int) (gs os : List Int), Fl W v Wd Hh gs os := by
  obtain ⟨v0, v1, v2, v3, y0, y1, y2, y3, n, rfl, -, -, t0, t1, t2, t3⟩ := Go.Joins.open_agg4 Tryd.underlying25 (by kernel_rfl) (by kernel_rfl) hv h
  obtain ⟨a, e0, -, -⟩ := DataW.trod_int Tryd.underlying3 t0
  obtain ⟨b, e1, -, -⟩ := DataW.trod_int Tryd.underlying3 t1
  obtain ⟨gs, hg⟩ := open_row t2
  obtain ⟨os, ho⟩ := open_row t3
  simp at e0 e1
  subst e0
  subst e1
  exact ⟨a, b, gs, os, _, _, rfl, hg, ho⟩
end Go.Proofs.YtaicnhkobhdehaaDoor

namespace Go.Proofs.YtaicnhkobhdehaaDoor.worldBegins
open Go.RowKit
set_option linter.unusedVariables false

/-- what came in, in its boxes. -/
structure Wb (w V : World) (wd hg : Int) (v1 v2 : Value) (X : WV) (u1 u2 u3 u4 u5 : Value) : Prop where
  b : Below w.heap.size w V
  f : Bx V w.heap.size wd hg v1 v2
  x : Bw V (w.heap.size + 1) X u1 u2 u3 u4 u5
theorem Wb.below {w V V' : World} {wd hg : Int} {v1 v2 : Value} {X : WV} {u1 u2 u3 u4 u5 : Value} (h : Wb w V wd hg v1 v2 X u1 u2 u3 u4 u5) (hb : Below V.heap.size V V') : Wb w V' wd hg v1 v2 X u1 u2 u3 u4 u5 :=
  ⟨h.b.trans (hb.mono h.b.size), h.f.below hb h.f.lt, h.x.below hb h.x.lt⟩
theorem Wb.low {w V V' : World} {wd hg : Int} {v1 v2 : Value} {X : WV} {u1 u2 u3 u4 u5 : Value} {n : Nat} (h : Wb w V wd hg v1 v2 X u1 u2 u3 u4 u5) (hb : Below n V V') (hn : w.heap.size + 2 ≤ n) : Wb w V' wd hg v1 v2 X u1 u2 u3 u4 u5 :=
  ⟨h.b.trans (hb.mono (by omega)), h.f.below hb (by omega), h.x.below hb (by omega)⟩
theorem Wb.kp {w V V' : World} {wd hg : Int} {v1 v2 : Value} {X : WV} {u1 u2 u3 u4 u5 : Value} {z : Nat} (h : Wb w V wd hg v1 v2 X u1 u2 u3 u4 u5) (k : Kp z V V') (hz : w.heap.size + 2 ≤ z) : Wb w V' wd hg v1 v2 X u1 u2 u3 u4 u5 := by
  have h1 := h.x.lt
  exact h.low (n := w.heap.size + 2) (k.below (Below.refl _ _) (by omega) hz) (Nat.le_refl _)
theorem Wb.sz {w V : World} {wd hg : Int} {v1 v2 : Value} {X : WV} {u1 u2 u3 u4 u5 : Value} (h : Wb w V wd hg v1 v2 X u1 u2 u3 u4 u5) : w.heap.size + 2 ≤ V.heap.size := h.x.lt
/-- a world that is wanted, in a block of its own. -/
def Wy (V : World) (z : Nat) (Y : WV) : Prop := ∃ u1 u2 u3 u4 u5, Wx V z (.int .i64 Y.turn) (.int .i64 Y.next) (.int .i64 Y.wide) (.int .i64 Y.high) u1 u2 u3 u4 u5 ∧ Wl V (.agg #[.int .i64 Y.turn, .int .i64 Y.next, .int .i64 Y.wide, .int .i64 Y.high, u1, u2, u3, u4, u5]) Y
theorem Wy.below {V V' : World} {z : Nat} {Y : WV} (h : Wy V z Y) (hb : Below V.heap.size V V') : Wy V' z Y := by
  obtain ⟨u1, u2, u3, u4, u5, h1, h2⟩ := h
  exact ⟨u1, u2, u3, u4, u5, h1.below hb h1.lt, h2.below hb⟩
theorem ground_eq (ks : List KV) (wd hg : Int) (gs os : List Int) : Wd.ground ks (Wd.bare wd hg gs os) = if Kd.kindsFault (ks.map KV.k) = 0 then Fd.fault wd hg gs os else Kd.kindsFault (ks.map KV.k) := rfl
theorem wl_shape {w : World} {v : Value} {X : WV} (h : Wl w v X) : ∃ p1 q1 p2 q2 p3 q3 p4 q4 p5 q5, v = .agg #[.int .i64 X.turn, .int .i64 X.next, .int .i64 X.wide, .int .i64 X.high, .slice p1 X.gs.length q1, .slice p2 X.os.length q2, .slice p3 X.gold.length q3, .slice p4 X.us.length q4, .slice p5 X.qs.length q5] := by
  obtain ⟨u1, u2, u3, u4, u5, rfl, ⟨p1, q1, rfl, -⟩, ⟨p2, q2, rfl, -⟩, ⟨p3, q3, rfl, -⟩, ⟨p4, q4, rfl, -⟩, ⟨p5, q5, rfl, -⟩⟩ := h
  exact ⟨_, _, _, _, _, _, _, _, _, _, rfl⟩
theorem fl_ro {V : World} {wd hg : Int} {gs os : List Int} {u1 u2 : Value} (h : Fl V (.agg #[.int .i64 wd, .int .i64 hg, u1, u2]) wd hg gs os) : Ro V u1 gs ∧ Ro V u2 os := by
  obtain ⟨v1, v2, he, h1, h2⟩ := h
  injection he with he
  simp only [Array.mk.injEq, List.cons.injEq, and_true, true_and] at he
  obtain ⟨rfl, rfl⟩ := he
  exact ⟨h1, h2⟩
/-- how far the gold is. -/
def Gl (w : World) (wd hg gold : Int) (v1 v2 : Value) (X : WV) (u1 u2 u3 u4 u5 : Value) (z n : Nat) (iv : Value) (V : World) : Prop := ∃ (k : Nat) (gv : Value), k ≤ n ∧ iv = .int .i64 (k : Nat) ∧ Wb w V wd hg v1 v2 X u1 u2 u3 u4 u5 ∧ z + 1 ≤ V.heap.size ∧ Wx V z (.int .i64 0) (.int .i64 1) (.int .i64 wd) (.int .i64 hg) v1 v2 gv (.slice none 0 0) (.slice none 0 0) ∧ Ow V (z + 1) gv (List.replicate k gold)
theorem ground_at {ks : List KV} {X : WV} (h : WRight ks X) {an : Nat} {g : Int} (hg : X.gs[an]? = some g) : 0 ≤ g ∧ g ≤ 3 ∧ X.gs.length ≤ 144 := by
  obtain ⟨Wn, Hn, -, -, G⟩ := h.good
  have q1 := G.pos
  have q2 := G.gl
  have hl : an < X.os.length := by have := (List.getElem?_eq_some_iff.1 hg).1; have := G.ol; omega
  have q3 := G.cell an g _ hg (List.getElem?_eq_getElem hl)
  exact ⟨q3.1, q3.2.1, by omega⟩
theorem put_zero {ks : List KV} {X : WV} {pl kd at_ : Int} (h : Wd.putFault ks X pl kd at_ = 0) : WRight ks X ∧ Wd.placeFault ks X pl kd at_ = 0 := by
  unfold Wd.putFault at h
  split at h
  · rename_i h0; exact ⟨wright_of h0, h⟩
  · rename_i h0; exact absurd h h0
theorem next_pos {ks : List KV} {X : WV} (h : WRight ks X) : 1 ≤ X.next := by
  have := (nums_ok h.nums).1
  unfold Wd.off at this
  simp at this
  omega
theorem on_any {us : List UnV} {a r : Int} (h : FstU (fun u => u.at_ == a) us r) : us.any (fun u => u.at_ == a) = decide (0 ≤ r) := by
  rcases h with ⟨rfl, h1⟩ | ⟨k, x, rfl, h1, h2, -⟩
  · rw [h1]; rfl
  · rw [decide_eq_true (p := (0 : Int) ≤ (k : Nat)) (by omega)]
    exact List.any_eq_true.2 ⟨x, List.mem_of_getElem? h1, h2⟩
theorem faults {ks : List KV} {X : WV} {pl kd at_ fw fp e3 e4 e5 : Int} {b1 b2 b3 : Bool} (FW : Wd.wfault ks X = fw) (FP : Wd.putFault ks X pl kd at_ = fp) (D1 : decide (fw = 0 ∧ (40 ≤ (X.us.length : Int) ∨ 1000000 ≤ X.next)) = b1) (E3 : (if b1 = true then 4 else fw) = e3)
    (D2 : decide (e3 = 0 ∧ (¬ (0 ≤ pl ∧ pl < (X.gold.length : Int)) ∨ ¬ (0 ≤ kd ∧ kd < (ks.length : Int)))) = b2) (E4 : (if b2 = true then 1 else e3) = e4) (D3 : decide (e4 = 0 ∧ ¬ (0 ≤ at_ ∧ at_ < (X.gs.length : Int))) = b3) (E5 : (if b3 = true then 6 else e4) = e5) :
    (e5 = 0 → Wd.wfault ks X = 0 ∧ ∃ (kn an : Nat) (k : KV), kd = kn ∧ at_ = an ∧ kn < ks.length ∧ ks[kn]? = some k ∧ an < X.gs.length ∧ fp = if Wd.open_ X.gs X.us (an : Nat) k.f = false then 7 else 0) ∧ (e5 ≠ 0 → fp = e5) := by
  unfold Wd.putFault at FP
  by_cases h0 : fw = 0
  · rw [FW, if_pos h0] at FP
    by_cases h1 : 40 ≤ (X.us.length : Int) ∨ 1000000 ≤ X.next
    · rw [decide_eq_true (p := fw = 0 ∧ (40 ≤ (X.us.length : Int) ∨ 1000000 ≤ X.next)) ⟨h0, h1⟩] at D1
      subst D1
      rw [if_pos rfl] at E3
      subst E3
      rw [decide_eq_false (fun h => by omega)] at D2
      subst D2
      rw [if_neg (by simp)] at E4
      subst E4
      rw [decide_eq_false (fun h => by omega)] at D3
      subst D3
      rw [if_neg (by simp)] at E5
      subst E5
      rw [Wd.pf4 h1] at FP
      exact ⟨fun h => by omega, fun _ => FP.symm⟩
    · rw [decide_eq_false (p := fw = 0 ∧ (40 ≤ (X.us.length : Int) ∨ 1000000 ≤ X.next)) (fun h => h1 h.2)] at D1
      subst D1
      rw [if_neg (by simp)] at E3
      subst E3
      by_cases h2 : ¬ (0 ≤ pl ∧ pl < (X.gold.length : Int)) ∨ ¬ (0 ≤ kd ∧ kd < (ks.length : Int))
      · rw [decide_eq_true (p := fw = 0 ∧ (¬ (0 ≤ pl ∧ pl < (X.gold.length : Int)) ∨ ¬ (0 ≤ kd ∧ kd < (ks.length : Int)))) ⟨h0, h2⟩] at D2
        subst D2
        rw [if_pos rfl] at E4
        subst E4
        rw [decide_eq_false (fun h => by omega)] at D3
        subst D3
        rw [if_neg (by simp)] at E5
        subst E5
        rw [Wd.pf1 h1 h2] at FP
        exact ⟨fun h => by omega, fun _ => FP.symm⟩
      · rw [decide_eq_false (p := fw = 0 ∧ (¬ (0 ≤ pl ∧ pl < (X.gold.length : Int)) ∨ ¬ (0 ≤ kd ∧ kd < (ks.length : Int)))) (fun h => h2 h.2)] at D2
        subst D2
        rw [if_neg (by simp)] at E4
        subst E4
        have h21 : 0 ≤ pl ∧ pl < (X.gold.length : Int) := by omega
        have h22 : 0 ≤ kd ∧ kd < (ks.length : Int) := by omega
        by_cases h3 : 0 ≤ at_ ∧ at_ < (X.gs.length : Int)
        · rw [decide_eq_false (p := fw = 0 ∧ ¬ (0 ≤ at_ ∧ at_ < (X.gs.length : Int))) (fun h => h.2 h3)] at D3
          subst D3
          rw [if_neg (by simp)] at E5
          subst E5
          obtain ⟨k, hk⟩ : ∃ k, ks[kd.toNat]? = some k := ⟨_, List.getElem?_eq_getElem (by omega)⟩
          rw [Wd.pfk h1 h21 h22 h3 hk] at FP
          refine ⟨fun _ => ⟨by rw [FW]; exact h0, kd.toNat, at_.toNat, k, by omega, by omega, by omega, hk, by omega, ?_⟩, fun h => absurd h0 h⟩
          rw [Int.toNat_of_nonneg h3.1]
          exact FP.symm
        · rw [decide_eq_true (p := fw = 0 ∧ ¬ (0 ≤ at_ ∧ at_ < (X.gs.length : Int))) ⟨h0, h3⟩] at D3
          subst D3
          rw [if_pos rfl] at E5
          subst E5
          rw [Wd.pf6 h1 h21 h22 h3] at FP
          exact ⟨fun h => by omega, fun _ => FP.symm⟩
  · rw [FW, if_neg h0] at FP
    rw [decide_eq_false (fun h => h0 h.1)] at D1
    subst D1
    rw [if_neg (by simp)] at E3
    subst E3
    rw [decide_eq_false (fun h => h0 h.1)] at D2
    subst D2
    rw [if_neg (by simp)] at E4
    subst E4
    rw [decide_eq_false (fun h => h0 h.1)] at D3
    subst D3
    rw [if_neg (by simp)] at E5
    subst E5
    exact ⟨fun h => absurd h h0, fun _ => FP.symm⟩
theorem app_unit_run (va : World) (base : Nat) (v : Value) (us : List UnV) (d : UnV) (b : Nat) (ho : Uno va base v us) (hd : Unc va ⟨b, 0, none⟩ d) (hl : us.length ≤ 1000000) (hb : base ≤ va.heap.size) :
    ∃ g cap w', (Builtin.append_ #[26, 26] 26 #[v, .slice (some ⟨b, 0, none⟩) 1 1]).run Tryd.prog va = .ok (.slice (some ⟨g, 0, none⟩) (us.length + 1) cap) w' ∧ Uno w' base (.slice (some ⟨g, 0, none⟩) (us.length + 1) cap) (us ++ [d]) ∧ va.grownBy w' v.ownBlock := by
  obtain ⟨i0, hi, hz0, hz1, hz2⟩ := info_parts info_un
  obtain ⟨g, cap, w', hr, ho6, hg6, ha6, hl6⟩ := run_append_lies (P := Tryd.prog) va 26 26 base 45 i0 _ 8 64 Tryd.underlying26 hi hz0 hz1 hz2 rfl (by decide) v us.length _ ho ⟨b, 0, none⟩ 1 1 (UnV.cs d) rfl (fun j u hj => by
    have hjn : j < 8 := (List.getElem?_eq_some_iff.1 hj).1
    rw [Addr.add_lit, Nat.zero_add]
    match j, hjn, hj with
    | 0, _, hj => simp [UnV.cs] at hj; subst hj; exact hd.c0
    | 1, _, hj => simp [UnV.cs] at hj; subst hj; exact hd.c1
    | 2, _, hj => simp [UnV.cs] at hj; subst hj; exact hd.c2
    | 3, _, hj => simp [UnV.cs] at hj; subst hj; exact hd.c3
    | 4, _, hj => simp [UnV.cs] at hj; subst hj; exact hd.c4
    | 5, _, hj => simp [UnV.cs] at hj; subst hj; exact hd.c5
    | 6, _, hj => simp [UnV.cs] at hj; subst hj; exact hd.c6
    | 7, _, hj => simp [UnV.cs] at hj; subst hj; exact hd.c7) (fun u hu => by
    simp [UnV.cs] at hu
    rcases hu with rfl | rfl | rfl | rfl | rfl | rfl | rfl | rfl <;> rfl) (by decide) (by unfold maxLen; omega) (by omega) hb _ rfl
  refine ⟨g, cap, w', hr, ?_, hg6⟩
  unfold Uno
  rw [List.length_append, List.flatMap_append]
  simpa using ho6
theorem rep_next (k : Nat) (g : Int) : List.replicate k g ++ [g] = List.replicate (k + 1) g := by rw [List.replicate_succ']
/-- what is left to prove: no tactic takes it for anything else. -/
structure Rst (G : Prop) : Prop where
  out : G
set_option maxRecDepth 100000 in
set_option maxHeartbeats 64000000 in
noncomputable def partA : (G : Prop) ×' (Rst G → ∀ (vk : Value) (ks : List KV) (vf : Value) (wd hg : Int) (gs os : List Int) (pls gold : Int) (vw : Value) (X : WV) (pl kd at_ : Int) (w : World)     (h0 : Kl w vk ks ∧ ∀ k ∈ ks, k.b.size ≤ maxLen) (h1 : Fl w vf wd hg gs os) (h2 : (Lit.int .i64 pls).wf = true) (h3 : (Lit.int .i64 gold).wf = true) (h4 : Wl w vw X ∧ ∀ n ∈ Wd.nums X, Wd.In64 n) (h5 : (Lit.int .i64 pl).wf = true) (h6 : (Lit.int .i64 kd).wf = true) (h7 : (Lit.int .i64 at_).wf = true) (hg0 : Et w), Calls Tryd.prog 3 #[vk, vf, .int .i64 pls, .int .i64 gold, vw, .int .i64 pl, .int .i64 kd, .int .i64 at_] w fun e w' => e = .returned (.bool true) ∧ Below w.heap.size w w') := ⟨_, fun hG => by
  intro vk ks vf wd hg gs os pls gold vw X pl kd at_ w h0 h1 h2 h3 h4 h5 h6 h7 hg0
  have K : Hid (Kl w vk ks ∧ ∀ k ∈ ks, k.b.size ≤ 9223372036854775807) := ⟨h0.1, fun k hk => by have := h0.2 k hk; unfold maxLen at this; omega⟩
  have F : Hid (Fl w vf wd hg gs os) := h1
  have H : Hid (Wl w vw X) := h4.1
  have HG : Hid (Et w) := hg0
  obtain ⟨fu1, fu2, rfl, ⟨f1, g1, rfl, -⟩, ⟨f2, g2, rfl, -⟩⟩ := h1
  obtain ⟨p1, q1, p2, q2, p3, q3, p4, q4, p5, q5, rfl⟩ := wl_shape h4.1
  obtain ⟨pk, qk, rfl, ck1, ck2, kc⟩ := h0.1
  have KC : Hid (ks ≠ [] → ∃ x, pk = some x ∧ x.block < w.heap.size ∧ ∀ (i : Nat) k, ks[i]? = some k → Kc w (x.add (i * 11)) k) := kc
  clear h0 h2 h3 h4 h5 h6 h7 hg0 kc
  go_enter Tryd.func3, Tryd.ntmps3
  go_upto_region 1 with fail
  have W0 : Hid (Wb w ((w.alloc (.cells #[.int .i64 wd, .int .i64 hg, .slice f1 gs.length g1, .slice f2 os.length g2] 25)).alloc (.cells #[.int .i64 X.turn, .int .i64 X.next, .int .i64 X.wide, .int .i64 X.high, .slice p1 X.gs.length q1, .slice p2 X.os.length q2, .slice p3 X.gold.length q3, .slice p4 X.us.length q4, .slice p5 X.qs.length q5] 29)) wd hg (.slice f1 gs.length g1) (.slice f2 os.length g2) X (.slice p1 X.gs.length q1) (.slice p2 X.os.length q2) (.slice p3 X.gold.length q3) (.slice p4 X.us.length q4) (.slice p5 X.qs.length q5)) := ⟨((Below.refl _ _).alloc (Nat.le_refl _) _).alloc (by simp) _, (Bx.mk' (w := w) _ _ _ _ rfl).below ((Below.refl _ _).alloc (Nat.le_refl _) _) (by simp), Bw.mk' X _ _ _ _ _ (by simp)⟩
  generalize ((w.alloc (.cells #[.int .i64 wd, .int .i64 hg, .slice f1 gs.length g1, .slice f2 os.length g2] 25)).alloc (.cells #[.int .i64 X.turn, .int .i64 X.next, .int .i64 X.wide, .int .i64 X.high, .slice p1 X.gs.length q1, .slice p2 X.os.length q2, .slice p3 X.gold.length q3, .slice p4 X.us.length q4, .slice p5 X.qs.length q5] 29)) = w0 at *
  go_wp2_with fail
  refine (ref_kinds _ ks w0 (K.out.1.below W0.out.b) K.out.2).mono ?_
  rintro e w1 ⟨rfl, hb⟩
  have W1 : Hid (Wb w w1 wd hg (.slice f1 gs.length g1) (.slice f2 os.length g2) X (.slice p1 X.gs.length q1) (.slice p2 X.os.length q2) (.slice p3 X.gold.length q3) (.slice p4 X.us.length q4) (.slice p5 X.qs.length q5)) := W0.out.below hb
  obtain ⟨fk, hfk⟩ : ∃ f, Kd.kindsFault (ks.map KV.k) = f := ⟨_, rfl⟩
  have FK : Hid (Kd.kindsFault (ks.map KV.k) = fk) := hfk
  rw [hfk]
  clear hb hfk W0
  obtain ⟨fg, hfg⟩ : ∃ f, Wd.ground ks (Wd.bare wd hg gs os) = f := ⟨_, rfl⟩
  have FG : Hid (Wd.ground ks (Wd.bare wd hg gs os) = fg) := hfg
  clear hfg
  go_upto_if 32 with fail
  go_cut [17] (fun v17 V => v17 = .int .i64 fg ∧ Wb w V wd hg (.slice f1 gs.length g1) (.slice f2 os.length g2) X (.slice p1 X.gs.length q1) (.slice p2 X.os.length q2) (.slice p3 X.gold.length q3) (.slice p4 X.us.length q4) (.slice p5 X.qs.length q5))
  case first =>
    by_cases h : fk = 0
    · subst h
      have E : Hid (Fd.fault wd hg gs os = fg) := by have := FG.out; rw [ground_eq, if_pos FK.out] at this; exact this
      obtain ⟨x0, x1, x2, x3⟩ := W1.out.f
      go_wp2_with fail
      refine (ref_field _ wd hg gs os w1 (F.out.below W1.out.b)).mono ?_
      rintro e w2 ⟨rfl, hb⟩
      have W2 : Hid (Wb w w2 wd hg (.slice f1 gs.length g1) (.slice f2 os.length g2) X (.slice p1 X.gs.length q1) (.slice p2 X.os.length q2) (.slice p3 X.gold.length q3) (.slice p4 X.us.length q4) (.slice p5 X.qs.length q5)) := W1.out.below hb
      clear hb x0 x1 x2 x3
      rw [E.out]
      go_wp2_with fail
      go_meet
      case rel => exact ⟨rfl, W2.out⟩
    · have E : Hid (fk = fg) := by have := FG.out; rw [ground_eq, if_neg (by rw [FK.out]; exact h)] at this; rw [← this]; exact FK.out.symm
      have hb : (fk == 0) = false := by simpa using h
      go_wp2_with fail
      go_meet
      case rel => exact ⟨by rw [E.out], W1.out⟩
  case rest =>
    obtain ⟨rfl, hW⟩ := hcut
    have W2 : Hid (Wb w wc wd hg (.slice f1 gs.length g1) (.slice f2 os.length g2) X (.slice p1 X.gs.length q1) (.slice p2 X.os.length q2) (.slice p3 X.gold.length q3) (.slice p4 X.us.length q4) (.slice p5 X.qs.length q5)) := hW
    clear hW W1
    generalize wc = w2 at *
    obtain ⟨bad, hbad⟩ : ∃ b, decide (fg = 0 ∧ ¬ ((1 ≤ pls ∧ pls ≤ 4) ∧ 0 ≤ gold ∧ gold ≤ 1000000)) = b := ⟨_, rfl⟩
    have BD : Hid (decide (fg = 0 ∧ ¬ ((1 ≤ pls ∧ pls ≤ 4) ∧ 0 ≤ gold ∧ gold ≤ 1000000)) = bad) := hbad
    clear hbad
    go_upto_region 4 with fail
    go_cut [52] (fun v52 V => v52 = .bool bad ∧ V = w2)
    case first =>
      by_cases h : fg = 0
      · subst h
        by_cases c1 : pls < 1
        · go_wp2_with fail
          go_meet
          case rel => exact ⟨by have hb : bad = true := by { rw [← BD.out]; exact decide_eq_true ⟨by first | rfl | trivial, fun hh => by omega⟩ }; rw [hb], rfl⟩
        by_cases c2 : 4 < pls
        · go_wp2_with fail
          go_meet
          case rel => exact ⟨by have hb : bad = true := by { rw [← BD.out]; exact decide_eq_true ⟨by first | rfl | trivial, fun hh => by omega⟩ }; rw [hb], rfl⟩
        by_cases c3 : gold < 0
        · go_wp2_with fail
          go_meet
          case rel => exact ⟨by have hb : bad = true := by { rw [← BD.out]; exact decide_eq_true ⟨by first | rfl | trivial, fun hh => by omega⟩ }; rw [hb], rfl⟩
        by_cases c4 : 1000000 < gold
        · go_wp2_with fail
          go_meet
          case rel => exact ⟨by have hb : bad = true := by { rw [← BD.out]; exact decide_eq_true ⟨by first | rfl | trivial, fun hh => by omega⟩ }; rw [hb], rfl⟩
        · go_wp2_with fail
          go_meet
          case rel => exact ⟨by rw [← BD.out]; exact congrArg Value.bool (Eq.symm (decide_eq_false (by omega))), rfl⟩
      · have hb : (fg == 0) = false := by simpa using h
        go_wp2_with fail
        go_meet
        case rel => exact ⟨by rw [← BD.out]; exact congrArg Value.bool (Eq.symm (decide_eq_false (by omega))), rfl⟩
    case rest =>
      obtain ⟨rfl, rfl⟩ := hcut
      obtain ⟨fn, hfn⟩ : ∃ f, Wd.newFault ks wd hg gs os pls gold = f := ⟨_, rfl⟩
      have FN : Hid (Wd.newFault ks wd hg gs os pls gold = fn) := hfn
      clear hfn
      go_upto_if 52 with fail
      go_cut [17] (fun v17 V => v17 = .int .i64 fn ∧ V = wc)
      case first =>
        cases bad with
        | true =>
          have E : Hid (fn = 1) := by
            have h := of_decide_eq_true BD.out
            have := FN.out
            unfold Wd.newFault at this
            rw [FG.out, if_pos h.1, if_neg h.2] at this
            exact this.symm
          go_wp2_with fail
          go_meet
          case rel => exact ⟨by rw [E.out], rfl⟩
        | false =>
          have E : Hid (fn = fg) := by
            have h := of_decide_eq_false BD.out
            have := FN.out
            unfold Wd.newFault at this
            rw [FG.out] at this
            by_cases h0 : fg = 0
            · rw [if_pos h0, if_pos (by omega)] at this
              rw [h0]; exact this.symm
            · rw [if_neg h0] at this; exact this.symm
          go_wp2_with fail
          go_meet
          case rel => exact ⟨by rw [E.out], rfl⟩
      case rest =>
        obtain ⟨rfl, rfl⟩ := hcut
        clear BD
        go_upto_region 7 with fail
        obtain ⟨z, hz⟩ : ∃ z, wc.heap.size = z := ⟨_, rfl⟩
        have SZ : Hid (w.heap.size + 2 ≤ z) := by rw [← hz]; exact W2.out.sz
        have W3 : Hid (Wb w (wc.alloc (.cells #[.int .i64 0, .int .i64 0, .int .i64 0, .int .i64 0, .slice none 0 0, .slice none 0 0, .slice none 0 0, .slice none 0 0, .slice none 0 0] 29)) wd hg (.slice f1 gs.length g1) (.slice f2 os.length g2) X (.slice p1 X.gs.length q1) (.slice p2 X.os.length q2) (.slice p3 X.gold.length q3) (.slice p4 X.us.length q4) (.slice p5 X.qs.length q5)) := W2.out.below ((Below.refl _ _).alloc (Nat.le_refl _) _)
        have Z3 : Hid (Wx (wc.alloc (.cells #[.int .i64 0, .int .i64 0, .int .i64 0, .int .i64 0, .slice none 0 0, .slice none 0 0, .slice none 0 0, .slice none 0 0, .slice none 0 0] 29)) z (.int .i64 0) (.int .i64 0) (.int .i64 0) (.int .i64 0) (.slice none 0 0) (.slice none 0 0) (.slice none 0 0) (.slice none 0 0) (.slice none 0 0)) := Wx.new _ _ _ _ _ _ _ _ _ hz
        have S3 : Hid (z + 1 ≤ (wc.alloc (.cells #[.int .i64 0, .int .i64 0, .int .i64 0, .int .i64 0, .slice none 0 0, .slice none 0 0, .slice none 0 0, .slice none 0 0, .slice none 0 0] 29)).heap.size) := by unfold Hid; simp; omega
        rw [hz]
        generalize (wc.alloc (.cells #[.int .i64 0, .int .i64 0, .int .i64 0, .int .i64 0, .slice none 0 0, .slice none 0 0, .slice none 0 0, .slice none 0 0, .slice none 0 0] 29)) = w3 at *
        clear hz W2
        obtain ⟨Y, hY⟩ : ∃ Y, Wd.begun ks wd hg gs os pls gold = Y := ⟨_, rfl⟩
        have HY : Hid (Wd.begun ks wd hg gs os pls gold = Y) := hY
        clear hY
        go_upto_if 55 with fail
        go_cut [17] (fun v17 V => v17 = .int .i64 fn ∧ Wb w V wd hg (.slice f1 gs.length g1) (.slice f2 os.length g2) X (.slice p1 X.gs.length q1) (.slice p2 X.os.length q2) (.slice p3 X.gold.length q3) (.slice p4 X.us.length q4) (.slice p5 X.qs.length q5) ∧ Wy V z Y)
        case first =>
          by_cases h : fn = 0
          · subst h
            simp only [beq_self_eq_true]
            have YE : Hid (Y = ⟨0, 1, wd, hg, gs, os, List.replicate pls.toNat gold, [], []⟩) := by rw [← HY.out]; exact begun_ok FN.out
            have NP : Hid (1 ≤ pls ∧ pls ≤ 4) := by
              have := FN.out
              unfold Wd.newFault at this
              split at this
              · split at this
                · rename_i h; exact h.1
                · cases this
              · rename_i h; exact absurd this h
            obtain ⟨n, hn⟩ : ∃ n : Nat, pls = n := ⟨pls.toNat, by have := NP.out; omega⟩
            subst hn
            have HN : Hid (n ≤ 4) := by have := NP.out; unfold Hid; omega
            rw [Int.toNat_natCast] at YE
            have t1 := Z3.out.thaw 1
            obtain ⟨-, x1, -, -, -, -, -, -, -⟩ := Z3.out.cells
            have KA : Hid (Kp z w3 (w3.setCell ⟨z, 1, none⟩ (.int .i64 1))) := Kp.set _ _ _
            have ZA : Hid (Wx (w3.setCell ⟨z, 1, none⟩ (.int .i64 1)) z (.int .i64 0) (.int .i64 1) (.int .i64 0) (.int .i64 0) (.slice none 0 0) (.slice none 0 0) (.slice none 0 0) (.slice none 0 0) (.slice none 0 0)) := Z3.out.set1 _
            go_upto_region 9 with fail
            clear t1 x1
            generalize (w3.setCell ⟨z, 1, none⟩ (.int .i64 1)) = w4 at *
            have W4 : Hid (Wb w w4 wd hg (.slice f1 gs.length g1) (.slice f2 os.length g2) X (.slice p1 X.gs.length q1) (.slice p2 X.os.length q2) (.slice p3 X.gold.length q3) (.slice p4 X.us.length q4) (.slice p5 X.qs.length q5)) := W3.out.kp KA.out SZ.out
            have S4 : Hid (z + 1 ≤ w4.heap.size) := Nat.le_trans S3.out KA.out.size
            clear KA
            obtain ⟨f0, f1', f2', f3⟩ := W4.out.f
            obtain ⟨-, -, x2, x3, x4, x5, -, -, -⟩ := ZA.out.cells
            have t2 := ZA.out.thaw 2
            have t3 := ZA.out.thaw 3
            have t4 := ZA.out.thaw 4
            have t5 := ZA.out.thaw 5
            have KB : Hid (Kp z w4 ((((w4.setCell ⟨z, 2, none⟩ (.int .i64 wd)).setCell ⟨z, 3, none⟩ (.int .i64 hg)).setCell ⟨z, 4, none⟩ (.slice f1 gs.length g1)).setCell ⟨z, 5, none⟩ (.slice f2 os.length g2))) := (((Kp.set w4 2 (.int .i64 wd)).trans (Kp.set _ 3 (.int .i64 hg))).trans (Kp.set _ 4 (.slice f1 gs.length g1))).trans (Kp.set _ 5 (.slice f2 os.length g2))
            have ZB : Hid (Wx ((((w4.setCell ⟨z, 2, none⟩ (.int .i64 wd)).setCell ⟨z, 3, none⟩ (.int .i64 hg)).setCell ⟨z, 4, none⟩ (.slice f1 gs.length g1)).setCell ⟨z, 5, none⟩ (.slice f2 os.length g2)) z (.int .i64 0) (.int .i64 1) (.int .i64 wd) (.int .i64 hg) (.slice f1 gs.length g1) (.slice f2 os.length g2) (.slice none 0 0) (.slice none 0 0) (.slice none 0 0)) := (((ZA.out.set2 (.int .i64 wd)).set3 (.int .i64 hg)).set4 (.slice f1 gs.length g1)).set5 (.slice f2 os.length g2)
            go_upto_region 10 with fail
            clear f0 f1' f2' f3 x2 x3 x4 x5 t2 t3 t4 t5
            generalize ((((w4.setCell ⟨z, 2, none⟩ (.int .i64 wd)).setCell ⟨z, 3, none⟩ (.int .i64 hg)).setCell ⟨z, 4, none⟩ (.slice f1 gs.length g1)).setCell ⟨z, 5, none⟩ (.slice f2 os.length g2)) = w5 at *
            have W5 : Hid (Wb w w5 wd hg (.slice f1 gs.length g1) (.slice f2 os.length g2) X (.slice p1 X.gs.length q1) (.slice p2 X.os.length q2) (.slice p3 X.gold.length q3) (.slice p4 X.us.length q4) (.slice p5 X.qs.length q5)) := W4.out.kp KB.out SZ.out
            have S5 : Hid (z + 1 ≤ w5.heap.size) := Nat.le_trans S4.out KB.out.size
            clear KB ZA
            go_wp2_with fail
            go_loopw [19] (fun iv V => Gl w wd hg gold (.slice f1 gs.length g1) (.slice f2 os.length g2) X (.slice p1 X.gs.length q1) (.slice p2 X.os.length q2) (.slice p3 X.gold.length q3) (.slice p4 X.us.length q4) (.slice p5 X.qs.length q5) z n iv V) (fun iv _ => n - (intOf iv).toNat)
            case atStart => exact ⟨0, _, Nat.zero_le _, rfl, W5.out, S5.out, ZB.out, Ow.nil _ _⟩
            case round =>
              obtain ⟨k, gv, hk, rfl, hW, hS, hZ, hO⟩ := hrel
              have WR : Hid (Wb w wr wd hg (.slice f1 gs.length g1) (.slice f2 os.length g2) X (.slice p1 X.gs.length q1) (.slice p2 X.os.length q2) (.slice p3 X.gold.length q3) (.slice p4 X.us.length q4) (.slice p5 X.qs.length q5)) := hW
              have SR : Hid (z + 1 ≤ wr.heap.size) := hS
              have ZR : Hid (Wx wr z (.int .i64 0) (.int .i64 1) (.int .i64 wd) (.int .i64 hg) (.slice f1 gs.length g1) (.slice f2 os.length g2) gv (.slice none 0 0) (.slice none 0 0)) := hZ
              have OR : Hid (Ow wr (z + 1) gv (List.replicate k gold)) := hO
              obtain ⟨ga, gc, hgv⟩ := hO.len
              rw [List.length_replicate] at hgv
              subst hgv
              clear hW hS hZ hO W5 S5 ZB
              have hn4 : n ≤ 4 := HN.out
              by_cases he : k = n
              · subst he
                clear hk
                go_wp2_with fail
                go_meet
                case rel =>
                  refine ⟨rfl, WR.out, ?_⟩
                  rw [YE.out]
                  exact ⟨_, _, _, _, _, ZR.out, _, _, _, _, _, rfl, (fl_ro (F.out.below WR.out.b)).1, (fl_ro (F.out.below WR.out.b)).2, OR.out.ro, ⟨none, 0, rfl, Nat.le_refl _, by omega, fun h => absurd rfl h⟩, ⟨none, 0, rfl, Nat.le_refl _, by omega, fun h => absurd rfl h⟩⟩
              · have hlt : (k : Int) < (n : Int) := by omega
                obtain ⟨-, -, -, -, -, -, x6, -, -⟩ := ZR.out.cells
                go_wp2_with (at_builtin; refine app_int _ rfl _ _ rfl (z + 1) _ (List.replicate k gold) rfl (OR.out.alloc _) ⟨wr.heap.size, 0, none⟩ gold rfl (by simp) (by have := HN.out; rw [List.length_replicate]; omega) (by have := SR.out; simp; omega) ?_)
                intro gb gcap w6 o6 g6 a6 l6
                have hob : ∀ b, (Value.slice ga k gc).ownBlock = some b → z + 1 ≤ b := fun b hb => (OR.out.block b hb).1
                have BG : Hid (Below (z + 1) wr w6) := ((Below.refl _ _).alloc SR.out _).grown g6 (by have := SR.out; simp; omega) hob
                have W6 : Hid (Wb w w6 wd hg (.slice f1 gs.length g1) (.slice f2 os.length g2) X (.slice p1 X.gs.length q1) (.slice p2 X.os.length q2) (.slice p3 X.gold.length q3) (.slice p4 X.us.length q4) (.slice p5 X.qs.length q5)) := WR.out.low BG.out (by have := SZ.out; omega)
                have Z6 : Hid (Wx w6 z (.int .i64 0) (.int .i64 1) (.int .i64 wd) (.int .i64 hg) (.slice f1 gs.length g1) (.slice f2 os.length g2) (.slice ga k gc) (.slice none 0 0) (.slice none 0 0)) := ZR.out.below BG.out (by omega)
                have O6 : Hid (Ow w6 (z + 1) (.slice (some ⟨gb, 0, none⟩) (k + 1) gcap) (List.replicate (k + 1) gold)) := by rw [← rep_next]; exact o6
                have S6 : Hid (z + 1 ≤ w6.heap.size) := Nat.le_trans SR.out BG.out.size
                clear o6 g6 a6 l6 hob BG x6
                have t6 := Z6.out.thaw 6
                obtain ⟨-, -, -, -, -, -, x6, -, -⟩ := Z6.out.cells
                have KC' : Hid (Kp z w6 (w6.setCell ⟨z, 6, none⟩ (.slice (some ⟨gb, 0, none⟩) (k + 1) gcap))) := Kp.set _ _ _
                have Z7 : Hid (Wx (w6.setCell ⟨z, 6, none⟩ (.slice (some ⟨gb, 0, none⟩) (k + 1) gcap)) z (.int .i64 0) (.int .i64 1) (.int .i64 wd) (.int .i64 hg) (.slice f1 gs.length g1) (.slice f2 os.length g2) (.slice (some ⟨gb, 0, none⟩) (k + 1) gcap) (.slice none 0 0) (.slice none 0 0)) := Z6.out.set6 _
                go_upto_region 12 with fail
                clear t6 x6
                generalize (w6.setCell ⟨z, 6, none⟩ (.slice (some ⟨gb, 0, none⟩) (k + 1) gcap)) = w7 at *
                have W7 : Hid (Wb w w7 wd hg (.slice f1 gs.length g1) (.slice f2 os.length g2) X (.slice p1 X.gs.length q1) (.slice p2 X.os.length q2) (.slice p3 X.gold.length q3) (.slice p4 X.us.length q4) (.slice p5 X.qs.length q5)) := W6.out.kp KC'.out SZ.out
                have O7 : Hid (Ow w7 (z + 1) (.slice (some ⟨gb, 0, none⟩) (k + 1) gcap) (List.replicate (k + 1) gold)) := O6.out.kp KC'.out (by omega)
                have S7 : Hid (z + 1 ≤ w7.heap.size) := Nat.le_trans S6.out KC'.out.size
                clear KC'
                go_wp2
                go_roundw
                case rel => exact ⟨k + 1, _, by omega, rfl, W7.out, S7.out, Z7.out, O7.out⟩
                case measure => simp [intOf]; omega
          · have YE : Hid (Y = WV.zero) := by rw [← HY.out]; exact begun_bad (by rw [FN.out]; exact h)
            have hb : (fn == 0) = false := by simpa using h
            go_wp2_with fail
            go_meet
            case rel => exact ⟨rfl, W3.out, by rw [YE.out]; exact ⟨_, _, _, _, _, Z3.out, (zero_wo _ 0).l⟩⟩
        case rest =>
          rename_i K9 a9
          revert ks wd hg gs os pls gold X pl kd at_ w HG f1 g1 f2 g2 F p1 q1 p2 q2 p3 q3 p4 q4 p5 q5 H pk qk K ck1 ck2 KC w0 w1 fk FK fg FG bad fn FN z SZ w3 W3 Z3 S3 Y HY wc u17 u19 u29 u30 u31 u32 u33 u34 u35 u36 u37 u38 u39 u40 u41 u42 u43 u44 u45 u46 u47 u48 u49 u50 u51 u52 u53 u54 u55 u56 u57 u58 u59 u60 u61 u62 u63 u64 u65 u66 u67 u68 u69 u70 u71 u72 u73 u74 u75 u76 u77 u78 u79 u80 u81 u82 u83 u84 u85 u86 u87 u88 u89 u90 u91 u92 u93 u94 u95 u96 u97 u98 u99 u100 u101 u102 u103 u104 u105 u106 u107 u108 u109 u110 u111 u112 u113 u114 u115 u116 u117 u118 u119 u120 u121 u122 u123 u124 u125 u126 u127 u128 u129 u130 u131 u132 u133 u134 u135 u136 u137 u138 u139 u140 u141 u142 u143 u144 u145 u146 u147 u148 u149 u150 u151 u152 u153 u154 u155 u156 u157 u158 u159 u160 u161 u162 u163 u164 u165 u166 u167 u168 u169 u170 u171 u172 u173 u174 u175 u176 u177 u178 u179 u180 u181 u182 u183 u184 u185 u186 u187 u188 u189 u190 u191 u192 u193 u194 u195 u196 u197 u198 u199 u200 u201 u202 u203 u204 u205 u206 hcut K9
          exact hG.out⟩
end Go.Proofs.YtaicnhkobhdehaaDoor.worldBegins

namespace Go.Proofs.YtaicnhkobhdehaaDoor.worldBegins
open Go.RowKit
set_option linter.unusedVariables false

set_option maxRecDepth 100000 in
set_option maxHeartbeats 64000000 in
noncomputable def partB : (G : Prop) ×' (Rst G → partA.1) := ⟨_, fun hG => by
  intro ks wd hg gs os pls gold X pl kd at_ w HG f1 g1 f2 g2 F p1 q1 p2 q2 p3 q3 p4 q4 p5 q5 H pk qk K ck1 ck2 KC Q9 w0 w1 fk FK fg FG bad fn FN K9 a9 z SZ w3 W3 Z3 S3 Y HY wc u17 u19 u29 u30 u31 u32 u33 u34 u35 u36 u37 u38 u39 u40 u41 u42 u43 u44 u45 u46 u47 u48 u49 u50 u51 u52 u53 u54 u55 u56 u57 u58 u59 u60 u61 u62 u63 u64 u65 u66 u67 u68 u69 u70 u71 u72 u73 u74 u75 u76 u77 u78 u79 u80 u81 u82 u83 u84 u85 u86 u87 u88 u89 u90 u91 u92 u93 u94 u95 u96 u97 u98 u99 u100 u101 u102 u103 u104 u105 u106 u107 u108 u109 u110 u111 u112 u113 u114 u115 u116 u117 u118 u119 u120 u121 u122 u123 u124 u125 u126 u127 u128 u129 u130 u131 u132 u133 u134 u135 u136 u137 u138 u139 u140 u141 u142 u143 u144 u145 u146 u147 u148 u149 u150 u151 u152 u153 u154 u155 u156 u157 u158 u159 u160 u161 u162 u163 u164 u165 u166 u167 u168 u169 u170 u171 u172 u173 u174 u175 u176 u177 u178 u179 u180 u181 u182 u183 u184 u185 u186 u187 u188 u189 u190 u191 u192 u193 u194 u195 u196 u197 u198 u199 u200 u201 u202 u203 u204 u205 u206 hcut
  obtain ⟨rfl, hW, hY⟩ := hcut
  have W4 : Hid (Wb w wc wd hg (.slice f1 gs.length g1) (.slice f2 os.length g2) X (.slice p1 X.gs.length q1) (.slice p2 X.os.length q2) (.slice p3 X.gold.length q3) (.slice p4 X.us.length q4) (.slice p5 X.qs.length q5)) := hW
  have Y4 : Hid (Wy wc z Y) := hY
  clear hW hY W3 Z3 S3
  generalize wc = w4 at *
  obtain ⟨x0, x1, x2, x3⟩ := W4.out.f
  go_wp2_with fail
  refine (new_any _ _ ks wd hg gs os pls gold w4 (K.out.1.below W4.out.b) K.out.2 (F.out.below W4.out.b)).mono ?_
  rintro e w5 ⟨u, r, rfl, hr, ho, hb⟩
  rw [FN.out] at hr
  rw [HY.out] at ho
  have ER : Hid (Er r fn) := hr
  have WL : Hid (Wl w5 u Y) := ho.l
  obtain ⟨a1, b1, a2, b2, a3, b3, a4, b4, a5, b5, rfl⟩ := wl_shape ho.l
  have W5 : Hid (Wb w w5 wd hg (.slice f1 gs.length g1) (.slice f2 os.length g2) X (.slice p1 X.gs.length q1) (.slice p2 X.os.length q2) (.slice p3 X.gold.length q3) (.slice p4 X.us.length q4) (.slice p5 X.qs.length q5)) := W4.out.below hb
  have Y5 : Hid (Wy w5 z Y) := Y4.out.below hb
  clear hb hr ho x0 x1 x2 x3 W4 Y4
  go_upto_region 15 with fail
  have B6 : Hid (Below w5.heap.size w5 (w5.alloc (Obj.cells #[.int .i64 Y.turn, .int .i64 Y.next, .int .i64 Y.wide, .int .i64 Y.high, .slice a1 Y.gs.length b1, .slice a2 Y.os.length b2, .slice a3 Y.gold.length b3, .slice a4 Y.us.length b4, .slice a5 Y.qs.length b5] 29))) := (Below.refl _ _).alloc (Nat.le_refl _) _
  have V6 : Hid (Bw (w5.alloc (Obj.cells #[.int .i64 Y.turn, .int .i64 Y.next, .int .i64 Y.wide, .int .i64 Y.high, .slice a1 Y.gs.length b1, .slice a2 Y.os.length b2, .slice a3 Y.gold.length b3, .slice a4 Y.us.length b4, .slice a5 Y.qs.length b5] 29)) w5.heap.size Y (.slice a1 Y.gs.length b1) (.slice a2 Y.os.length b2) (.slice a3 Y.gold.length b3) (.slice a4 Y.us.length b4) (.slice a5 Y.qs.length b5)) := Bw.mk' Y _ _ _ _ _ rfl
  generalize (w5.alloc (Obj.cells #[.int .i64 Y.turn, .int .i64 Y.next, .int .i64 Y.wide, .int .i64 Y.high, .slice a1 Y.gs.length b1, .slice a2 Y.os.length b2, .slice a3 Y.gold.length b3, .slice a4 Y.us.length b4, .slice a5 Y.qs.length b5] 29)) = w6 at *
  have W6 : Hid (Wb w w6 wd hg (.slice f1 gs.length g1) (.slice f2 os.length g2) X (.slice p1 X.gs.length q1) (.slice p2 X.os.length q2) (.slice p3 X.gold.length q3) (.slice p4 X.us.length q4) (.slice p5 X.qs.length q5)) := W5.out.below B6.out
  have Y6 : Hid (Wy w6 z Y) := Y5.out.below B6.out
  have L6 : Hid (Wl w6 (.agg #[.int .i64 Y.turn, .int .i64 Y.next, .int .i64 Y.wide, .int .i64 Y.high, .slice a1 Y.gs.length b1, .slice a2 Y.os.length b2, .slice a3 Y.gold.length b3, .slice a4 Y.us.length b4, .slice a5 Y.qs.length b5]) Y) := WL.out.below B6.out
  clear W5 Y5 WL B6
  go_wp2_with fail
  refine (er_same _ _ w6 ER.out (HG.out.below W6.out.b)).mono ?_
  rintro e w7 ⟨rfl, hb⟩
  have W7 : Hid (Wb w w7 wd hg (.slice f1 gs.length g1) (.slice f2 os.length g2) X (.slice p1 X.gs.length q1) (.slice p2 X.os.length q2) (.slice p3 X.gold.length q3) (.slice p4 X.us.length q4) (.slice p5 X.qs.length q5)) := W6.out.below hb
  have Y7 : Hid (Wy w7 z Y) := Y6.out.below hb
  have L7 : Hid (Wl w7 (.agg #[.int .i64 Y.turn, .int .i64 Y.next, .int .i64 Y.wide, .int .i64 Y.high, .slice a1 Y.gs.length b1, .slice a2 Y.os.length b2, .slice a3 Y.gold.length b3, .slice a4 Y.us.length b4, .slice a5 Y.qs.length b5]) Y) := L6.out.below hb
  obtain ⟨x0, x1, x2, x3, x4, x5, x6, x7, x8⟩ := V6.out.below hb V6.out.lt
  obtain ⟨y1, y2, y3, y4, y5, hx, hl⟩ := Y7.out
  have LY : Hid (Wl w7 (.agg #[.int .i64 Y.turn, .int .i64 Y.next, .int .i64 Y.wide, .int .i64 Y.high, y1, y2, y3, y4, y5]) Y) := hl
  obtain ⟨t0, t1, t2, t3, t4, t5, t6, t7, t8⟩ := hx.cells
  clear hb W6 Y6 L6 V6 hx hl
  go_wp2_with fail
  refine (worlds_like _ _ Y w7 L7.out LY.out).mono ?_
  rintro e w8 ⟨rfl, hb⟩
  have W8 : Hid (Wb w w8 wd hg (.slice f1 gs.length g1) (.slice f2 os.length g2) X (.slice p1 X.gs.length q1) (.slice p2 X.os.length q2) (.slice p3 X.gold.length q3) (.slice p4 X.us.length q4) (.slice p5 X.qs.length q5)) := W7.out.below hb
  have Y8 : Hid (Wy w8 z Y) := Y7.out.below hb
  clear hb W7 Y7 L7 LY x0 x1 x2 x3 x4 x5 x6 x7 x8 t0 t1 t2 t3 t4 t5 t6 t7 t8 ER
  obtain ⟨x0, x1, x2, x3, x4, x5, x6, x7, x8⟩ := W8.out.x
  go_wp2_with fail
  refine (rcheck_any _ _ ks X w8 (K.out.1.below W8.out.b) K.out.2 (H.out.below W8.out.b)).mono ?_
  rintro e w9 ⟨fw, rfl, hfw, hb⟩
  have FW : Hid (Wd.wfault ks X = fw) := hfw.symm
  have W9 : Hid (Wb w w9 wd hg (.slice f1 gs.length g1) (.slice f2 os.length g2) X (.slice p1 X.gs.length q1) (.slice p2 X.os.length q2) (.slice p3 X.gold.length q3) (.slice p4 X.us.length q4) (.slice p5 X.qs.length q5)) := W8.out.below hb
  have Y9 : Hid (Wy w9 z Y) := Y8.out.below hb
  clear hb hfw W8 Y8 x0 x1 x2 x3 x4 x5 x6 x7 x8 FN HY FG FK
  obtain ⟨fp, hfp⟩ : ∃ f, Wd.putFault ks X pl kd at_ = f := ⟨_, rfl⟩
  have FP : Hid (Wd.putFault ks X pl kd at_ = fp) := hfp
  clear hfp
  obtain ⟨T, hT⟩ : ∃ T, Wd.placed ks X pl kd at_ = T := ⟨_, rfl⟩
  have HT : Hid (Wd.placed ks X pl kd at_ = T) := hT
  clear hT
  obtain ⟨b1, hb1⟩ : ∃ b, decide (fw = 0 ∧ (40 ≤ (X.us.length : Int) ∨ 1000000 ≤ X.next)) = b := ⟨_, rfl⟩
  have D1 : Hid (decide (fw = 0 ∧ (40 ≤ (X.us.length : Int) ∨ 1000000 ≤ X.next)) = b1) := hb1
  clear hb1
  go_upto_region 18 with fail
  go_cut [99] (fun v99 V => v99 = .bool b1 ∧ V = w9)
  case first =>
    clear hG
    as_aux_lemma =>
      obtain ⟨x0, x1, x2, x3, x4, x5, x6, x7, x8⟩ := W9.out.x
      by_cases h : fw = 0
      · have hb : b1 = decide (40 ≤ (X.us.length : Int) ∨ 1000000 ≤ X.next) := by rw [← D1.out]; exact decide_eq_decide.2 ⟨fun q => q.2, fun q => ⟨h, q⟩⟩
        have HB : Hid (b1 = decide (40 ≤ (X.us.length : Int) ∨ 1000000 ≤ X.next)) := hb
        subst h
        clear hb D1
        by_cases c1 : 40 ≤ (X.us.length : Int)
        · go_wp2_with fail
          go_meet
          case rel => exact ⟨by rw [HB.out, decide_eq_true (p := 40 ≤ (X.us.length : Int) ∨ 1000000 ≤ X.next) (.inl c1)], rfl⟩
        by_cases c2 : 1000000 ≤ X.next
        · go_wp2_with fail
          go_meet
          case rel => exact ⟨by rw [HB.out, decide_eq_true (p := 40 ≤ (X.us.length : Int) ∨ 1000000 ≤ X.next) (.inr c2)], rfl⟩
        · go_wp2_with fail
          go_meet
          case rel => exact ⟨by rw [HB.out, decide_eq_false (p := 40 ≤ (X.us.length : Int) ∨ 1000000 ≤ X.next) (by omega)], rfl⟩
      · have hb : (fw == 0) = false := by simpa using h
        have HB : Hid (b1 = false) := by rw [← D1.out]; exact decide_eq_false (fun q => h q.1)
        go_wp2_with fail
        go_meet
        case rel => exact ⟨by rw [HB.out], rfl⟩
  case rest =>
    obtain ⟨rfl, rfl⟩ := hcut
    obtain ⟨e3, he3⟩ : ∃ e, (if b1 = true then 4 else fw) = e := ⟨_, rfl⟩
    have E3 : Hid ((if b1 = true then 4 else fw) = e3) := he3
    clear he3
    go_upto_if 99 with fail
    go_cut [17] (fun v17 V => v17 = .int .i64 e3 ∧ V = wc)
    case first =>
      clear hG
      as_aux_lemma =>
        cases b1 with
        | true =>
          go_wp2_with fail
          go_meet
          case rel => exact ⟨by rw [← E3.out]; rfl, rfl⟩
        | false =>
          go_wp2_with fail
          go_meet
          case rel => exact ⟨by rw [← E3.out]; rfl, rfl⟩
    case rest =>
      obtain ⟨rfl, rfl⟩ := hcut
      obtain ⟨b2, hb2⟩ : ∃ b, decide (e3 = 0 ∧ (¬ (0 ≤ pl ∧ pl < (X.gold.length : Int)) ∨ ¬ (0 ≤ kd ∧ kd < (ks.length : Int)))) = b := ⟨_, rfl⟩
      have D2 : Hid (decide (e3 = 0 ∧ (¬ (0 ≤ pl ∧ pl < (X.gold.length : Int)) ∨ ¬ (0 ≤ kd ∧ kd < (ks.length : Int)))) = b2) := hb2
      clear hb2
      go_upto_region 20 with fail
      go_cut [122] (fun v122 V => v122 = .bool b2 ∧ V = wc)
      case first =>
        clear hG
        as_aux_lemma =>
          obtain ⟨x0, x1, x2, x3, x4, x5, x6, x7, x8⟩ := W9.out.x
          by_cases h : e3 = 0
          · have hb : b2 = decide (¬ (0 ≤ pl ∧ pl < (X.gold.length : Int)) ∨ ¬ (0 ≤ kd ∧ kd < (ks.length : Int))) := by rw [← D2.out]; exact decide_eq_decide.2 ⟨fun q => q.2, fun q => ⟨h, q⟩⟩
            have HB : Hid (b2 = decide (¬ (0 ≤ pl ∧ pl < (X.gold.length : Int)) ∨ ¬ (0 ≤ kd ∧ kd < (ks.length : Int)))) := hb
            subst h
            clear hb D2
            by_cases c1 : pl < 0
            · go_wp2_with fail
              go_meet
              case rel => exact ⟨by rw [HB.out, decide_eq_true (p := ¬ (0 ≤ pl ∧ pl < (X.gold.length : Int)) ∨ ¬ (0 ≤ kd ∧ kd < (ks.length : Int))) (by omega)], rfl⟩
            by_cases c2 : (X.gold.length : Int) ≤ pl
            · go_wp2_with fail
              go_meet
              case rel => exact ⟨by rw [HB.out, decide_eq_true (p := ¬ (0 ≤ pl ∧ pl < (X.gold.length : Int)) ∨ ¬ (0 ≤ kd ∧ kd < (ks.length : Int))) (by omega)], rfl⟩
            by_cases c3 : kd < 0
            · go_wp2_with fail
              go_meet
              case rel => exact ⟨by rw [HB.out, decide_eq_true (p := ¬ (0 ≤ pl ∧ pl < (X.gold.length : Int)) ∨ ¬ (0 ≤ kd ∧ kd < (ks.length : Int))) (by omega)], rfl⟩
            by_cases c4 : (ks.length : Int) ≤ kd
            · go_wp2_with fail
              go_meet
              case rel => exact ⟨by rw [HB.out, decide_eq_true (p := ¬ (0 ≤ pl ∧ pl < (X.gold.length : Int)) ∨ ¬ (0 ≤ kd ∧ kd < (ks.length : Int))) (by omega)], rfl⟩
            · go_wp2_with fail
              go_meet
              case rel => exact ⟨by rw [HB.out, decide_eq_false (p := ¬ (0 ≤ pl ∧ pl < (X.gold.length : Int)) ∨ ¬ (0 ≤ kd ∧ kd < (ks.length : Int))) (by omega)], rfl⟩
          · have hb : (e3 == 0) = false := by simpa using h
            have HB : Hid (b2 = false) := by rw [← D2.out]; exact decide_eq_false (fun q => h q.1)
            go_wp2_with fail
            go_meet
            case rel => exact ⟨by rw [HB.out], rfl⟩
      case rest =>
        obtain ⟨rfl, rfl⟩ := hcut
        obtain ⟨e4, he4⟩ : ∃ e, (if b2 = true then 1 else e3) = e := ⟨_, rfl⟩
        have E4 : Hid ((if b2 = true then 1 else e3) = e4) := he4
        clear he4
        go_upto_if 122 with fail
        go_cut [17] (fun v17 V => v17 = .int .i64 e4 ∧ V = wc)
        case first =>
          clear hG
          as_aux_lemma =>
            cases b2 with
            | true =>
              go_wp2_with fail
              go_meet
              case rel => exact ⟨by rw [← E4.out]; rfl, rfl⟩
            | false =>
              go_wp2_with fail
              go_meet
              case rel => exact ⟨by rw [← E4.out]; rfl, rfl⟩
        case rest =>
          obtain ⟨rfl, rfl⟩ := hcut
          obtain ⟨b3, hb3⟩ : ∃ b, decide (e4 = 0 ∧ ¬ (0 ≤ at_ ∧ at_ < (X.gs.length : Int))) = b := ⟨_, rfl⟩
          have D3 : Hid (decide (e4 = 0 ∧ ¬ (0 ≤ at_ ∧ at_ < (X.gs.length : Int))) = b3) := hb3
          clear hb3
          go_upto_region 22 with fail
          go_cut [136] (fun v136 V => v136 = .bool b3 ∧ V = wc)
          case first =>
            clear hG
            as_aux_lemma =>
              obtain ⟨x0, x1, x2, x3, x4, x5, x6, x7, x8⟩ := W9.out.x
              by_cases h : e4 = 0
              · have hb : b3 = decide (¬ (0 ≤ at_ ∧ at_ < (X.gs.length : Int))) := by rw [← D3.out]; exact decide_eq_decide.2 ⟨fun q => q.2, fun q => ⟨h, q⟩⟩
                have HB : Hid (b3 = decide (¬ (0 ≤ at_ ∧ at_ < (X.gs.length : Int)))) := hb
                subst h
                clear hb D3
                by_cases c1 : at_ < 0
                · go_wp2_with fail
                  go_meet
                  case rel => exact ⟨by rw [HB.out, decide_eq_true (p := ¬ (0 ≤ at_ ∧ at_ < (X.gs.length : Int))) (by omega)], rfl⟩
                by_cases c2 : (X.gs.length : Int) ≤ at_
                · go_wp2_with fail
                  go_meet
                  case rel => exact ⟨by rw [HB.out, decide_eq_true (p := ¬ (0 ≤ at_ ∧ at_ < (X.gs.length : Int))) (by omega)], rfl⟩
                · go_wp2_with fail
                  go_meet
                  case rel => exact ⟨by rw [HB.out, decide_eq_false (p := ¬ (0 ≤ at_ ∧ at_ < (X.gs.length : Int))) (by omega)], rfl⟩
              · have hb : (e4 == 0) = false := by simpa using h
                have HB : Hid (b3 = false) := by rw [← D3.out]; exact decide_eq_false (fun q => h q.1)
                go_wp2_with fail
                go_meet
                case rel => exact ⟨by rw [HB.out], rfl⟩
          case rest =>
            obtain ⟨rfl, rfl⟩ := hcut
            obtain ⟨e5, he5⟩ : ∃ e, (if b3 = true then 6 else e4) = e := ⟨_, rfl⟩
            have E5 : Hid ((if b3 = true then 6 else e4) = e5) := he5
            clear he5
            go_upto_if 136 with fail
            go_cut [17] (fun v17 V => v17 = .int .i64 e5 ∧ V = wc)
            case first =>
              clear hG
              as_aux_lemma =>
                cases b3 with
                | true =>
                  go_wp2_with fail
                  go_meet
                  case rel => exact ⟨by rw [← E5.out]; rfl, rfl⟩
                | false =>
                  go_wp2_with fail
                  go_meet
                  case rel => exact ⟨by rw [← E5.out]; rfl, rfl⟩
            case rest =>
              rename_i K8 a8 wc8 vu29 vu30 vu31 vu32 vu33 vu34 vu35 vu36 vu37 vu38 vu39 vu40 vu41 vu42 vu43 vu44 vu45 vu46 vu47 vu48 vu49 vu50 vu51 vu52 vu53 vu54 vu55 vu56 vu57 vu58 vu59 vu60 vu61 vu62 vu63 vu64 vu65 vu66 vu67 vu68 vu69 vu70 vu71 vu72 vu73 vu74 vu75 vu76 vu77 vu78 vu79 vu80 vu81 vu82 vu83 vu84 vu85 vu86 vu87 vu88 vu89 vu90 vu91 vu92 vu93 vu94 vu95 vu96 vu97 vu98 vu99 vu100 vu101 vu102 vu103 vu104 vu105 vu106 vu107 vu108 vu109 vu110 vu111 vu112 vu113 vu114 vu115 vu116 vu117 vu118 vu119 vu120 vu121 vu122 vu123 vu124 vu125 vu126 vu127 vu128 vu129 vu130 vu131 vu132 vu133 vu134 vu135 vu137 vu138 vu139 vu140 vu141 vu142 vu143 vu144 vu145 vu146 vu147 vu148 vu149 vu150 vu151 vu152 vu153 vu154 vu155 vu156 vu157 vu158 vu159 vu160 vu161 vu162 vu163 vu164 vu165 vu166 vu167 vu168 vu169 vu170 vu171 vu172 vu173 vu174 vu175 vu176 vu177 vu178 vu179 vu180 vu181 vu182 vu183 vu184 vu185 vu186 vu187 vu188 vu189 vu190 vu191 vu192 vu193 vu194 vu195 vu196 vu197 vu198 vu199 vu200 vu201 vu202 vu203 vu204 vu205 vu206
              revert ks wd hg gs os pls gold X pl kd at_ w HG f1 g1 f2 g2 F p1 q1 p2 q2 p3 q3 p4 q4 p5 q5 H pk qk K ck1 ck2 KC Q9 w0 w1 fk fg bad fn z SZ w3 Y u19 w4 w5 r a1 a2 a3 a4 b4 a5 b5 w6 w7 y1 y2 y3 y4 y5 w8 fw FW fp FP T HT b1 D1 e3 E3 b2 D2 e4 E4 b3 D3 W9 Y9 e5 E5 wc u17 u29 u30 u31 u32 u33 u34 u35 u36 u37 u38 u39 u40 u41 u42 u43 u44 u45 u46 u47 u48 u49 u50 u51 u52 u53 u54 u55 u56 u57 u58 u59 u60 u61 u62 u63 u64 u65 u66 u67 u68 u69 u70 u71 u72 u73 u74 u75 u76 u77 u78 u79 u80 u81 u82 u83 u84 u85 u86 u87 u88 u89 u90 u91 u92 u93 u94 u95 u96 u97 u98 u99 u100 u101 u102 u103 u104 u105 u106 u107 u108 u109 u110 u111 u112 u113 u114 u115 u116 u117 u118 u119 u120 u121 u122 u123 u124 u125 u126 u127 u128 u129 u130 u131 u132 u133 u134 u135 u136 u137 u138 u139 u140 u141 u142 u143 u144 u145 u146 u147 u148 u149 u150 u151 u152 u153 u154 u155 u156 u157 u158 u159 u160 u161 u162 u163 u164 u165 u166 u167 u168 u169 u170 u171 u172 u173 u174 u175 u176 u177 u178 u179 u180 u181 u182 u183 u184 u185 u186 u187 u188 u189 u190 u191 u192 u193 u194 u195 u196 u197 u198 u199 u200 u201 u202 u203 u204 u205 u206 hcut K8 wc8
              exact hG.out⟩
end Go.Proofs.YtaicnhkobhdehaaDoor.worldBegins

namespace Go.Proofs.YtaicnhkobhdehaaDoor.worldBegins
open Go.RowKit
set_option linter.unusedVariables false

set_option maxRecDepth 100000 in
set_option maxHeartbeats 64000000 in
theorem partC : partB.1 := by
  intro ks wd hg gs os pls gold X pl kd at_ w HG f1 g1 f2 g2 F p1 q1 p2 q2 p3 q3 p4 q4 p5 q5 H pk qk K ck1 ck2 KC Q9 w0 w1 fk fg bad fn z SZ w3 Y u19 w4 w5 r a1 a2 a3 a4 b4 a5 b5 w6 w7 y1 y2 y3 y4 y5 w8 fw FW fp FP T HT b1 D1 e3 E3 b2 D2 e4 E4 b3 D3 K8 a8 wc8 W9 Y9 e5 E5 wc u17 u29 u30 u31 u32 u33 u34 u35 u36 u37 u38 u39 u40 u41 u42 u43 u44 u45 u46 u47 u48 u49 u50 u51 u52 u53 u54 u55 u56 u57 u58 u59 u60 u61 u62 u63 u64 u65 u66 u67 u68 u69 u70 u71 u72 u73 u74 u75 u76 u77 u78 u79 u80 u81 u82 u83 u84 u85 u86 u87 u88 u89 u90 u91 u92 u93 u94 u95 u96 u97 u98 u99 u100 u101 u102 u103 u104 u105 u106 u107 u108 u109 u110 u111 u112 u113 u114 u115 u116 u117 u118 u119 u120 u121 u122 u123 u124 u125 u126 u127 u128 u129 u130 u131 u132 u133 u134 u135 u136 u137 u138 u139 u140 u141 u142 u143 u144 u145 u146 u147 u148 u149 u150 u151 u152 u153 u154 u155 u156 u157 u158 u159 u160 u161 u162 u163 u164 u165 u166 u167 u168 u169 u170 u171 u172 u173 u174 u175 u176 u177 u178 u179 u180 u181 u182 u183 u184 u185 u186 u187 u188 u189 u190 u191 u192 u193 u194 u195 u196 u197 u198 u199 u200 u201 u202 u203 u204 u205 u206 hcut
  obtain ⟨rfl, rfl⟩ := hcut
  have PP := faults FW.out FP.out D1.out E3.out D2.out E4.out D3.out E5.out
  have PH : Hid _ := PP
  clear PP D1 E3 D2 E4 D3 E5
  go_upto_if 138 with fail
  go_cut [17] (fun v17 V => v17 = .int .i64 fp ∧ Wb w V wd hg (.slice f1 gs.length g1) (.slice f2 os.length g2) X (.slice p1 X.gs.length q1) (.slice p2 X.os.length q2) (.slice p3 X.gold.length q3) (.slice p4 X.us.length q4) (.slice p5 X.qs.length q5) ∧ Wy V z Y)
  case first =>
    by_cases h : e5 = 0
    · subst h
      simp only [beq_self_eq_true]
      obtain ⟨hf0, kn, an, k, rfl, rfl, hkl, hkk, hal, hop⟩ := PH.out.1 rfl
      have RT : Hid (WRight ks X) := wright_of hf0
      have OP : Hid (fp = if Wd.open_ X.gs X.us (an : Nat) k.f = false then 7 else 0) := hop
      obtain ⟨g, hg⟩ : ∃ g, X.gs[an]? = some g := ⟨_, List.getElem?_eq_getElem hal⟩
      have GA : Hid (X.gs[an]? = some g) := hg
      have G3 : Hid (0 ≤ g ∧ g ≤ 3 ∧ X.gs.length ≤ 144) := ground_at RT.out hg
      obtain ⟨xk, rfl, hxl, hxc⟩ := KC.out (fun e => Nat.not_lt_zero kn (by rw [e] at hkl; exact hkl))
      have HK : Hid (Kc wc (xk.add (kn * 11)) k) := (hxc kn k hkk).below W9.out.b (by rw [add_block]; exact hxl)
      have hki : (kn : Int) < (ks.length : Int) := Int.ofNat_lt.2 hkl
      have CL : Hid (∀ V, Below wc.heap.size wc V → V.cell? ⟨w.heap.size + 1, 2, none⟩ = some (.int .i64 X.wide) ∧ V.cell? ⟨w.heap.size + 1, 3, none⟩ = some (.int .i64 X.high) ∧ V.cell? ⟨w.heap.size + 1, 4, none⟩ = some (.slice p1 X.gs.length q1) ∧ V.cell? ⟨w.heap.size + 1, 5, none⟩ = some (.slice p2 X.os.length q2) ∧ V.cell? ⟨(xk.add (kn * 11)).block, (xk.add (kn * 11)).off + 9, none⟩ = some (.bool k.f)) := fun V hV => by
        obtain ⟨-, -, z2, z3, z4, z5, -, z7, -⟩ := W9.out.x.below hV W9.out.x.lt
        obtain ⟨-, -, -, -, -, -, -, -, -, m9, -⟩ := HK.out.below hV HK.out.lt
        exact ⟨z2, z3, z4, z5, m9⟩
      have ON : Hid (∀ V, Below wc.heap.size wc V → Calls Tryd.prog 10 #[.agg #[.int .i64 X.wide, .int .i64 X.high, .slice p1 X.gs.length q1, .slice p2 X.os.length q2], .int .i64 (an : Nat), .bool k.f] V fun e w' => e = .returned (.int .i64 (Fd.onto g k.f)) ∧ Below wc.heap.size wc w') := fun V hV => by
        have BV : Below w.heap.size w V := W9.out.b.trans (hV.mono W9.out.b.size)
        obtain ⟨r1, r2, -, r4, -⟩ := (H.out.below BV).slices
        exact (ref_onto _ X.wide X.high X.gs X.os an g k.f V ⟨_, _, rfl, r1, r2⟩ G3.out.2.2 GA.out G3.out.1 G3.out.2.1).mono fun e w' ⟨h1, h2⟩ => ⟨h1, hV.trans (h2.mono hV.size)⟩
      have eo : ∀ args w, (callFunc 10 args).run Tryd.prog w = .ok (.enter 10 args) w := by intro args w; go_simp
      clear hf0 hop hkk hal hg hxl hxc hkl
      go_upto_region 25 with fail
      refine wp_region_class 9 (fun V => Below wc.heap.size wc V) (by kernel_rfl) (by kernel_rfl) (Below.refl _ _).drew ?_
      simp only [List.take_succ_cons, List.take_zero, List.drop_succ_cons, List.drop_zero]
      refine head_step (.pointer (some ⟨w.heap.size + 1, 2, none⟩)) (by go_simp) (fun V hV => by go_simp) ?_
      go_simp
      refine head_step (.agg #[.int .i64 X.wide, .int .i64 X.high, .slice p1 X.gs.length q1, .slice p2 X.os.length q2]) (by go_simp) (fun V hV => by obtain ⟨f2, f3, f4, f5, -⟩ := CL.out V hV; go_simp) ?_
      go_simp
      refine head_step (.int .i64 (an : Nat)) (by go_simp) (fun V hV => by go_simp) ?_
      go_simp
      refine head_step (.slice (some xk) ks.length qk) (by go_simp) (fun V hV => by go_simp) ?_
      go_simp
      refine head_step (.int .i64 (kn : Nat)) (by go_simp) (fun V hV => by go_simp) ?_
      go_simp
      refine head_step (.pointer (some (xk.add (kn * 11)))) (by go_simp) (fun V hV => by go_simp) ?_
      go_simp
      refine head_step (.pointer (some ⟨(xk.add (kn * 11)).block, (xk.add (kn * 11)).off + 9, none⟩)) (by go_simp) (fun V hV => by go_simp) ?_
      go_simp
      refine head_step (.bool k.f) (by go_simp) (fun V hV => by obtain ⟨-, -, -, -, f10⟩ := CL.out V hV; go_simp) ?_
      go_simp
      refine head_call (.int .i64 (Fd.onto g k.f)) 10 #[.agg #[.int .i64 X.wide, .int .i64 X.high, .slice p1 X.gs.length q1, .slice p2 X.os.length q2], .int .i64 (an : Nat), .bool k.f] (by go_simp) (fun V hV => by go_simp) (fun V hV => ON.out V hV) ?_
      go_simp
      intro V hV
      have W10 : Hid (Wb w V wd hg (.slice f1 gs.length g1) (.slice f2 os.length g2) X (.slice p1 X.gs.length q1) (.slice p2 X.os.length q2) (.slice p3 X.gold.length q3) (.slice p4 X.us.length q4) (.slice p5 X.qs.length q5)) := W9.out.below hV
      have Y10 : Hid (Wy V z Y) := Y9.out.below hV
      clear hV CL ON eo W9 Y9
      obtain ⟨x0, x1, x2, x3, x4, x5, x6, x7, x8⟩ := W10.out.x
      obtain ⟨st, hst⟩ : ∃ s, Fd.onto g k.f = s := ⟨_, rfl⟩
      have ST : Hid (Fd.onto g k.f = st) := hst
      rw [hst]
      clear hst
      go_wp2_with fail
      refine (ron_any _ X (an : Nat) V (H.out.below W10.out.b)).mono ?_
      rintro e w11 ⟨r, rfl, hr, hb⟩
      have W11 : Hid (Wb w w11 wd hg (.slice f1 gs.length g1) (.slice f2 os.length g2) X (.slice p1 X.gs.length q1) (.slice p2 X.os.length q2) (.slice p3 X.gold.length q3) (.slice p4 X.us.length q4) (.slice p5 X.qs.length q5)) := W10.out.below hb
      have Y11 : Hid (Wy w11 z Y) := Y10.out.below hb
      have OQ : Hid (Wd.open_ X.gs X.us (an : Nat) k.f = (decide (0 < st) && !decide (0 ≤ r))) := by
        unfold Hid
        rw [open_of GA.out, ST.out, on_any hr]
      clear hb hr W10 Y10 x0 x1 x2 x3 x4 x5 x6 x7 x8
      have sn : 0 ≤ st := by rw [← ST.out]; exact onto_nonneg _ _
      by_cases c1 : st = 0
      · have E : Hid (fp = 7) := by unfold Hid; rw [OP.out, OQ.out, decide_eq_false (p := 0 < st) (by omega)]; rfl
        subst c1
        go_wp2_with fail
        go_meet
        case rel => exact ⟨by rw [E.out], W11.out, Y11.out⟩
      · have c1b : (st == 0) = false := by simpa using c1
        by_cases c2 : 0 ≤ r
        · have E : Hid (fp = 7) := by unfold Hid; rw [OP.out, OQ.out, decide_eq_true (p := 0 ≤ r) c2, Bool.not_true, Bool.and_false]; rfl
          go_wp2_with fail
          go_meet
          case rel => exact ⟨by rw [E.out], W11.out, Y11.out⟩
        · have E : Hid (fp = 0) := by unfold Hid; rw [OP.out, OQ.out, decide_eq_false (p := 0 ≤ r) c2, decide_eq_true (p := 0 < st) (by omega)]; rfl
          go_wp2_with fail
          go_meet
          case rel => exact ⟨by rw [E.out], W11.out, Y11.out⟩
    · have E : Hid (fp = e5) := PH.out.2 h
      have hb : (e5 == 0) = false := by simpa using h
      go_wp2_with fail
      go_meet
      case rel => exact ⟨by rw [E.out], W9.out, Y9.out⟩
  case rest =>
    obtain ⟨rfl, hW, hY⟩ := hcut
    have W10 : Hid (Wb w wc wd hg (.slice f1 gs.length g1) (.slice f2 os.length g2) X (.slice p1 X.gs.length q1) (.slice p2 X.os.length q2) (.slice p3 X.gold.length q3) (.slice p4 X.us.length q4) (.slice p5 X.qs.length q5)) := hW
    clear W9 Y9 PH
    generalize wc = w10 at *
    obtain ⟨y1', y2', y3', y4', y5', hx, -⟩ := hY
    obtain ⟨x0, x1, x2, x3, x4, x5, x6, x7, x8⟩ := hx.cells
    obtain ⟨t0, t1, t2, t3, t4, t5, t6, t7, t8⟩ := hx.thaws
    have KW : Hid (Kp z w10 (((((((((w10.setCell ⟨z, 0, none⟩ (.int .i64 0)).setCell ⟨z, 1, none⟩ (.int .i64 0)).setCell ⟨z, 2, none⟩ (.int .i64 0)).setCell ⟨z, 3, none⟩ (.int .i64 0)).setCell ⟨z, 4, none⟩ (.slice none 0 0)).setCell ⟨z, 5, none⟩ (.slice none 0 0)).setCell ⟨z, 6, none⟩ (.slice none 0 0)).setCell ⟨z, 7, none⟩ (.slice none 0 0)).setCell ⟨z, 8, none⟩ (.slice none 0 0))) := put_kp _ _ _ _ _ _ _ _ _ _ _
    have Z11 : Hid (Wx (((((((((w10.setCell ⟨z, 0, none⟩ (.int .i64 0)).setCell ⟨z, 1, none⟩ (.int .i64 0)).setCell ⟨z, 2, none⟩ (.int .i64 0)).setCell ⟨z, 3, none⟩ (.int .i64 0)).setCell ⟨z, 4, none⟩ (.slice none 0 0)).setCell ⟨z, 5, none⟩ (.slice none 0 0)).setCell ⟨z, 6, none⟩ (.slice none 0 0)).setCell ⟨z, 7, none⟩ (.slice none 0 0)).setCell ⟨z, 8, none⟩ (.slice none 0 0)) z (.int .i64 0) (.int .i64 0) (.int .i64 0) (.int .i64 0) (.slice none 0 0) (.slice none 0 0) (.slice none 0 0) (.slice none 0 0) (.slice none 0 0)) := hx.put (.int .i64 0) (.int .i64 0) (.int .i64 0) (.int .i64 0) (.slice none 0 0) (.slice none 0 0) (.slice none 0 0) (.slice none 0 0) (.slice none 0 0)
    go_upto_region 30 with fail
    clear x0 x1 x2 x3 x4 x5 x6 x7 x8 t0 t1 t2 t3 t4 t5 t6 t7 t8 hx
    generalize (((((((((w10.setCell ⟨z, 0, none⟩ (.int .i64 0)).setCell ⟨z, 1, none⟩ (.int .i64 0)).setCell ⟨z, 2, none⟩ (.int .i64 0)).setCell ⟨z, 3, none⟩ (.int .i64 0)).setCell ⟨z, 4, none⟩ (.slice none 0 0)).setCell ⟨z, 5, none⟩ (.slice none 0 0)).setCell ⟨z, 6, none⟩ (.slice none 0 0)).setCell ⟨z, 7, none⟩ (.slice none 0 0)).setCell ⟨z, 8, none⟩ (.slice none 0 0)) = w11 at *
    have W11 : Hid (Wb w w11 wd hg (.slice f1 gs.length g1) (.slice f2 os.length g2) X (.slice p1 X.gs.length q1) (.slice p2 X.os.length q2) (.slice p3 X.gold.length q3) (.slice p4 X.us.length q4) (.slice p5 X.qs.length q5)) := W10.out.kp KW.out SZ.out
    clear KW W10
    go_upto_if 159 with fail
    go_cut [17] (fun v17 V => v17 = .int .i64 fp ∧ Wb w V wd hg (.slice f1 gs.length g1) (.slice f2 os.length g2) X (.slice p1 X.gs.length q1) (.slice p2 X.os.length q2) (.slice p3 X.gold.length q3) (.slice p4 X.us.length q4) (.slice p5 X.qs.length q5) ∧ Wy V z T)
    case first =>
      by_cases h : fp = 0
      · subst h
        simp only [beq_self_eq_true]
        obtain ⟨hrt, hpf⟩ := put_zero FP.out
        have RT : Hid (WRight ks X) := hrt
        obtain ⟨h40, -, -, kn, k, hkd, hkn, hkk, -⟩ := pf_zero hpf
        subst hkd
        have TE : Hid (T = Wd.put ks X pl (kn : Nat) at_) := by rw [← HT.out]; exact placed_ok FP.out
        have NU : Hid (Wd.newUnit ks X pl (kn : Nat) at_ = ⟨X.next, pl, (kn : Nat), at_, k.n0, 0, 0, 0⟩) := by unfold Hid Wd.newUnit; rw [Int.toNat_natCast, hkk]
        have L40 : Hid (X.us.length < 40 ∧ X.next < 1000000) := ⟨by omega, by omega⟩
        obtain ⟨xk, rfl, hxl, hxc⟩ := KC.out (fun e => Nat.not_lt_zero kn (by rw [e] at hkn; exact hkn))
        have HK : Hid (Kc w (xk.add (kn * 11)) k ∧ (xk.add (kn * 11)).block < w.heap.size) := ⟨hxc kn k hkk, by rw [add_block]; exact hxl⟩
        have hki : (kn : Int) < (ks.length : Int) := Int.ofNat_lt.2 hkn
        clear hrt hpf h40 hkn hkk hxl hxc
        obtain ⟨x0, x1, x2, x3, x4, x5, x6, x7, x8⟩ := W11.out.x
        go_wp2_with fail
        refine (rcopy_any _ X w11 (H.out.below W11.out.b) RT.out.len).mono ?_
        rintro e v0 ⟨u, rfl, ho, hb⟩
        clear x0 x1 x2 x3 x4 x5 x6 x7 x8
        have V0 : Hid (Wb w v0 wd hg (.slice f1 gs.length g1) (.slice f2 os.length g2) X (.slice p1 X.gs.length q1) (.slice p2 X.os.length q2) (.slice p3 X.gold.length q3) (.slice p4 X.us.length q4) (.slice p5 X.qs.length q5)) := W11.out.below hb
        have Z0 : Hid (Wx v0 z (.int .i64 0) (.int .i64 0) (.int .i64 0) (.int .i64 0) (.slice none 0 0) (.slice none 0 0) (.slice none 0 0) (.slice none 0 0) (.slice none 0 0)) := Z11.out.below hb Z11.out.lt
        have S0 : Hid (w11.heap.size ≤ v0.heap.size ∧ z < w11.heap.size) := ⟨hb.size, Z11.out.lt⟩
        obtain ⟨v1, v2, v3, v4, v5, rfl, ⟨o1, o2, o3, o4, o5⟩, -, -, d14, -, -, d24, -, d34, -, d45⟩ := ho
        have O0 : Hid (Ow v0 w11.heap.size v1 X.gs ∧ Ow v0 w11.heap.size v2 X.os ∧ Ow v0 w11.heap.size v3 X.gold ∧ Uno v0 w11.heap.size v4 X.us ∧ Jbo v0 w11.heap.size v5 X.qs) := ⟨o1, o2, o3, o4, o5⟩
        have DD : Hid (Dif v1 v4 ∧ Dif v2 v4 ∧ Dif v3 v4 ∧ Dif v5 v4) := ⟨d14, d24, d34, d45.symm⟩
        obtain ⟨c1, e1, rfl⟩ := o1.len
        obtain ⟨c2, e2, rfl⟩ := o2.len
        obtain ⟨c3, e3', rfl⟩ := o3.len
        obtain ⟨c4, e4', rfl⟩ := o4.len
        obtain ⟨c5, e5', rfl⟩ := o5.len
        clear hb o1 o2 o3 o4 o5 d14 d24 d34 d45 Z11 W11
        obtain ⟨x0, x1, x2, x3, x4, x5, x6, x7, x8⟩ := Z0.out.cells
        obtain ⟨t0, t1, t2, t3, t4, t5, t6, t7, t8⟩ := Z0.out.thaws
        have K1 : Hid (Kp z v0 (((((((((v0.setCell ⟨z, 0, none⟩ (.int .i64 X.turn)).setCell ⟨z, 1, none⟩ (.int .i64 X.next)).setCell ⟨z, 2, none⟩ (.int .i64 X.wide)).setCell ⟨z, 3, none⟩ (.int .i64 X.high)).setCell ⟨z, 4, none⟩ (.slice c1 X.gs.length e1)).setCell ⟨z, 5, none⟩ (.slice c2 X.os.length e2)).setCell ⟨z, 6, none⟩ (.slice c3 X.gold.length e3')).setCell ⟨z, 7, none⟩ (.slice c4 X.us.length e4')).setCell ⟨z, 8, none⟩ (.slice c5 X.qs.length e5'))) := put_kp _ _ _ _ _ _ _ _ _ _ _
        have Z1 : Hid (Wx (((((((((v0.setCell ⟨z, 0, none⟩ (.int .i64 X.turn)).setCell ⟨z, 1, none⟩ (.int .i64 X.next)).setCell ⟨z, 2, none⟩ (.int .i64 X.wide)).setCell ⟨z, 3, none⟩ (.int .i64 X.high)).setCell ⟨z, 4, none⟩ (.slice c1 X.gs.length e1)).setCell ⟨z, 5, none⟩ (.slice c2 X.os.length e2)).setCell ⟨z, 6, none⟩ (.slice c3 X.gold.length e3')).setCell ⟨z, 7, none⟩ (.slice c4 X.us.length e4')).setCell ⟨z, 8, none⟩ (.slice c5 X.qs.length e5')) z (.int .i64 X.turn) (.int .i64 X.next) (.int .i64 X.wide) (.int .i64 X.high) (.slice c1 X.gs.length e1) (.slice c2 X.os.length e2) (.slice c3 X.gold.length e3') (.slice c4 X.us.length e4') (.slice c5 X.qs.length e5')) := Z0.out.put (.int .i64 X.turn) (.int .i64 X.next) (.int .i64 X.wide) (.int .i64 X.high) (.slice c1 X.gs.length e1) (.slice c2 X.os.length e2) (.slice c3 X.gold.length e3') (.slice c4 X.us.length e4') (.slice c5 X.qs.length e5')
        go_upto_region 32 with fail
        clear x0 x1 x2 x3 x4 x5 x6 x7 x8 t0 t1 t2 t3 t4 t5 t6 t7 t8
        generalize (((((((((v0.setCell ⟨z, 0, none⟩ (.int .i64 X.turn)).setCell ⟨z, 1, none⟩ (.int .i64 X.next)).setCell ⟨z, 2, none⟩ (.int .i64 X.wide)).setCell ⟨z, 3, none⟩ (.int .i64 X.high)).setCell ⟨z, 4, none⟩ (.slice c1 X.gs.length e1)).setCell ⟨z, 5, none⟩ (.slice c2 X.os.length e2)).setCell ⟨z, 6, none⟩ (.slice c3 X.gold.length e3')).setCell ⟨z, 7, none⟩ (.slice c4 X.us.length e4')).setCell ⟨z, 8, none⟩ (.slice c5 X.qs.length e5')) = v1 at *
        have V1 : Hid (Wb w v1 wd hg (.slice f1 gs.length g1) (.slice f2 os.length g2) X (.slice p1 X.gs.length q1) (.slice p2 X.os.length q2) (.slice p3 X.gold.length q3) (.slice p4 X.us.length q4) (.slice p5 X.qs.length q5)) := V0.out.kp K1.out SZ.out
        have S1 : Hid (w11.heap.size ≤ v1.heap.size ∧ z < w11.heap.size) := ⟨Nat.le_trans S0.out.1 K1.out.size, S0.out.2⟩
        have O1 : Hid (Ow v1 w11.heap.size (.slice c1 X.gs.length e1) X.gs ∧ Ow v1 w11.heap.size (.slice c2 X.os.length e2) X.os ∧ Ow v1 w11.heap.size (.slice c3 X.gold.length e3') X.gold ∧ Uno v1 w11.heap.size (.slice c4 X.us.length e4') X.us ∧ Jbo v1 w11.heap.size (.slice c5 X.qs.length e5') X.qs) :=
          ⟨O0.out.1.kp K1.out S0.out.2, O0.out.2.1.kp K1.out S0.out.2, O0.out.2.2.1.kp K1.out S0.out.2, O0.out.2.2.2.1.kp K1.out S0.out.2, O0.out.2.2.2.2.kp K1.out S0.out.2⟩
        clear K1 V0 Z0 S0 O0
        have CL : Hid (∀ V, Wx V z (.int .i64 X.turn) (.int .i64 X.next) (.int .i64 X.wide) (.int .i64 X.high) (.slice c1 X.gs.length e1) (.slice c2 X.os.length e2) (.slice c3 X.gold.length e3') (.slice c4 X.us.length e4') (.slice c5 X.qs.length e5') → Wb w V wd hg (.slice f1 gs.length g1) (.slice f2 os.length g2) X (.slice p1 X.gs.length q1) (.slice p2 X.os.length q2) (.slice p3 X.gold.length q3) (.slice p4 X.us.length q4) (.slice p5 X.qs.length q5) → V.cell? ⟨z, 7, none⟩ = some (.slice c4 X.us.length e4') ∧ V.cell? ⟨w.heap.size + 1, 1, none⟩ = some (.int .i64 X.next) ∧ V.cell? ⟨(xk.add (kn * 11)).block, (xk.add (kn * 11)).off + 1, none⟩ = some (.int .i64 k.n0)) := fun V hX hB => by
          obtain ⟨-, -, -, -, -, -, -, x7, -⟩ := hX.cells
          exact ⟨x7, hB.x.c1, (HK.out.1.below hB.b HK.out.2).c1⟩
        refine wp_region_two [(true, 0), (true, 1), (true, 2), (true, 3), (true, 4), (true, 5), (true, 6), (true, 7), (true, 8), (true, 9), (true, 10), (true, 11), (true, 12), (false, 13), (false, 14)] [(false, 15), (false, 16)] (fun V => V.cell? ⟨z, 7, none⟩ = some (.slice c4 X.us.length e4') ∧ V.cell? ⟨w.heap.size + 1, 1, none⟩ = some (.int .i64 X.next) ∧ V.cell? ⟨(xk.add (kn * 11)).block, (xk.add (kn * 11)).off + 1, none⟩ = some (.int .i64 k.n0)) (by kernel_rfl) (by kernel_rfl) (by kernel_rfl) (by kernel_rfl) (by kernel_rfl) (CL.out v1.drew Z1.out.drew (V1.out.below (Below.refl _ _).drew)) ?_
        have V2 : Hid (Wb w { v1 with drawn := v1.drawn + 1 } wd hg (.slice f1 gs.length g1) (.slice f2 os.length g2) X (.slice p1 X.gs.length q1) (.slice p2 X.os.length q2) (.slice p3 X.gold.length q3) (.slice p4 X.us.length q4) (.slice p5 X.qs.length q5)) := V1.out.below (Below.refl _ _).drew
        have Z2 : Hid (Wx { v1 with drawn := v1.drawn + 1 } z (.int .i64 X.turn) (.int .i64 X.next) (.int .i64 X.wide) (.int .i64 X.high) (.slice c1 X.gs.length e1) (.slice c2 X.os.length e2) (.slice c3 X.gold.length e3') (.slice c4 X.us.length e4') (.slice c5 X.qs.length e5')) := Z1.out
        have S2 : Hid (w11.heap.size ≤ ({ v1 with drawn := v1.drawn + 1 } : World).heap.size ∧ z < w11.heap.size) := S1.out
        have E2 : Hid (Below v1.heap.size v1 { v1 with drawn := v1.drawn + 1 }) := (Below.refl _ _).drew
        generalize ({ v1 with drawn := v1.drawn + 1 } : World) = v2 at *
        have O2 : Hid (Ow v2 w11.heap.size (.slice c1 X.gs.length e1) X.gs ∧ Ow v2 w11.heap.size (.slice c2 X.os.length e2) X.os ∧ Ow v2 w11.heap.size (.slice c3 X.gold.length e3') X.gold ∧ Uno v2 w11.heap.size (.slice c4 X.us.length e4') X.us ∧ Jbo v2 w11.heap.size (.slice c5 X.qs.length e5') X.qs) :=
          ⟨O1.out.1.below E2.out, O1.out.2.1.below E2.out, O1.out.2.2.1.below E2.out, O1.out.2.2.2.1.below E2.out, O1.out.2.2.2.2.below E2.out⟩
        clear V1 Z1 S1 O1 E2
        refine headT_read rfl (.pointer (some ⟨z, 7, none⟩)) (by go_simp) (fun V hV => by go_simp) ?_
        go_simp
        refine headT_read rfl (.slice c4 X.us.length e4') (by go_simp) (fun V hV => by obtain ⟨f7, f1, fk⟩ := hV; go_simp) ?_
        go_simp
        refine headT_read rfl (.pointer (some ⟨w.heap.size + 1, 1, none⟩)) (by go_simp) (fun V hV => by go_simp) ?_
        go_simp
        refine headT_read rfl (.int .i64 X.next) (by go_simp) (fun V hV => by obtain ⟨f7, f1, fk⟩ := hV; go_simp) ?_
        go_simp
        refine headT_read rfl (.int .i64 pl) (by go_simp) (fun V hV => by go_simp) ?_
        go_simp
        refine headT_read rfl (.int .i64 (kn : Nat)) (by go_simp) (fun V hV => by go_simp) ?_
        go_simp
        refine headT_read rfl (.int .i64 at_) (by go_simp) (fun V hV => by go_simp) ?_
        go_simp
        refine headT_read rfl (.slice (some xk) ks.length qk) (by go_simp) (fun V hV => by go_simp) ?_
        go_simp
        refine headT_read rfl (.int .i64 (kn : Nat)) (by go_simp) (fun V hV => by go_simp) ?_
        go_simp
        refine headT_read rfl (.pointer (some (xk.add (kn * 11)))) (by go_simp) (fun V hV => by go_simp) ?_
        go_simp
        refine headT_read rfl (.pointer (some ⟨(xk.add (kn * 11)).block, (xk.add (kn * 11)).off + 1, none⟩)) (by go_simp) (fun V hV => by go_simp) ?_
        go_simp
        refine headT_read rfl (.int .i64 k.n0) (by go_simp) (fun V hV => by obtain ⟨f7, f1, fk⟩ := hV; go_simp) ?_
        go_simp
        refine headT_read rfl (.agg #[.int .i64 X.next, .int .i64 pl, .int .i64 (kn : Nat), .int .i64 at_, .int .i64 k.n0, .int .i64 0, .int .i64 0, .int .i64 0]) (by go_simp) (fun V hV => by go_simp) ?_
        go_simp
        have BA : Hid (Below v2.heap.size v2 (v2.alloc (.cells #[.int .i64 X.next, .int .i64 pl, .int .i64 (kn : Nat), .int .i64 at_, .int .i64 k.n0, .int .i64 0, .int .i64 0, .int .i64 0] 45))) := (Below.refl _ _).alloc (Nat.le_refl _) _
        have SA : Hid ((v2.alloc (.cells #[.int .i64 X.next, .int .i64 pl, .int .i64 (kn : Nat), .int .i64 at_, .int .i64 k.n0, .int .i64 0, .int .i64 0, .int .i64 0] 45)).heap.size = v2.heap.size + 1) := by unfold Hid; simp
        have UA : Hid (Unc (v2.alloc (.cells #[.int .i64 X.next, .int .i64 pl, .int .i64 (kn : Nat), .int .i64 at_, .int .i64 k.n0, .int .i64 0, .int .i64 0, .int .i64 0] 45)) ⟨v2.heap.size, 0, none⟩ (⟨X.next, pl, (kn : Nat), at_, k.n0, 0, 0, 0⟩ : UnV)) := Unc.mk' (w := v2) (⟨X.next, pl, (kn : Nat), at_, k.n0, 0, 0, 0⟩ : UnV) rfl
        have OA : Hid (Uno (v2.alloc (.cells #[.int .i64 X.next, .int .i64 pl, .int .i64 (kn : Nat), .int .i64 at_, .int .i64 k.n0, .int .i64 0, .int .i64 0, .int .i64 0] 45)) w11.heap.size (.slice c4 X.us.length e4') X.us) := O2.out.2.2.2.1.alloc _
        have XA' : Hid (Wx (v2.alloc (.cells #[.int .i64 X.next, .int .i64 pl, .int .i64 (kn : Nat), .int .i64 at_, .int .i64 k.n0, .int .i64 0, .int .i64 0, .int .i64 0] 45)) z (.int .i64 X.turn) (.int .i64 X.next) (.int .i64 X.wide) (.int .i64 X.high) (.slice c1 X.gs.length e1) (.slice c2 X.os.length e2) (.slice c3 X.gold.length e3') (.slice c4 X.us.length e4') (.slice c5 X.qs.length e5')) := Z2.out.below BA.out Z2.out.lt
        have VA : Hid (Wb w (v2.alloc (.cells #[.int .i64 X.next, .int .i64 pl, .int .i64 (kn : Nat), .int .i64 at_, .int .i64 k.n0, .int .i64 0, .int .i64 0, .int .i64 0] 45)) wd hg (.slice f1 gs.length g1) (.slice f2 os.length g2) X (.slice p1 X.gs.length q1) (.slice p2 X.os.length q2) (.slice p3 X.gold.length q3) (.slice p4 X.us.length q4) (.slice p5 X.qs.length q5)) := V2.out.below BA.out
        refine headT_value rfl (.slice (some ⟨v2.heap.size, 0, none⟩) 1 1) (v2.alloc (.cells #[.int .i64 X.next, .int .i64 pl, .int .i64 (kn : Nat), .int .i64 at_, .int .i64 k.n0, .int .i64 0, .int .i64 0, .int .i64 0] 45)) (by go_simp) (by go_simp) (CL.out _ XA'.out VA.out) ?_
        go_simp
        generalize (v2.alloc (.cells #[.int .i64 X.next, .int .i64 pl, .int .i64 (kn : Nat), .int .i64 at_, .int .i64 k.n0, .int .i64 0, .int .i64 0, .int .i64 0] 45)) = va at *
        obtain ⟨gg, cap, v3, hr, ho3, hg3⟩ := app_unit_run va w11.heap.size (.slice c4 X.us.length e4') X.us (⟨X.next, pl, (kn : Nat), at_, k.n0, 0, 0, 0⟩ : UnV) v2.heap.size OA.out UA.out (by have := L40.out.1; omega) (by have := S2.out.1; have := SA.out; omega)
        have GB : Hid (∀ b, ((.slice c4 X.us.length e4') : Value).ownBlock = some b → w11.heap.size ≤ b) := fun b hb => (OA.out.block b hb).1
        have BG : Hid (Below w11.heap.size va v3) := (Below.refl _ _).grown hg3 (by have := S2.out.1; have := SA.out; omega) (fun b hb => GB.out b hb)
        have ON3 : Hid (Uno v3 w11.heap.size (.slice (some ⟨gg, 0, none⟩) (X.us.length + 1) cap) (X.us ++ [(⟨X.next, pl, (kn : Nat), at_, k.n0, 0, 0, 0⟩ : UnV)])) := ho3
        have Z3' : Hid (Wx v3 z (.int .i64 X.turn) (.int .i64 X.next) (.int .i64 X.wide) (.int .i64 X.high) (.slice c1 X.gs.length e1) (.slice c2 X.os.length e2) (.slice c3 X.gold.length e3') (.slice c4 X.us.length e4') (.slice c5 X.qs.length e5')) := XA'.out.below BG.out S2.out.2
        have V3 : Hid (Wb w v3 wd hg (.slice f1 gs.length g1) (.slice f2 os.length g2) X (.slice p1 X.gs.length q1) (.slice p2 X.os.length q2) (.slice p3 X.gold.length q3) (.slice p4 X.us.length q4) (.slice p5 X.qs.length q5)) := VA.out.low BG.out (by have := S2.out.2; have := SZ.out; omega)
        refine headT_value rfl (.slice (some ⟨gg, 0, none⟩) (X.us.length + 1) cap) v3 (by go_simp) (exec_append _ _ _ _ rfl _ _ (by go_simp) (by go_simp) hr) (CL.out _ Z3'.out V3.out) ?_
        have S3' : Hid (w11.heap.size ≤ v3.heap.size ∧ z < w11.heap.size) := ⟨by have := S2.out.1; have := SA.out; have := BG.out.size; omega, S2.out.2⟩
        have N1 : Hid (Ow v3 w11.heap.size (.slice c1 X.gs.length e1) X.gs ∧ Ow v3 w11.heap.size (.slice c2 X.os.length e2) X.os ∧ Ow v3 w11.heap.size (.slice c3 X.gold.length e3') X.gold ∧ Jbo v3 w11.heap.size (.slice c5 X.qs.length e5') X.qs) :=
          ⟨((O2.out.1).below BA.out).kept hg3 DD.out.1.ne, ((O2.out.2.1).below BA.out).kept hg3 DD.out.2.1.ne, ((O2.out.2.2.1).below BA.out).kept hg3 DD.out.2.2.1.ne, ((O2.out.2.2.2.2).below BA.out).kept hg3 DD.out.2.2.2.ne⟩
        clear hr ho3 hg3 BG GB OA UA XA' BA V2 Z2 S2 O2 CL SA DD VA
        go_simp
        unfold wpHeadT
        refine sched_value rfl (.pointer (some ⟨z, 7, none⟩)) v3 (by go_simp) (by go_simp) trivial ?_
        go_simp
        have K4 : Hid (Kp z v3 (v3.setCell ⟨z, 7, none⟩ (.slice (some ⟨gg, 0, none⟩) (X.us.length + 1) cap))) := Kp.set _ _ _
        have Z4 : Hid (Wx (v3.setCell ⟨z, 7, none⟩ (.slice (some ⟨gg, 0, none⟩) (X.us.length + 1) cap)) z (.int .i64 X.turn) (.int .i64 X.next) (.int .i64 X.wide) (.int .i64 X.high) (.slice c1 X.gs.length e1) (.slice c2 X.os.length e2) (.slice c3 X.gold.length e3') (.slice (some ⟨gg, 0, none⟩) (X.us.length + 1) cap) (.slice c5 X.qs.length e5')) := Z3'.out.set7 _
        have t7 := Z3'.out.thaw 7
        obtain ⟨-, -, -, -, -, -, -, x7, -⟩ := Z3'.out.cells
        refine sched_skip rfl (v3.setCell ⟨z, 7, none⟩ (.slice (some ⟨gg, 0, none⟩) (X.us.length + 1) cap)) (by go_simp) (by go_simp) trivial ?_
        go_simp
        clear t7 x7
        generalize (v3.setCell ⟨z, 7, none⟩ (.slice (some ⟨gg, 0, none⟩) (X.us.length + 1) cap)) = v4 at *
        have V4 : Hid (Wb w v4 wd hg (.slice f1 gs.length g1) (.slice f2 os.length g2) X (.slice p1 X.gs.length q1) (.slice p2 X.os.length q2) (.slice p3 X.gold.length q3) (.slice p4 X.us.length q4) (.slice p5 X.qs.length q5)) := V3.out.kp K4.out SZ.out
        have M4 : Hid (Ow v4 w11.heap.size (.slice c1 X.gs.length e1) X.gs ∧ Ow v4 w11.heap.size (.slice c2 X.os.length e2) X.os ∧ Ow v4 w11.heap.size (.slice c3 X.gold.length e3') X.gold ∧ Uno v4 w11.heap.size (.slice (some ⟨gg, 0, none⟩) (X.us.length + 1) cap) (X.us ++ [(⟨X.next, pl, (kn : Nat), at_, k.n0, 0, 0, 0⟩ : UnV)]) ∧ Jbo v4 w11.heap.size (.slice c5 X.qs.length e5') X.qs) :=
          ⟨N1.out.1.kp K4.out S3'.out.2, N1.out.2.1.kp K4.out S3'.out.2, N1.out.2.2.1.kp K4.out S3'.out.2, ON3.out.kp K4.out S3'.out.2, N1.out.2.2.2.kp K4.out S3'.out.2⟩
        clear K4 V3 N1 ON3 Z3'
        unfold wpSched
        have nb := L40.out.2
        have n1 := next_pos RT.out
        have wn : IntKind.i64.wrap (X.next + 1) = X.next + 1 := by rw [IntKind.wrap_i64]; omega
        have K5 : Hid (Kp z v4 (v4.setCell ⟨z, 1, none⟩ (.int .i64 (X.next + 1)))) := Kp.set _ _ _
        have Z5 : Hid (Wx (v4.setCell ⟨z, 1, none⟩ (.int .i64 (X.next + 1))) z (.int .i64 X.turn) (.int .i64 (X.next + 1)) (.int .i64 X.wide) (.int .i64 X.high) (.slice c1 X.gs.length e1) (.slice c2 X.os.length e2) (.slice c3 X.gold.length e3') (.slice (some ⟨gg, 0, none⟩) (X.us.length + 1) cap) (.slice c5 X.qs.length e5')) := Z4.out.set1 _
        have t1 := Z4.out.thaw 1
        obtain ⟨-, x1, -, -, -, -, -, -, -⟩ := Z4.out.cells
        go_wp2_with fail
        clear t1 x1 wn nb n1
        generalize (v4.setCell ⟨z, 1, none⟩ (.int .i64 (X.next + 1))) = v5 at *
        have V5 : Hid (Wb w v5 wd hg (.slice f1 gs.length g1) (.slice f2 os.length g2) X (.slice p1 X.gs.length q1) (.slice p2 X.os.length q2) (.slice p3 X.gold.length q3) (.slice p4 X.us.length q4) (.slice p5 X.qs.length q5)) := V4.out.kp K5.out SZ.out
        have FIN : Hid (Wy v5 z T) := by
          unfold Hid
          rw [TE.out]
          unfold Wd.put
          rw [NU.out]
          exact ⟨_, _, _, _, _, Z5.out, _, _, _, _, _, rfl, (M4.out.1.kp K5.out S3'.out.2).ro, (M4.out.2.1.kp K5.out S3'.out.2).ro, (M4.out.2.2.1.kp K5.out S3'.out.2).ro, (by have := (M4.out.2.2.2.1.kp K5.out S3'.out.2).l; exact this), (M4.out.2.2.2.2.kp K5.out S3'.out.2).l⟩
        go_meet
        case rel => exact ⟨rfl, V5.out, FIN.out⟩
      · have TE : Hid (T = WV.zero) := by rw [← HT.out]; exact placed_bad (by rw [FP.out]; exact h)
        have hb : (fp == 0) = false := by simpa using h
        go_wp2_with fail
        go_meet
        case rel => exact ⟨rfl, W11.out, by rw [TE.out]; exact ⟨_, _, _, _, _, Z11.out, (zero_wo _ 0).l⟩⟩
    case rest =>
      obtain ⟨rfl, hW, hY⟩ := hcut
      have W12 : Hid (Wb w wc wd hg (.slice f1 gs.length g1) (.slice f2 os.length g2) X (.slice p1 X.gs.length q1) (.slice p2 X.os.length q2) (.slice p3 X.gold.length q3) (.slice p4 X.us.length q4) (.slice p5 X.qs.length q5)) := hW
      have Y12 : Hid (Wy wc z T) := hY
      clear hW hY W11 Z11
      generalize wc = w12 at *
      obtain ⟨x0, x1, x2, x3, x4, x5, x6, x7, x8⟩ := W12.out.x
      go_wp2_with fail
      refine (place_any _ _ ks X pl kd at_ w12 (K.out.1.below W12.out.b) K.out.2 (H.out.below W12.out.b)).mono ?_
      rintro e w13 ⟨u, r2, rfl, hr, ho, hb⟩
      rw [FP.out] at hr
      rw [HT.out] at ho
      have ER : Hid (Er r2 fp) := hr
      have WL : Hid (Wl w13 u T) := ho.l
      obtain ⟨c1, d1, c2, d2, c3, d3, c4, d4, c5, d5, rfl⟩ := wl_shape ho.l
      have W13 : Hid (Wb w w13 wd hg (.slice f1 gs.length g1) (.slice f2 os.length g2) X (.slice p1 X.gs.length q1) (.slice p2 X.os.length q2) (.slice p3 X.gold.length q3) (.slice p4 X.us.length q4) (.slice p5 X.qs.length q5)) := W12.out.below hb
      have Y13 : Hid (Wy w13 z T) := Y12.out.below hb
      clear hb hr ho x0 x1 x2 x3 x4 x5 x6 x7 x8 W12 Y12
      go_upto_region 35 with fail
      have B14 : Hid (Below w13.heap.size w13 (w13.alloc (Obj.cells #[.int .i64 T.turn, .int .i64 T.next, .int .i64 T.wide, .int .i64 T.high, .slice c1 T.gs.length d1, .slice c2 T.os.length d2, .slice c3 T.gold.length d3, .slice c4 T.us.length d4, .slice c5 T.qs.length d5] 29))) := (Below.refl _ _).alloc (Nat.le_refl _) _
      have V14 : Hid (Bw (w13.alloc (Obj.cells #[.int .i64 T.turn, .int .i64 T.next, .int .i64 T.wide, .int .i64 T.high, .slice c1 T.gs.length d1, .slice c2 T.os.length d2, .slice c3 T.gold.length d3, .slice c4 T.us.length d4, .slice c5 T.qs.length d5] 29)) w13.heap.size T (.slice c1 T.gs.length d1) (.slice c2 T.os.length d2) (.slice c3 T.gold.length d3) (.slice c4 T.us.length d4) (.slice c5 T.qs.length d5)) := Bw.mk' T _ _ _ _ _ rfl
      generalize (w13.alloc (Obj.cells #[.int .i64 T.turn, .int .i64 T.next, .int .i64 T.wide, .int .i64 T.high, .slice c1 T.gs.length d1, .slice c2 T.os.length d2, .slice c3 T.gold.length d3, .slice c4 T.us.length d4, .slice c5 T.qs.length d5] 29)) = w14 at *
      have W14 : Hid (Wb w w14 wd hg (.slice f1 gs.length g1) (.slice f2 os.length g2) X (.slice p1 X.gs.length q1) (.slice p2 X.os.length q2) (.slice p3 X.gold.length q3) (.slice p4 X.us.length q4) (.slice p5 X.qs.length q5)) := W13.out.below B14.out
      have Y14 : Hid (Wy w14 z T) := Y13.out.below B14.out
      have L14 : Hid (Wl w14 (.agg #[.int .i64 T.turn, .int .i64 T.next, .int .i64 T.wide, .int .i64 T.high, .slice c1 T.gs.length d1, .slice c2 T.os.length d2, .slice c3 T.gold.length d3, .slice c4 T.us.length d4, .slice c5 T.qs.length d5]) T) := WL.out.below B14.out
      clear W13 Y13 WL B14
      go_wp2_with fail
      refine (er_same _ _ w14 ER.out (HG.out.below W14.out.b)).mono ?_
      rintro e w15 ⟨rfl, hb⟩
      have W15 : Hid (Wb w w15 wd hg (.slice f1 gs.length g1) (.slice f2 os.length g2) X (.slice p1 X.gs.length q1) (.slice p2 X.os.length q2) (.slice p3 X.gold.length q3) (.slice p4 X.us.length q4) (.slice p5 X.qs.length q5)) := W14.out.below hb
      have Y15 : Hid (Wy w15 z T) := Y14.out.below hb
      have L15 : Hid (Wl w15 (.agg #[.int .i64 T.turn, .int .i64 T.next, .int .i64 T.wide, .int .i64 T.high, .slice c1 T.gs.length d1, .slice c2 T.os.length d2, .slice c3 T.gold.length d3, .slice c4 T.us.length d4, .slice c5 T.qs.length d5]) T) := L14.out.below hb
      obtain ⟨x0, x1, x2, x3, x4, x5, x6, x7, x8⟩ := V14.out.below hb V14.out.lt
      obtain ⟨v1, v2, v3, v4, v5, hx, hl⟩ := Y15.out
      have LY : Hid (Wl w15 (.agg #[.int .i64 T.turn, .int .i64 T.next, .int .i64 T.wide, .int .i64 T.high, v1, v2, v3, v4, v5]) T) := hl
      obtain ⟨t0, t1, t2, t3, t4, t5, t6, t7, t8⟩ := hx.cells
      clear hb W14 Y14 L14 V14 hx hl
      go_wp2_with fail
      refine (worlds_like _ _ T w15 L15.out LY.out).mono ?_
      rintro e w16 ⟨rfl, hb⟩
      have W16 : Hid (Wb w w16 wd hg (.slice f1 gs.length g1) (.slice f2 os.length g2) X (.slice p1 X.gs.length q1) (.slice p2 X.os.length q2) (.slice p3 X.gold.length q3) (.slice p4 X.us.length q4) (.slice p5 X.qs.length q5)) := W15.out.below hb
      clear hb x0 x1 x2 x3 x4 x5 x6 x7 x8 t0 t1 t2 t3 t4 t5 t6 t7 t8
      go_wp2
      go_ret
      exact ⟨rfl, W16.out.b⟩

theorem walk (vk : Value) (ks : List KV) (vf : Value) (wd hg : Int) (gs os : List Int) (pls gold : Int) (vw : Value) (X : WV) (pl kd at_ : Int) (w : World)     (h0 : Kl w vk ks ∧ ∀ k ∈ ks, k.b.size ≤ maxLen) (h1 : Fl w vf wd hg gs os) (h2 : (Lit.int .i64 pls).wf = true) (h3 : (Lit.int .i64 gold).wf = true) (h4 : Wl w vw X ∧ ∀ n ∈ Wd.nums X, Wd.In64 n) (h5 : (Lit.int .i64 pl).wf = true) (h6 : (Lit.int .i64 kd).wf = true) (h7 : (Lit.int .i64 at_).wf = true) (hg0 : Et w) :
    Calls Tryd.prog 3 #[vk, vf, .int .i64 pls, .int .i64 gold, vw, .int .i64 pl, .int .i64 kd, .int .i64 at_] w fun e w' => e = .returned (.bool true) ∧ Below w.heap.size w w' :=
  partA.2 ⟨partB.2 ⟨partC⟩⟩ vk ks vf wd hg gs os pls gold vw X pl kd at_ w h0 h1 h2 h3 h4 h5 h6 h7 hg0
end Go.Proofs.YtaicnhkobhdehaaDoor.worldBegins

