/- What marchsame.Field answers of two fields that are the same. · What marchsame.World answers of two worlds that are the same. · How great what came in is; a byte. · What a walk is told of worlds and bytes that came in. · How long the lists of a world are that came in. · What a walk is told of kinds that came in. · What a walk is told of records api.Order that came in. · What a walk is told of lists of lists of orders that came in; a part of such a list. · TurnPlays: the walk. · The package variable of the four sides, as it is laid. -/
import Derived.Test.YteieikgkmfglaaaGreatDoorZTurnPlays2
import Derived.Test.YteieikgkmfglaaaGreatDoorZTurnPlays34
import Derived.Test.YteieikgkmfglaaaGreatDoorZTurnPlays1
import Derived.Deep.SlicePairs
import Derived.ChangeArms
import Derived.ProofKit
import Derived.OpenShut
import Derived.Test.YteieikgkmfglaaaGreatDoorZTurnPlays33
import Derived.Maps.OwnSet
import Derived.Test.YteieikgkmfglaaaGreatDoorZTurnPlays4
import Derived.Test.YteieikgkmfglaaaGreatDoorZTurnPlays7
import Derived.Deep.CutBlock
import Derived.Test.YteieikgkmfglaaaGreatDoorZTurnPlays9
import Derived.ChangeSame
import Derived.FnData
import Derived.LaidLaws
namespace Go.Proofs.YteieikgkmfglaaaGreatDoor
open Go.RowKit
set_option linter.unusedVariables false

set_option maxHeartbeats 1000000 in
theorem same_field (u v : Value) (W H : Int) (gs os : List Int) (w : World) (hu : Fl w u W H gs os) (hv : Fl w v W H gs os) :
    Calls Tryz.prog 36 #[u, v] w fun e w' => e = .returned (.bool true) ∧ Below w.heap.size w w' := by
  obtain ⟨a1, a2, rfl, ha1, ha2⟩ := hu
  obtain ⟨b1, b2, rfl, hb1, hb2⟩ := hv
  have A1 : Hid (Ro w a1 gs) := ha1
  have A2 : Hid (Ro w a2 os) := ha2
  have B1 : Hid (Ro w b1 gs) := hb1
  have B2 : Hid (Ro w b2 os) := hb2
  clear ha1 ha2 hb1 hb2
  go_enter Tryz.func36, Tryz.ntmps36
  go_wp2_with fail
  have K0 : Below w.heap.size w ((w.alloc (Obj.cells #[.int .i64 W, .int .i64 H, a1, a2] 25)).alloc (Obj.cells #[.int .i64 W, .int .i64 H, b1, b2] 25)) := ((Below.refl _ _).alloc (Nat.le_refl _) _).alloc (by simp) _
  have X0 := (Bf.mk' (w := w) W H a1 a2 rfl).below ((Below.refl _ _).alloc (Nat.le_refl _) (Obj.cells #[.int .i64 W, .int .i64 H, b1, b2] 25)) (by simp)
  have Y0 := Bf.mk' (w := w.alloc (Obj.cells #[.int .i64 W, .int .i64 H, a1, a2] 25)) (z := w.heap.size + 1) W H b1 b2 (by simp)
  generalize (w.alloc (Obj.cells #[.int .i64 W, .int .i64 H, a1, a2] 25)).alloc (Obj.cells #[.int .i64 W, .int .i64 H, b1, b2] 25) = w0 at *
  refine (ints_any _ _ gs gs _ (A1.out.below K0) (B1.out.below K0)).mono ?_
  rintro e w1 ⟨rfl, q1, hq1⟩
  rw [decide_eq_true rfl]
  have k1 : Below w0.heap.size w0 w1 := by rw [hq1]; exact _root_.Go.below_drewN (Below.refl _ _) _
  have K1 : Below w.heap.size w w1 := K0.trans (k1.mono K0.size)
  have X1 : Hid (Bf w1 w.heap.size W H a1 a2) := X0.below k1 X0.lt
  have Y1 : Hid (Bf w1 (w.heap.size + 1) W H b1 b2) := Y0.below k1 Y0.lt
  clear hq1 k1 X0 Y0 K0
  obtain ⟨x0, x1, x2, x3⟩ := X1.out
  obtain ⟨y0, y1, y2, y3⟩ := Y1.out
  have K1' : Hid (Below w.heap.size w w1) := K1
  clear K1
  go_wp2_with fail
  refine (ints_any _ _ os os _ (A2.out.below K1'.out) (B2.out.below K1'.out)).mono ?_
  rintro e w2 ⟨rfl, q2, hq2⟩
  rw [decide_eq_true rfl]
  have k2 : Below w1.heap.size w1 w2 := by rw [hq2]; exact _root_.Go.below_drewN (Below.refl _ _) _
  have K2 : Hid (Below w.heap.size w w2) := K1'.out.trans (k2.mono K1'.out.size)
  have X2 : Hid (Bf w2 w.heap.size W H a1 a2) := X1.out.below k2 X1.out.lt
  have Y2 : Hid (Bf w2 (w.heap.size + 1) W H b1 b2) := Y1.out.below k2 Y1.out.lt
  clear hq2 k2 x0 x1 x2 x3 y0 y1 y2 y3 X1 Y1 K1'
  obtain ⟨x0, x1, x2, x3⟩ := X2.out
  obtain ⟨y0, y1, y2, y3⟩ := Y2.out
  go_wp2
  go_ret
  exact ⟨rfl, K2⟩
end Go.Proofs.YteieikgkmfglaaaGreatDoor

namespace Go.Proofs.YteieikgkmfglaaaGreatDoor
open Go.RowKit
set_option linter.unusedVariables false

theorem ints_like (u v : Value) (xs : List Int) (w : World) (hu : Ro w u xs) (hv : Ro w v xs) :
    Calls Tryz.prog 20 #[u, v] w fun e w' => e = .returned (.bool true) ∧ Below w.heap.size w w' :=
  (ints_any u v xs xs w hu hv).mono fun e w' ⟨h1, q, h2⟩ => ⟨by rw [h1, decide_eq_true rfl], by rw [h2]; exact _root_.Go.below_drewN (Below.refl _ _) _⟩
set_option maxRecDepth 100000 in
set_option maxHeartbeats 4000000 in
theorem worlds_like (u v : Value) (W : WV) (w : World) (hu : Wl w u W) (hv : Wl w v W) :
    Calls Tryz.prog 11 #[u, v] w fun e w' => e = .returned (.bool true) ∧ Below w.heap.size w w' := by
  obtain ⟨u1, u2, u3, u4, u5, rfl, g1, g2, g3, g4, g5⟩ := hu
  obtain ⟨v1, v2, v3, v4, v5, rfl, k1, k2, k3, k4, k5⟩ := hv
  obtain ⟨a4, c4, rfl, gl4, gc4, ga4⟩ := g4
  obtain ⟨b4, d4, rfl, kl4, kc4, ka4⟩ := k4
  obtain ⟨a5, c5, rfl, gl5, gc5, ga5⟩ := g5
  obtain ⟨b5, d5, rfl, kl5, kc5, ka5⟩ := k5
  have R : Hid (Ro w u1 W.gs ∧ Ro w u2 W.os ∧ Ro w u3 W.gold ∧ Ro w v1 W.gs ∧ Ro w v2 W.os ∧ Ro w v3 W.gold) := ⟨g1, g2, g3, k1, k2, k3⟩
  have GU : Hid (W.us ≠ [] → ∃ x, a4 = some x ∧ x.block < w.heap.size ∧ ∀ (i : Nat) k, W.us[i]? = some k → Unc w (x.add (i * 8)) k) := ga4
  have KU : Hid (W.us ≠ [] → ∃ x, b4 = some x ∧ x.block < w.heap.size ∧ ∀ (i : Nat) k, W.us[i]? = some k → Unc w (x.add (i * 8)) k) := ka4
  have GJ : Hid (W.qs ≠ [] → ∃ x, a5 = some x ∧ x.block < w.heap.size ∧ ∀ (i : Nat) k, W.qs[i]? = some k → Jbc w (x.add (i * 4)) k) := ga5
  have KJ : Hid (W.qs ≠ [] → ∃ x, b5 = some x ∧ x.block < w.heap.size ∧ ∀ (i : Nat) k, W.qs[i]? = some k → Jbc w (x.add (i * 4)) k) := ka5
  have hul : W.us.length ≤ 9223372036854775807 := by omega
  have hql : W.qs.length ≤ 9223372036854775807 := by omega
  clear g1 g2 g3 k1 k2 k3 ga4 ka4 ga5 ka5 gl4 gc4 kl4 kc4 gl5 gc5 kl5 kc5
  go_enter Tryz.func11, Tryz.ntmps11
  go_wp2_with fail
  have K0 : Below w.heap.size w ((w.alloc (Obj.cells #[.int .i64 W.turn, .int .i64 W.next, .int .i64 W.wide, .int .i64 W.high, u1, u2, u3, .slice a4 W.us.length c4, .slice a5 W.qs.length c5] 29)).alloc (Obj.cells #[.int .i64 W.turn, .int .i64 W.next, .int .i64 W.wide, .int .i64 W.high, v1, v2, v3, .slice b4 W.us.length d4, .slice b5 W.qs.length d5] 29)) := ((Below.refl _ _).alloc (Nat.le_refl _) _).alloc (by simp) _
  have X0 := (Bw.mk' (w := w) W u1 u2 u3 (.slice a4 W.us.length c4) (.slice a5 W.qs.length c5) rfl).below ((Below.refl _ _).alloc (Nat.le_refl _) (Obj.cells #[.int .i64 W.turn, .int .i64 W.next, .int .i64 W.wide, .int .i64 W.high, v1, v2, v3, .slice b4 W.us.length d4, .slice b5 W.qs.length d5] 29)) (by simp)
  have Y0 := Bw.mk' (w := w.alloc (Obj.cells #[.int .i64 W.turn, .int .i64 W.next, .int .i64 W.wide, .int .i64 W.high, u1, u2, u3, .slice a4 W.us.length c4, .slice a5 W.qs.length c5] 29)) (z := w.heap.size + 1) W v1 v2 v3 (.slice b4 W.us.length d4) (.slice b5 W.qs.length d5) (by simp)
  generalize ((w.alloc (Obj.cells #[.int .i64 W.turn, .int .i64 W.next, .int .i64 W.wide, .int .i64 W.high, u1, u2, u3, .slice a4 W.us.length c4, .slice a5 W.qs.length c5] 29)).alloc (Obj.cells #[.int .i64 W.turn, .int .i64 W.next, .int .i64 W.wide, .int .i64 W.high, v1, v2, v3, .slice b4 W.us.length d4, .slice b5 W.qs.length d5] 29)) = w0 at *
  refine (same_field _ _ W.wide W.high W.gs W.os w0 ⟨_, _, rfl, R.out.1.below K0, R.out.2.1.below K0⟩ ⟨_, _, rfl, R.out.2.2.2.1.below K0, R.out.2.2.2.2.1.below K0⟩).mono ?_
  rintro e w1 ⟨rfl, hb1⟩
  have K1 : Hid (Below w.heap.size w w1) := K0.trans (hb1.mono K0.size)
  have X1 : Hid (Bw w1 w.heap.size W u1 u2 u3 (.slice a4 W.us.length c4) (.slice a5 W.qs.length c5)) := X0.below hb1 X0.lt
  have Y1 : Hid (Bw w1 (w.heap.size + 1) W v1 v2 v3 (.slice b4 W.us.length d4) (.slice b5 W.qs.length d5)) := Y0.below hb1 Y0.lt
  clear K0 X0 Y0 hb1
  obtain ⟨x0, x1, x2, x3, x4, x5, x6, x7, x8⟩ := X1.out
  obtain ⟨y0, y1, y2, y3, y4, y5, y6, y7, y8⟩ := Y1.out
  go_wp2_with fail
  refine (ints_like _ _ W.gold w1 (R.out.2.2.1.below K1.out) (R.out.2.2.2.2.2.below K1.out)).mono ?_
  rintro e w2 ⟨rfl, hb2⟩
  have K2' : Hid (Below w.heap.size w w2) := K1.out.trans (hb2.mono K1.out.size)
  have X2 : Hid (Bw w2 w.heap.size W u1 u2 u3 (.slice a4 W.us.length c4) (.slice a5 W.qs.length c5)) := X1.out.below hb2 X1.out.lt
  have Y2 : Hid (Bw w2 (w.heap.size + 1) W v1 v2 v3 (.slice b4 W.us.length d4) (.slice b5 W.qs.length d5)) := Y1.out.below hb2 Y1.out.lt
  clear hb2 x0 x1 x2 x3 x4 x5 x6 x7 x8 y0 y1 y2 y3 y4 y5 y6 y7 y8 X1 Y1 K1
  obtain ⟨x0, x1, x2, x3, x4, x5, x6, x7, x8⟩ := X2.out
  obtain ⟨y0, y1, y2, y3, y4, y5, y6, y7, y8⟩ := Y2.out
  go_wp2
  clear x0 x1 x2 x3 x4 x5 x6 x7 x8 y0 y1 y2 y3 y4 y5 y6 y7 y8
  go_loopw [7] (fun i W' => ∃ k : Nat, k ≤ W.us.length ∧ i = .int .i64 (k : Nat) ∧ Bw W' w.heap.size W u1 u2 u3 (.slice a4 W.us.length c4) (.slice a5 W.qs.length c5) ∧ Bw W' (w.heap.size + 1) W v1 v2 v3 (.slice b4 W.us.length d4) (.slice b5 W.qs.length d5) ∧ Below w.heap.size w W') (fun i _ => W.us.length - (intOf i).toNat)
  case atStart => exact ⟨0, Nat.zero_le _, rfl, X2.out, Y2.out, K2'.out⟩
  case round =>
    obtain ⟨k, hk, rfl, hX, hY, hB⟩ := hrel
    have XB : Hid (Bw wr w.heap.size W u1 u2 u3 (.slice a4 W.us.length c4) (.slice a5 W.qs.length c5)) := hX
    have YB : Hid (Bw wr (w.heap.size + 1) W v1 v2 v3 (.slice b4 W.us.length d4) (.slice b5 W.qs.length d5)) := hY
    have B : Hid (Below w.heap.size w wr) := hB
    clear hX hY hB X2 Y2 K2'
    by_cases h0 : k = W.us.length
    · subst h0
      have x7 := XB.out.c7
      clear hk
      go_wp2
      clear x7
      go_loopw [8] (fun i W' => ∃ k : Nat, k ≤ W.qs.length ∧ i = .int .i64 (k : Nat) ∧ Bw W' w.heap.size W u1 u2 u3 (.slice a4 W.us.length c4) (.slice a5 W.qs.length c5) ∧ Bw W' (w.heap.size + 1) W v1 v2 v3 (.slice b4 W.us.length d4) (.slice b5 W.qs.length d5) ∧ Below w.heap.size w W') (fun i _ => W.qs.length - (intOf i).toNat)
      case atStart => exact ⟨0, Nat.zero_le _, rfl, XB.out, YB.out, B.out⟩
      case round =>
        obtain ⟨k, hk, rfl, hX, hY, hB⟩ := hrel
        have XB : Hid (Bw wr w.heap.size W u1 u2 u3 (.slice a4 W.us.length c4) (.slice a5 W.qs.length c5)) := hX
        have YB : Hid (Bw wr (w.heap.size + 1) W v1 v2 v3 (.slice b4 W.us.length d4) (.slice b5 W.qs.length d5)) := hY
        have B : Hid (Below w.heap.size w wr) := hB
        clear hX hY hB
        by_cases h0 : k = W.qs.length
        · subst h0
          have x8 := XB.out.c8
          clear hk
          go_wp2
          go_ret
          exact ⟨rfl, B.out⟩
        · have hlt : k < W.qs.length := by omega
          have hlti : ((k : Nat) : Int) < (W.qs.length : Nat) := by omega
          obtain ⟨o, ho⟩ : ∃ o, W.qs[k]? = some o := ⟨_, List.getElem?_eq_getElem hlt⟩
          have hne : W.qs ≠ [] := by intro e; rw [e] at hlt; simp at hlt
          obtain ⟨x, rfl, hx, hxc⟩ := GJ.out hne
          obtain ⟨y, rfl, hy, hyc⟩ := KJ.out hne
          obtain ⟨q0, q1, q2, q3⟩ := (hxc k o ho).below B.out (by rw [add_block]; exact hx)
          obtain ⟨r0, r1, r2, r3⟩ := (hyc k o ho).below B.out (by rw [add_block]; exact hy)
          have x8 := XB.out.c8
          have y8 := YB.out.c8
          clear hxc hyc hne ho hx hy
          go_wp2
          go_quiet (fail)
          go_wp2
          go_round
          case rel => exact ⟨k + 1, by omega, by go_num, XB.out.below (_root_.Go.below_drewN (Below.refl _ _) _) XB.out.lt, YB.out.below (_root_.Go.below_drewN (Below.refl _ _) _) YB.out.lt, _root_.Go.below_drewN B.out _⟩
          case measure => simp [intOf]; omega
    · have hlt : k < W.us.length := by omega
      have hlti : ((k : Nat) : Int) < (W.us.length : Nat) := by omega
      obtain ⟨o, ho⟩ : ∃ o, W.us[k]? = some o := ⟨_, List.getElem?_eq_getElem hlt⟩
      have hne : W.us ≠ [] := by intro e; rw [e] at hlt; simp at hlt
      obtain ⟨x, rfl, hx, hxc⟩ := GU.out hne
      obtain ⟨y, rfl, hy, hyc⟩ := KU.out hne
      obtain ⟨q0, q1, q2, q3, q4, q5, q6, q7⟩ := (hxc k o ho).below B.out (by rw [add_block]; exact hx)
      obtain ⟨r0, r1, r2, r3, r4, r5, r6, r7⟩ := (hyc k o ho).below B.out (by rw [add_block]; exact hy)
      have x7 := XB.out.c7
      have y7 := YB.out.c7
      clear hxc hyc hne ho hx hy
      go_wp2
      go_quiet (fail)
      go_wp2
      go_round
      case rel => exact ⟨k + 1, by omega, by go_num, XB.out.below (_root_.Go.below_drewN (Below.refl _ _) _) XB.out.lt, YB.out.below (_root_.Go.below_drewN (Below.refl _ _) _) YB.out.lt, _root_.Go.below_drewN B.out _⟩
      case measure => simp [intOf]; omega
end Go.Proofs.YteieikgkmfglaaaGreatDoor

namespace Go.Proofs.YteieikgkmfglaaaGreatDoor
open Go.ChangeShapes Go.WideShapes Go.ChangeAt Go.RowKit
set_option linter.unusedVariables false

theorem byte_of_wf {n : Int} (h : (Lit.int .u8 n).wf = true) : 0 ≤ n ∧ n < 256 := by
  simp only [Lit.wf, Bool.and_eq_true, decide_eq_true_eq] at h
  have h1 : IntKind.u8.min = 0 := by decide
  have h2 : IntKind.u8.max = 255 := by decide
  omega
theorem bulk_pos {H : Type} : ∀ d : DataW H, 1 ≤ Rows.uptoBulk d
  | .lit (.string bytes) => by simp [Rows.uptoBulk]
  | .lit (.int _ _) => by simp [Rows.uptoBulk]
  | .lit (.bool _) => by simp [Rows.uptoBulk]
  | .lit (.float .f32 _) => by simp [Rows.uptoBulk]
  | .lit (.float .f64 _) => by simp [Rows.uptoBulk]
  | .lit .nil => by simp [Rows.uptoBulk]
  | .nil => by simp [Rows.uptoBulk]
  | .ptr d => by simp [Rows.uptoBulk]
  | .slice _ _ => by simp [Rows.uptoBulk]
  | .agg _ => by simp [Rows.uptoBulk]
  | .iface _ _ => by simp [Rows.uptoBulk]
  | .map _ => by simp [Rows.uptoBulk]
  | .held _ => by simp [Rows.uptoBulk]
theorem bulk_len {H : Type} : ∀ ds : List (DataW H), ds.length ≤ Rows.uptoBulkAll ds
  | [] => by simp
  | d :: ds => by
    have h1 := bulk_pos d
    have h2 := bulk_len ds
    simp only [Rows.uptoBulkAll, List.length_cons]
    omega
theorem bulk_slice {H : Type} (es sp : List (DataW H)) : es.length ≤ Rows.uptoBulk (.slice es sp) := by
  have := bulk_len es
  simp only [Rows.uptoBulk]
  omega
end Go.Proofs.YteieikgkmfglaaaGreatDoor

namespace Go.Proofs.YteieikgkmfglaaaGreatDoor
open Go.ChangeShapes Go.WideShapes Go.ChangeAt Go.RowKit
set_option linter.unusedVariables false

theorem in64_of_wf {n : Int} (h : (Lit.int .i64 n).wf = true) : Wd.In64 n := by
  unfold Wd.In64
  simp only [Lit.wf, Bool.and_eq_true, decide_eq_true_eq] at h
  have h1 : IntKind.i64.min = -9223372036854775808 := by decide
  have h2 : IntKind.i64.max = 9223372036854775807 := by decide
  omega
set_option maxRecDepth 100000 in
theorem open_row64 {H : Type} {enc : TypeId × Value → H} {W : World} {base : Nat} {held : Bool} {fuel : Nat} {v : Value} {y : DataW H × List MemPlace} (h : DataW.trod enc Tryz.prog W base (fun _ => true) held fuel 23 [v] = some y) :
    ∃ zs, Ro W v zs ∧ (∀ n ∈ zs, Wd.In64 n) ∧ zs.length ≤ Rows.uptoBulk y.1 := by
  rcases open_ints Tryz.underlying23 Tryz.underlying3 (by kernel_rfl) h with ⟨hcs, rfl⟩ | ⟨x, l, c, zs, hcs, _, hl, hm, hz, rfl, hcell, hwz⟩
  · simp at hcs
    subst hcs
    exact ⟨_, IsRow.ro (.inl ⟨rfl, rfl, rfl, rfl⟩), by simp, by simp⟩
  · simp at hcs
    subst hcs
    refine ⟨_, IsRow.ro (zs := zs) (.inr ⟨_, rfl, hl, hm, by simpa using hz, hcell, hwz⟩), fun n hn => in64_of_wf (hwz n (List.mem_of_mem_take hn)), ?_⟩
    have := bulk_slice (H := H) (lits .i64 (zs.take l)) (lits .i64 (zs.drop l))
    simpa [lits] using this
theorem un_flds : ∃ f0 f1 f2 f3 f4 f5 f6 f7 : Field, Tryz.prog.underlying 44 = some (.struct #[f0, f1, f2, f3, f4, f5, f6, f7]) ∧ f0.offset = 0 ∧ f0.type = 3 ∧ f1.offset = 1 ∧ f1.type = 3 ∧ f2.offset = 2 ∧ f2.type = 3 ∧ f3.offset = 3 ∧ f3.type = 3 ∧ f4.offset = 4 ∧ f4.type = 3 ∧ f5.offset = 5 ∧ f5.type = 3 ∧ f6.offset = 6 ∧ f6.type = 3 ∧ f7.offset = 7 ∧ f7.type = 3 := ⟨_, _, _, _, _, _, _, _, Tryz.underlying44, rfl, rfl, rfl, rfl, rfl, rfl, rfl, rfl, rfl, rfl, rfl, rfl, rfl, rfl, rfl, rfl⟩
set_option maxRecDepth 100000 in
theorem open_un64 {H : Type} {enc : TypeId × Value → H} {W : World} {base : Nat} {held : Bool} {fuel : Nat} {cs : List Value} {y : DataW H × List MemPlace} (h : DataW.trod enc Tryz.prog W base (fun _ => true) held fuel 44 cs = some y) :
    ∃ k : UnV, cs = [.int .i64 k.id, .int .i64 k.player, .int .i64 k.kind, .int .i64 k.at_, .int .i64 k.life, .int .i64 k.load, .int .i64 k.task, .int .i64 k.goal] ∧ ∀ n ∈ Wd.unums k, Wd.In64 n := by
  obtain ⟨f0, f1, f2, f3, f4, f5, f6, f7, he, o0, t0, o1, t1, o2, t2, o3, t3, o4, t4, o5, t5, o6, t6, o7, t7⟩ := un_flds
  obtain ⟨xs, m, -, -, hlen, hxl, hf⟩ := DataW.trod_struct he h
  have csi : Tryz.prog.cellsOf 3 = 1 := by kernel_rfl
  have csk : Tryz.prog.cellsOf 44 = 8 := by kernel_rfl
  rw [csk] at hlen
  match cs, hlen with
  | [v0, v1, v2, v3, v4, v5, v6, v7], _ =>
    have hx : xs.length = 8 := hxl
    match xs, hx with
    | [x0, x1, x2, x3, x4, x5, x6, x7], _ =>
      have g0 := hf 0 f0 rfl
      rw [o0, t0, csi] at g0
      have g1 := hf 1 f1 rfl
      rw [o1, t1, csi] at g1
      have g2 := hf 2 f2 rfl
      rw [o2, t2, csi] at g2
      have g3 := hf 3 f3 rfl
      rw [o3, t3, csi] at g3
      have g4 := hf 4 f4 rfl
      rw [o4, t4, csi] at g4
      have g5 := hf 5 f5 rfl
      rw [o5, t5, csi] at g5
      have g6 := hf 6 f6 rfl
      rw [o6, t6, csi] at g6
      have g7 := hf 7 f7 rfl
      rw [o7, t7, csi] at g7
      obtain ⟨m0, e0, -, w0⟩ := DataW.trod_int Tryz.underlying3 g0
      obtain ⟨m1, e1, -, w1⟩ := DataW.trod_int Tryz.underlying3 g1
      obtain ⟨m2, e2, -, w2⟩ := DataW.trod_int Tryz.underlying3 g2
      obtain ⟨m3, e3, -, w3⟩ := DataW.trod_int Tryz.underlying3 g3
      obtain ⟨m4, e4, -, w4⟩ := DataW.trod_int Tryz.underlying3 g4
      obtain ⟨m5, e5, -, w5⟩ := DataW.trod_int Tryz.underlying3 g5
      obtain ⟨m6, e6, -, w6⟩ := DataW.trod_int Tryz.underlying3 g6
      obtain ⟨m7, e7, -, w7⟩ := DataW.trod_int Tryz.underlying3 g7
      simp at e0 e1 e2 e3 e4 e5 e6 e7
      subst e0 e1 e2 e3 e4 e5 e6 e7
      refine ⟨⟨m0, m1, m2, m3, m4, m5, m6, m7⟩, rfl, ?_⟩
      intro n hn
      simp only [Wd.unums, List.mem_cons, List.not_mem_nil, or_false] at hn
      rcases hn with rfl | rfl | rfl | rfl | rfl | rfl | rfl | rfl
      · exact in64_of_wf w0
      · exact in64_of_wf w1
      · exact in64_of_wf w2
      · exact in64_of_wf w3
      · exact in64_of_wf w4
      · exact in64_of_wf w5
      · exact in64_of_wf w6
      · exact in64_of_wf w7
theorem open_uns64 {H : Type} {enc : TypeId × Value → H} {W : World} {base : Nat} {held : Bool} {fuel : Nat} {v : Value} {y : DataW H × List MemPlace} (h : DataW.trod enc Tryz.prog W base (fun _ => true) held fuel 26 [v] = some y) :
    ∃ ks : List UnV, Unl W v ks ∧ (∀ k ∈ ks, ∀ n ∈ Wd.unums k, Wd.In64 n) ∧ ks.length ≤ Rows.uptoBulk y.1 := by
  have csk : Tryz.prog.cellsOf 44 = 8 := by kernel_rfl
  rcases Go.Deep.open_slice Tryz.underlying26 h with ⟨hcs, -⟩ | ⟨a, len, cap, m, q, D, Pl, hcs, hb, hl, hm, hmm, rfl, hx⟩
  · simp at hcs
    subst hcs
    exact ⟨[], ⟨none, 0, rfl, Nat.le_refl _, by omega, fun h => absurd rfl h⟩, by simp, by simp⟩
  · simp at hcs
    subst hcs
    have hlm : len ≤ m := by rw [hmm]; simp; exact hl
    have each : ∀ i, i < len → ∃ k : UnV, Unc W (a.add (i * 8)) k ∧ (∀ n ∈ Wd.unums k, Wd.In64 n) := by
      intro i hi
      obtain ⟨cs', h1, h2⟩ := hx i (by omega)
      obtain ⟨k, rfl, hk⟩ := open_un64 h2
      rw [csk] at h1
      obtain ⟨-, -, hcell⟩ := World.cells?_some h1
      refine ⟨k, ?_, hk⟩
      generalize a.add (i * 8) = y at *
      exact ⟨hcell 0 (by decide), hcell 1 (by decide), hcell 2 (by decide), hcell 3 (by decide), hcell 4 (by decide), hcell 5 (by decide), hcell 6 (by decide), hcell 7 (by decide)⟩
    have inh : Inhabited UnV := ⟨⟨0, 0, 0, 0, 0, 0, 0, 0⟩⟩
    obtain ⟨q, hq⟩ := Go.Deep.choose_lt each
    refine ⟨(List.range len).map q, ⟨some a, cap, by simp, by simpa using hl, by unfold maxLen at hm; omega, fun hn => ⟨a, rfl, ?_, fun i k hk => ?_⟩⟩, ?_, ?_⟩
    · have h0 : 0 < len := by
        rcases Nat.eq_zero_or_pos len with h | h
        · subst h; simp at hn
        · exact h
      have := (hq 0 h0).1.lt
      rwa [add_block] at this
    · have hi : i < len := by
        have := (List.getElem?_eq_some_iff.1 hk).1
        simpa using this
      rw [List.getElem?_map, List.getElem?_range hi] at hk
      injection hk with hk
      subst hk
      exact (hq i hi).1
    · intro k hk
      obtain ⟨i, hi, rfl⟩ := List.mem_map.1 hk
      exact (hq i (List.mem_range.1 hi)).2
    · have := bulk_slice ((List.range len).map D) ((List.range (m - len)).map fun j => D (len + j))
      simpa using this
theorem jb_flds : ∃ f0 f1 f2 f3 : Field, Tryz.prog.underlying 71 = some (.struct #[f0, f1, f2, f3]) ∧ f0.offset = 0 ∧ f0.type = 3 ∧ f1.offset = 1 ∧ f1.type = 3 ∧ f2.offset = 2 ∧ f2.type = 3 ∧ f3.offset = 3 ∧ f3.type = 3 := ⟨_, _, _, _, Tryz.underlying71, rfl, rfl, rfl, rfl, rfl, rfl, rfl, rfl⟩
set_option maxRecDepth 100000 in
theorem open_jb64 {H : Type} {enc : TypeId × Value → H} {W : World} {base : Nat} {held : Bool} {fuel : Nat} {cs : List Value} {y : DataW H × List MemPlace} (h : DataW.trod enc Tryz.prog W base (fun _ => true) held fuel 71 cs = some y) :
    ∃ k : JbV, cs = [.int .i64 k.player, .int .i64 k.unit, .int .i64 k.kind, .int .i64 k.left] ∧ ∀ n ∈ Wd.jnums k, Wd.In64 n := by
  obtain ⟨f0, f1, f2, f3, he, o0, t0, o1, t1, o2, t2, o3, t3⟩ := jb_flds
  obtain ⟨xs, m, -, -, hlen, hxl, hf⟩ := DataW.trod_struct he h
  have csi : Tryz.prog.cellsOf 3 = 1 := by kernel_rfl
  have csk : Tryz.prog.cellsOf 71 = 4 := by kernel_rfl
  rw [csk] at hlen
  match cs, hlen with
  | [v0, v1, v2, v3], _ =>
    have hx : xs.length = 4 := hxl
    match xs, hx with
    | [x0, x1, x2, x3], _ =>
      have g0 := hf 0 f0 rfl
      rw [o0, t0, csi] at g0
      have g1 := hf 1 f1 rfl
      rw [o1, t1, csi] at g1
      have g2 := hf 2 f2 rfl
      rw [o2, t2, csi] at g2
      have g3 := hf 3 f3 rfl
      rw [o3, t3, csi] at g3
      obtain ⟨m0, e0, -, w0⟩ := DataW.trod_int Tryz.underlying3 g0
      obtain ⟨m1, e1, -, w1⟩ := DataW.trod_int Tryz.underlying3 g1
      obtain ⟨m2, e2, -, w2⟩ := DataW.trod_int Tryz.underlying3 g2
      obtain ⟨m3, e3, -, w3⟩ := DataW.trod_int Tryz.underlying3 g3
      simp at e0 e1 e2 e3
      subst e0 e1 e2 e3
      refine ⟨⟨m0, m1, m2, m3⟩, rfl, ?_⟩
      intro n hn
      simp only [Wd.jnums, List.mem_cons, List.not_mem_nil, or_false] at hn
      rcases hn with rfl | rfl | rfl | rfl
      · exact in64_of_wf w0
      · exact in64_of_wf w1
      · exact in64_of_wf w2
      · exact in64_of_wf w3
theorem open_jbs64 {H : Type} {enc : TypeId × Value → H} {W : World} {base : Nat} {held : Bool} {fuel : Nat} {v : Value} {y : DataW H × List MemPlace} (h : DataW.trod enc Tryz.prog W base (fun _ => true) held fuel 27 [v] = some y) :
    ∃ ks : List JbV, Jbl W v ks ∧ (∀ k ∈ ks, ∀ n ∈ Wd.jnums k, Wd.In64 n) ∧ ks.length ≤ Rows.uptoBulk y.1 := by
  have csk : Tryz.prog.cellsOf 71 = 4 := by kernel_rfl
  rcases Go.Deep.open_slice Tryz.underlying27 h with ⟨hcs, -⟩ | ⟨a, len, cap, m, q, D, Pl, hcs, hb, hl, hm, hmm, rfl, hx⟩
  · simp at hcs
    subst hcs
    exact ⟨[], ⟨none, 0, rfl, Nat.le_refl _, by omega, fun h => absurd rfl h⟩, by simp, by simp⟩
  · simp at hcs
    subst hcs
    have hlm : len ≤ m := by rw [hmm]; simp; exact hl
    have each : ∀ i, i < len → ∃ k : JbV, Jbc W (a.add (i * 4)) k ∧ (∀ n ∈ Wd.jnums k, Wd.In64 n) := by
      intro i hi
      obtain ⟨cs', h1, h2⟩ := hx i (by omega)
      obtain ⟨k, rfl, hk⟩ := open_jb64 h2
      rw [csk] at h1
      obtain ⟨-, -, hcell⟩ := World.cells?_some h1
      refine ⟨k, ?_, hk⟩
      generalize a.add (i * 4) = y at *
      exact ⟨hcell 0 (by decide), hcell 1 (by decide), hcell 2 (by decide), hcell 3 (by decide)⟩
    have inh : Inhabited JbV := ⟨⟨0, 0, 0, 0⟩⟩
    obtain ⟨q, hq⟩ := Go.Deep.choose_lt each
    refine ⟨(List.range len).map q, ⟨some a, cap, by simp, by simpa using hl, by unfold maxLen at hm; omega, fun hn => ⟨a, rfl, ?_, fun i k hk => ?_⟩⟩, ?_, ?_⟩
    · have h0 : 0 < len := by
        rcases Nat.eq_zero_or_pos len with h | h
        · subst h; simp at hn
        · exact h
      have := (hq 0 h0).1.lt
      rwa [add_block] at this
    · have hi : i < len := by
        have := (List.getElem?_eq_some_iff.1 hk).1
        simpa using this
      rw [List.getElem?_map, List.getElem?_range hi] at hk
      injection hk with hk
      subst hk
      exact (hq i hi).1
    · intro k hk
      obtain ⟨i, hi, rfl⟩ := List.mem_map.1 hk
      exact (hq i (List.mem_range.1 hi)).2
    · have := bulk_slice ((List.range len).map D) ((List.range (m - len)).map fun j => D (len + j))
      simpa using this
theorem world_flds : ∃ f0 f1 f2 f3 f4 f5 : Field, Tryz.prog.underlying 29 = some (.struct #[f0, f1, f2, f3, f4, f5]) ∧ f0.offset = 0 ∧ f0.type = 3 ∧ f1.offset = 1 ∧ f1.type = 3 ∧ f2.offset = 2 ∧ f2.type = 25 ∧ f3.offset = 6 ∧ f3.type = 23 ∧ f4.offset = 7 ∧ f4.type = 26 ∧ f5.offset = 8 ∧ f5.type = 27 := ⟨_, _, _, _, _, _, Tryz.underlying29, rfl, rfl, rfl, rfl, rfl, rfl, rfl, rfl, rfl, rfl, rfl, rfl⟩
theorem field_flds : ∃ f0 f1 f2 f3 : Field, Tryz.prog.underlying 25 = some (.struct #[f0, f1, f2, f3]) ∧ f0.offset = 0 ∧ f0.type = 3 ∧ f1.offset = 1 ∧ f1.type = 3 ∧ f2.offset = 2 ∧ f2.type = 23 ∧ f3.offset = 3 ∧ f3.type = 23 := ⟨_, _, _, _, Tryz.underlying25, rfl, rfl, rfl, rfl, rfl, rfl, rfl, rfl⟩
theorem ro_len {w : World} {v : Value} {xs : List Int} (h : Ro w v xs) : Wd.In64 (xs.length : Int) := by
  obtain ⟨a, c, -, h1, h2, -⟩ := h
  unfold Wd.In64; omega
set_option maxRecDepth 100000 in
theorem open_world64 {H : Type} {enc : TypeId × Value → H} {W : World} {base : Nat} {held : Bool} {fuel : Nat} {cs : List Value} {y : DataW H × List MemPlace} (h : DataW.trod enc Tryz.prog W base (fun _ => true) held fuel 29 cs = some y) :
    ∃ X : WV, Wl W (.agg cs.toArray) X ∧ (∀ n ∈ Wd.nums X, Wd.In64 n) ∧ (Rows.uptoBulk y.1 ≤ 1048576 → WSmall X) := by
  obtain ⟨f0, f1, f2, f3, f4, f5, he, o0, t0, o1, t1, o2, t2, o3, t3, o4, t4, o5, t5⟩ := world_flds
  obtain ⟨xs, m, -, rfl, hlen, hxl, hf⟩ := DataW.trod_struct he h
  have csi : Tryz.prog.cellsOf 3 = 1 := by kernel_rfl
  have csf : Tryz.prog.cellsOf 25 = 4 := by kernel_rfl
  have csl : Tryz.prog.cellsOf 23 = 1 := by kernel_rfl
  have csu : Tryz.prog.cellsOf 26 = 1 := by kernel_rfl
  have csj : Tryz.prog.cellsOf 27 = 1 := by kernel_rfl
  have csk : Tryz.prog.cellsOf 29 = 9 := by kernel_rfl
  rw [csk] at hlen
  match cs, hlen with
  | [v0, v1, v2, v3, v4, v5, v6, v7, v8], _ =>
    have hx : xs.length = 6 := hxl
    match xs, hx with
    | [x0, x1, x2, x3, x4, x5], _ =>
      have g0 := hf 0 f0 rfl
      rw [o0, t0, csi] at g0
      have g1 := hf 1 f1 rfl
      rw [o1, t1, csi] at g1
      have g2 := hf 2 f2 rfl
      rw [o2, t2, csf] at g2
      have g3 := hf 3 f3 rfl
      rw [o3, t3, csl] at g3
      have g4 := hf 4 f4 rfl
      rw [o4, t4, csu] at g4
      have g5 := hf 5 f5 rfl
      rw [o5, t5, csj] at g5
      obtain ⟨m0, e0, -, w0⟩ := DataW.trod_int Tryz.underlying3 g0
      obtain ⟨m1, e1, -, w1⟩ := DataW.trod_int Tryz.underlying3 g1
      obtain ⟨r0, r1, r2, r3, he', p0, s0, p1, s1, p2, s2, p3, s3⟩ := field_flds
      obtain ⟨ys, m', -, rfl, hlen', hyl, hg⟩ := DataW.trod_struct he' g2
      have hy : ys.length = 4 := hyl
      match ys, hy with
      | [y0, y1, y2, y3], _ =>
        have k0 := hg 0 r0 rfl
        rw [p0, s0, csi] at k0
        have k1 := hg 1 r1 rfl
        rw [p1, s1, csi] at k1
        have k2 := hg 2 r2 rfl
        rw [p2, s2, csl] at k2
        have k3 := hg 3 r3 rfl
        rw [p3, s3, csl] at k3
        obtain ⟨m2, e2, -, w2⟩ := DataW.trod_int Tryz.underlying3 k0
        obtain ⟨m3, e3, -, w3⟩ := DataW.trod_int Tryz.underlying3 k1
        simp at e0 e1 e2 e3
        subst e0 e1 e2 e3
        obtain ⟨gs, hgs, igs, bgs⟩ := open_row64 k2
        obtain ⟨os, hos, ios, bos⟩ := open_row64 k3
        obtain ⟨gold, hgold, igold, bgold⟩ := open_row64 g3
        obtain ⟨us, hus, ius, bus⟩ := open_uns64 g4
        obtain ⟨qs, hqs, iqs, bqs⟩ := open_jbs64 g5
        have lu : Wd.In64 (us.length : Int) := by
          obtain ⟨a, c, -, h1, h2, -⟩ := hus
          unfold Wd.In64; omega
        have lq : Wd.In64 (qs.length : Int) := by
          obtain ⟨a, c, -, h1, h2, -⟩ := hqs
          unfold Wd.In64; omega
        refine ⟨⟨m0, m1, m2, m3, gs, os, gold, us, qs⟩, ⟨_, _, _, _, _, rfl, hgs, hos, hgold, hus, hqs⟩, ?_, ?_⟩
        · intro n hn
          simp only [Wd.nums, List.mem_append, List.mem_cons, List.not_mem_nil, or_false, List.mem_flatMap] at hn
          rcases hn with (((((rfl | rfl | rfl | rfl) | (rfl | hn)) | (rfl | hn)) | (rfl | hn)) | (rfl | ⟨u, hu, hn⟩)) | (rfl | ⟨u, hu, hn⟩)
          · exact in64_of_wf w0
          · exact in64_of_wf w1
          · exact in64_of_wf w2
          · exact in64_of_wf w3
          · exact ro_len hgs
          · exact igs _ hn
          · exact ro_len hos
          · exact ios _ hn
          · exact ro_len hgold
          · exact igold _ hn
          · exact lu
          · exact ius u hu n hn
          · exact lq
          · exact iqs u hu n hn
        · intro hb
          simp only [Rows.uptoBulk, Rows.uptoBulkAll, List.map_cons, List.map_nil] at hb
          exact ⟨by simp only; omega, by simp only; omega, by simp only; omega, by simp only; omega, by simp only; omega⟩
set_option maxRecDepth 100000 in
theorem world_in {H : Type} {enc : TypeId × Value → H} {W : World} {base b0 : Nat} {held : Bool} {v : Value} {d : DataW H} {p : List MemPlace} (hv : Value.okWide Tryz.prog W .any b0 29 v) (h : DataW.Trod enc Tryz.prog W base (fun _ => true) held 29 v d p) :
    ∃ X : WV, Wl W v X ∧ (∀ n ∈ Wd.nums X, Wd.In64 n) ∧ (Rows.uptoBulk d ≤ 1048576 → WSmall X) := by
  obtain ⟨cs, rfl, hsz⟩ := okWide_struct Tryz.underlying29 hv
  obtain ⟨fuel, hf⟩ := h
  have := open_world64 hf
  simpa [Value.cells] using this
end Go.Proofs.YteieikgkmfglaaaGreatDoor

namespace Go.Proofs.YteieikgkmfglaaaGreatDoor
open Go.ChangeShapes Go.WideShapes Go.ChangeAt Go.RowKit
set_option linter.unusedVariables false

theorem by_wint : Tryz.prog.bytesOf 3 = 8 := by kernel_rfl
theorem by_wun : Tryz.prog.bytesOf 44 = 64 := by kernel_rfl
theorem by_wjb : Tryz.prog.bytesOf 71 = 32 := by kernel_rfl
set_option maxRecDepth 100000 in
theorem row_size {H : Type} {enc : TypeId × Value → H} {W : World} {base : Nat} {held : Bool} {fuel : Nat} {v : Value} {y : DataW H × List MemPlace} (h : DataW.trod enc Tryz.prog W base (fun _ => true) held fuel 23 [v] = some y)
    (hz : ∀ n ∈ y.1.weights Tryz.prog 23, n ≤ reachBytes) (ks : List Int) (hk : Ro W v ks) : ks.length * 8 ≤ reachBytes := by
  obtain ⟨a', c', hv, -, -, -⟩ := hk
  rcases Go.Deep.open_slice Tryz.underlying23 h with ⟨hcs, -⟩ | ⟨a, len, cap, m, q, D, Pl, hcs, hb, hl, hm, hmm, rfl, hx⟩
  · simp at hcs
    rw [hv] at hcs
    injection hcs with _ e
    rw [e]
    omega
  · simp at hcs
    rw [hv] at hcs
    injection hcs with _ e
    have hlm : len ≤ m := by rw [hmm]; simp; exact hl
    have h1 := hz ((len + (m - len)) * 8) (by simp [DataW.weights, Tryz.underlying23, by_wint])
    rw [e]
    omega
set_option maxRecDepth 100000 in
theorem uns_size {H : Type} {enc : TypeId × Value → H} {W : World} {base : Nat} {held : Bool} {fuel : Nat} {v : Value} {y : DataW H × List MemPlace} (h : DataW.trod enc Tryz.prog W base (fun _ => true) held fuel 26 [v] = some y)
    (hz : ∀ n ∈ y.1.weights Tryz.prog 26, n ≤ reachBytes) (ks : List UnV) (hk : Unl W v ks) : ks.length * 64 ≤ reachBytes := by
  obtain ⟨a', c', hv, -, -, -⟩ := hk
  rcases Go.Deep.open_slice Tryz.underlying26 h with ⟨hcs, -⟩ | ⟨a, len, cap, m, q, D, Pl, hcs, hb, hl, hm, hmm, rfl, hx⟩
  · simp at hcs
    rw [hv] at hcs
    injection hcs with _ e
    rw [e]
    omega
  · simp at hcs
    rw [hv] at hcs
    injection hcs with _ e
    have hlm : len ≤ m := by rw [hmm]; simp; exact hl
    have h1 := hz ((len + (m - len)) * 64) (by simp [DataW.weights, Tryz.underlying26, by_wun])
    rw [e]
    omega
set_option maxRecDepth 100000 in
theorem jbs_size {H : Type} {enc : TypeId × Value → H} {W : World} {base : Nat} {held : Bool} {fuel : Nat} {v : Value} {y : DataW H × List MemPlace} (h : DataW.trod enc Tryz.prog W base (fun _ => true) held fuel 27 [v] = some y)
    (hz : ∀ n ∈ y.1.weights Tryz.prog 27, n ≤ reachBytes) (ks : List JbV) (hk : Jbl W v ks) : ks.length * 32 ≤ reachBytes := by
  obtain ⟨a', c', hv, -, -, -⟩ := hk
  rcases Go.Deep.open_slice Tryz.underlying27 h with ⟨hcs, -⟩ | ⟨a, len, cap, m, q, D, Pl, hcs, hb, hl, hm, hmm, rfl, hx⟩
  · simp at hcs
    rw [hv] at hcs
    injection hcs with _ e
    rw [e]
    omega
  · simp at hcs
    rw [hv] at hcs
    injection hcs with _ e
    have hlm : len ≤ m := by rw [hmm]; simp; exact hl
    have h1 := hz ((len + (m - len)) * 32) (by simp [DataW.weights, Tryz.underlying27, by_wjb])
    rw [e]
    omega
set_option maxRecDepth 100000 in
theorem world_sized {H : Type} {enc : TypeId × Value → H} {W : World} {base : Nat} {held : Bool} {v : Value} {d : DataW H} {p : List MemPlace} (h : DataW.Trod enc Tryz.prog W base (fun _ => true) held 29 v d p)
    (hz : ∀ n ∈ d.weights Tryz.prog 29, n ≤ reachBytes) {X : WV} (hk : Wl W v X) : WFit X := by
  obtain ⟨u1, u2, u3, u4, u5, rfl, k1, k2, k3, k4, k5⟩ := hk
  obtain ⟨fuel, hf0⟩ := h
  obtain ⟨f0, f1, f2, f3, f4, f5, he, o0, t0, o1, t1, o2, t2, o3, t3, o4, t4, o5, t5⟩ := world_flds
  obtain ⟨xs, m, -, hy, hlen, hxl, hf⟩ := DataW.trod_struct he hf0
  have csf : Tryz.prog.cellsOf 25 = 4 := by kernel_rfl
  have csl : Tryz.prog.cellsOf 23 = 1 := by kernel_rfl
  have csu : Tryz.prog.cellsOf 26 = 1 := by kernel_rfl
  have csj : Tryz.prog.cellsOf 27 = 1 := by kernel_rfl
  have hx : xs.length = 6 := hxl
  match xs, hx with
  | [x0, x1, x2, x3, x4, x5], _ =>
    have g2 := hf 2 f2 rfl
    rw [o2, t2, csf] at g2
    have g3 := hf 3 f3 rfl
    rw [o3, t3, csl] at g3
    have g4 := hf 4 f4 rfl
    rw [o4, t4, csu] at g4
    have g5 := hf 5 f5 rfl
    rw [o5, t5, csj] at g5
    have e : d = .agg [x0.1, x1.1, x2.1, x3.1, x4.1, x5.1] := congrArg Prod.fst hy
    subst e
    have z2 : ∀ n ∈ x2.1.weights Tryz.prog 25, n ≤ reachBytes := fun n hn => hz n (by simp only [DataW.weights, he]; exact DataW.weights_mem_each (j := 2) (t := f2.type) rfl rfl n (by rw [t2]; exact hn))
    have z3 : ∀ n ∈ x3.1.weights Tryz.prog 23, n ≤ reachBytes := fun n hn => hz n (by simp only [DataW.weights, he]; exact DataW.weights_mem_each (j := 3) (t := f3.type) rfl rfl n (by rw [t3]; exact hn))
    have z4 : ∀ n ∈ x4.1.weights Tryz.prog 26, n ≤ reachBytes := fun n hn => hz n (by simp only [DataW.weights, he]; exact DataW.weights_mem_each (j := 4) (t := f4.type) rfl rfl n (by rw [t4]; exact hn))
    have z5 : ∀ n ∈ x5.1.weights Tryz.prog 27, n ≤ reachBytes := fun n hn => hz n (by simp only [DataW.weights, he]; exact DataW.weights_mem_each (j := 5) (t := f5.type) rfl rfl n (by rw [t5]; exact hn))
    obtain ⟨r0, r1, r2, r3, he', p0, s0, p1, s1, p2, s2, p3, s3⟩ := field_flds
    obtain ⟨ys, m', -, hy', hlen', hyl, hg⟩ := DataW.trod_struct he' g2
    have hyy : ys.length = 4 := hyl
    match ys, hyy with
    | [y0, y1, y2, y3], _ =>
      have q2 := hg 2 r2 rfl
      rw [p2, s2, csl] at q2
      have q3 := hg 3 r3 rfl
      rw [p3, s3, csl] at q3
      have e' : x2.1 = .agg [y0.1, y1.1, y2.1, y3.1] := congrArg Prod.fst hy'
      rw [e'] at z2
      have zz2 : ∀ n ∈ y2.1.weights Tryz.prog 23, n ≤ reachBytes := fun n hn => z2 n (by simp only [DataW.weights, he']; exact DataW.weights_mem_each (j := 2) (t := r2.type) rfl rfl n (by rw [s2]; exact hn))
      have zz3 : ∀ n ∈ y3.1.weights Tryz.prog 23, n ≤ reachBytes := fun n hn => z2 n (by simp only [DataW.weights, he']; exact DataW.weights_mem_each (j := 3) (t := r3.type) rfl rfl n (by rw [s3]; exact hn))
      have rb : reachBytes ≤ 140737488355328 := by decide
      exact ⟨Nat.le_trans (row_size q2 zz2 _ k1) rb, Nat.le_trans (row_size q3 zz3 _ k2) rb, Nat.le_trans (row_size g3 z3 _ k3) rb, Nat.le_trans (uns_size g4 z4 _ k4) rb, Nat.le_trans (jbs_size g5 z5 _ k5) rb⟩
end Go.Proofs.YteieikgkmfglaaaGreatDoor

namespace Go.Proofs.YteieikgkmfglaaaGreatDoor
open Go.ChangeShapes Go.WideShapes Go.ChangeAt Go.RowKit
set_option linter.unusedVariables false

theorem kind_fields : ∃ f0 f1 f2 f3 f4 f5 f6 f7 f8 f9 f10 : Field, Tryz.prog.underlying 68 = some (.struct #[f0, f1, f2, f3, f4, f5, f6, f7, f8, f9, f10]) ∧
    f0.offset = 0 ∧ f0.type = 9 ∧ f1.offset = 1 ∧ f1.type = 3 ∧ f2.offset = 2 ∧ f2.type = 3 ∧ f3.offset = 3 ∧ f3.type = 3 ∧ f4.offset = 4 ∧ f4.type = 3 ∧ f5.offset = 5 ∧ f5.type = 3 ∧ f6.offset = 6 ∧ f6.type = 3 ∧ f7.offset = 7 ∧ f7.type = 3 ∧ f8.offset = 8 ∧ f8.type = 3 ∧ f9.offset = 9 ∧ f9.type = 4 ∧ f10.offset = 10 ∧ f10.type = 4 := ⟨_, _, _, _, _, _, _, _, _, _, _, Tryz.underlying68, rfl, rfl, rfl, rfl, rfl, rfl, rfl, rfl, rfl, rfl, rfl, rfl, rfl, rfl, rfl, rfl, rfl, rfl, rfl, rfl, rfl, rfl⟩


set_option maxRecDepth 100000 in
theorem open_kind {H : Type} {enc : TypeId × Value → H} {W : World} {base : Nat} {held : Bool} {fuel : Nat} {cs : List Value} {y : DataW H × List MemPlace} (h : DataW.trod enc Tryz.prog W base (fun _ => true) held fuel 68 cs = some y) :
    ∃ k : KV, cs = [.string k.b, .int .i64 k.n0, .int .i64 k.n1, .int .i64 k.n2, .int .i64 k.n3, .int .i64 k.n4, .int .i64 k.n5, .int .i64 k.n6, .int .i64 k.n7, .bool k.f, .bool k.t] ∧ k.b.size ≤ maxLen := by
  obtain ⟨f0, f1, f2, f3, f4, f5, f6, f7, f8, f9, f10, he, o0, t0, o1, t1, o2, t2, o3, t3, o4, t4, o5, t5, o6, t6, o7, t7, o8, t8, o9, t9, o10, t10⟩ := kind_fields
  obtain ⟨xs, n, -, -, hlen, hxl, hf⟩ := DataW.trod_struct he h
  have cs9 : Tryz.prog.cellsOf 9 = 1 := by kernel_rfl
  have cs3 : Tryz.prog.cellsOf 3 = 1 := by kernel_rfl
  have cs4 : Tryz.prog.cellsOf 4 = 1 := by kernel_rfl
  have csk : Tryz.prog.cellsOf 68 = 11 := by kernel_rfl
  rw [csk] at hlen
  match cs, hlen with
  | [v0, v1, v2, v3, v4, v5, v6, v7, v8, v9, v10], _ =>
    have hx11 : xs.length = 11 := hxl
    match xs, hx11 with
    | [x0, x1, x2, x3, x4, x5, x6, x7, x8, x9, x10], _ =>
      have g0 := hf 0 f0 rfl
      rw [o0, t0, cs9] at g0
      have g1 := hf 1 f1 rfl
      rw [o1, t1, cs3] at g1
      have g2 := hf 2 f2 rfl
      rw [o2, t2, cs3] at g2
      have g3 := hf 3 f3 rfl
      rw [o3, t3, cs3] at g3
      have g4 := hf 4 f4 rfl
      rw [o4, t4, cs3] at g4
      have g5 := hf 5 f5 rfl
      rw [o5, t5, cs3] at g5
      have g6 := hf 6 f6 rfl
      rw [o6, t6, cs3] at g6
      have g7 := hf 7 f7 rfl
      rw [o7, t7, cs3] at g7
      have g8 := hf 8 f8 rfl
      rw [o8, t8, cs3] at g8
      have g9 := hf 9 f9 rfl
      rw [o9, t9, cs4] at g9
      have g10 := hf 10 f10 rfl
      rw [o10, t10, cs4] at g10
      obtain ⟨b, e0, -, hb⟩ := DataW.trod_string Tryz.underlying9 g0
      obtain ⟨m1, e1, -, -⟩ := DataW.trod_int Tryz.underlying3 g1
      obtain ⟨m2, e2, -, -⟩ := DataW.trod_int Tryz.underlying3 g2
      obtain ⟨m3, e3, -, -⟩ := DataW.trod_int Tryz.underlying3 g3
      obtain ⟨m4, e4, -, -⟩ := DataW.trod_int Tryz.underlying3 g4
      obtain ⟨m5, e5, -, -⟩ := DataW.trod_int Tryz.underlying3 g5
      obtain ⟨m6, e6, -, -⟩ := DataW.trod_int Tryz.underlying3 g6
      obtain ⟨m7, e7, -, -⟩ := DataW.trod_int Tryz.underlying3 g7
      obtain ⟨m8, e8, -, -⟩ := DataW.trod_int Tryz.underlying3 g8
      obtain ⟨bf, e9, -⟩ := DataW.trod_bool Tryz.underlying4 g9
      obtain ⟨bt, e10, -⟩ := DataW.trod_bool Tryz.underlying4 g10
      simp at e0 e1 e2 e3 e4 e5 e6 e7 e8 e9 e10
      subst e0 e1 e2 e3 e4 e5 e6 e7 e8 e9 e10
      exact ⟨⟨b, m1, m2, m3, m4, m5, m6, m7, m8, bf, bt⟩, rfl, hb⟩

/-- kinds that came in. -/
theorem open_kinds {H : Type} {enc : TypeId × Value → H} {W : World} {base : Nat} {held : Bool} {fuel : Nat} {v : Value} {y : DataW H × List MemPlace} (h : DataW.trod enc Tryz.prog W base (fun _ => true) held fuel 22 [v] = some y) :
    ∃ ks : List KV, Kl W v ks ∧ ∀ k ∈ ks, k.b.size ≤ maxLen := by
  have csk : Tryz.prog.cellsOf 68 = 11 := by kernel_rfl
  rcases Go.Deep.open_slice Tryz.underlying22 h with ⟨hcs, -⟩ | ⟨a, len, cap, m, n, D, Pl, hcs, hb, hl, hm, hmm, -, hx⟩
  · simp at hcs
    subst hcs
    exact ⟨[], ⟨none, 0, rfl, Nat.le_refl _, by omega, fun h => absurd rfl h⟩, by simp⟩
  · simp at hcs
    subst hcs
    have hlm : len ≤ m := by rw [hmm]; simp; exact hl
    have each : ∀ i, i < len → ∃ k : KV, Kc W (a.add (i * 11)) k ∧ k.b.size ≤ maxLen := by
      intro i hi
      obtain ⟨cs', h1, h2⟩ := hx i (by omega)
      obtain ⟨k, rfl, hk⟩ := open_kind h2
      rw [csk] at h1
      obtain ⟨-, -, hcell⟩ := World.cells?_some h1
      refine ⟨k, ?_, hk⟩
      generalize a.add (i * 11) = y at *
      exact ⟨hcell 0 (by decide), hcell 1 (by decide), hcell 2 (by decide), hcell 3 (by decide), hcell 4 (by decide), hcell 5 (by decide), hcell 6 (by decide), hcell 7 (by decide), hcell 8 (by decide), hcell 9 (by decide), hcell 10 (by decide)⟩
    have inh : Inhabited KV := ⟨⟨ByteArray.empty, 0, 0, 0, 0, 0, 0, 0, 0, false, false⟩⟩
    obtain ⟨q, hq⟩ := Go.Deep.choose_lt each
    refine ⟨(List.range len).map q, ⟨some a, cap, by simp, by simpa using hl, by unfold maxLen at hm; omega, fun hn => ⟨a, rfl, ?_, fun i k hk => ?_⟩⟩, ?_⟩
    · have h0 : 0 < len := by
        rcases Nat.eq_zero_or_pos len with h | h
        · subst h; simp at hn
        · exact h
      have := (hq 0 h0).1.lt
      rwa [add_block] at this
    · have hi : i < len := by
        have := (List.getElem?_eq_some_iff.1 hk).1
        simpa using this
      rw [List.getElem?_map, List.getElem?_range hi] at hk
      injection hk with hk
      subst hk
      exact (hq i hi).1
    · intro k hk
      obtain ⟨i, hi, rfl⟩ := List.mem_map.1 hk
      exact (hq i (List.mem_range.1 hi)).2
set_option maxRecDepth 100000 in
theorem kinds_in {H : Type} {enc : TypeId × Value → H} {W : World} {base b0 : Nat} {held : Bool} {v : Value} {d : DataW H} {p : List MemPlace} (hv : Value.okWide Tryz.prog W .any b0 22 v) (h : DataW.Trod enc Tryz.prog W base (fun _ => true) held 22 v d p) :
    ∃ ks : List KV, Kl W v ks ∧ ∀ k ∈ ks, k.b.size ≤ maxLen := by
  obtain ⟨a, len, cap, rfl⟩ := okWide_slice Tryz.underlying22 hv
  obtain ⟨fuel, hf⟩ := h
  exact open_kinds hf
end Go.Proofs.YteieikgkmfglaaaGreatDoor

namespace Go.Proofs.YteieikgkmfglaaaGreatDoor
open Go.ChangeShapes Go.WideShapes Go.ChangeAt Go.RowKit
set_option linter.unusedVariables false

theorem or_fields : ∃ f0 f1 f2 f3 : Field, Tryz.prog.underlying 89 = some (.struct #[f0, f1, f2, f3]) ∧
    f0.offset = 0 ∧ f0.type = 3 ∧ f1.offset = 1 ∧ f1.type = 3 ∧ f2.offset = 2 ∧ f2.type = 3 ∧ f3.offset = 3 ∧ f3.type = 3 := ⟨_, _, _, _, Tryz.underlying89, rfl, rfl, rfl, rfl, rfl, rfl, rfl, rfl⟩

set_option maxRecDepth 100000 in
theorem open_or {H : Type} {enc : TypeId × Value → H} {W : World} {base : Nat} {held : Bool} {fuel : Nat} {cs : List Value} {y : DataW H × List MemPlace} (h : DataW.trod enc Tryz.prog W base (fun _ => true) held fuel 89 cs = some y) :
    ∃ k : OrV, cs = [.int .i64 k.player, .int .i64 k.unit, .int .i64 k.what, .int .i64 k.arg] ∧ True := by
  obtain ⟨f0, f1, f2, f3, he, o0, t0, o1, t1, o2, t2, o3, t3⟩ := or_fields
  obtain ⟨xs, m, -, -, hlen, hxl, hf⟩ := DataW.trod_struct he h
  have csi : Tryz.prog.cellsOf 3 = 1 := by kernel_rfl
  have csk : Tryz.prog.cellsOf 89 = 4 := by kernel_rfl
  rw [csk] at hlen
  match cs, hlen with
  | [v0, v1, v2, v3], _ =>
    have hx : xs.length = 4 := hxl
    match xs, hx with
    | [x0, x1, x2, x3], _ =>
      have g0 := hf 0 f0 rfl
      rw [o0, t0, csi] at g0
      have g1 := hf 1 f1 rfl
      rw [o1, t1, csi] at g1
      have g2 := hf 2 f2 rfl
      rw [o2, t2, csi] at g2
      have g3 := hf 3 f3 rfl
      rw [o3, t3, csi] at g3
      obtain ⟨m0, e0, -, -⟩ := DataW.trod_int Tryz.underlying3 g0
      obtain ⟨m1, e1, -, -⟩ := DataW.trod_int Tryz.underlying3 g1
      obtain ⟨m2, e2, -, -⟩ := DataW.trod_int Tryz.underlying3 g2
      obtain ⟨m3, e3, -, -⟩ := DataW.trod_int Tryz.underlying3 g3
      simp at e0 e1 e2 e3
      subst e0 e1 e2 e3
      exact ⟨⟨m0, m1, m2, m3⟩, rfl, trivial⟩

theorem open_ors {H : Type} {enc : TypeId × Value → H} {W : World} {base : Nat} {held : Bool} {fuel : Nat} {v : Value} {y : DataW H × List MemPlace} (h : DataW.trod enc Tryz.prog W base (fun _ => true) held fuel 48 [v] = some y) :
    ∃ ks : List OrV, Orl W v ks ∧ ∀ k ∈ ks, True := by
  have csk : Tryz.prog.cellsOf 89 = 4 := by kernel_rfl
  rcases Go.Deep.open_slice Tryz.underlying48 h with ⟨hcs, -⟩ | ⟨a, len, cap, m, q, D, Pl, hcs, hb, hl, hm, hmm, -, hx⟩
  · simp at hcs
    subst hcs
    exact ⟨[], ⟨none, 0, rfl, Nat.le_refl _, by omega, fun h => absurd rfl h⟩, by simp⟩
  · simp at hcs
    subst hcs
    have hlm : len ≤ m := by rw [hmm]; simp; exact hl
    have each : ∀ i, i < len → ∃ k : OrV, Orc W (a.add (i * 4)) k ∧ (True) := by
      intro i hi
      obtain ⟨cs', h1, h2⟩ := hx i (by omega)
      obtain ⟨k, rfl, hk⟩ := open_or h2
      rw [csk] at h1
      obtain ⟨-, -, hcell⟩ := World.cells?_some h1
      refine ⟨k, ?_, hk⟩
      generalize a.add (i * 4) = y at *
      exact ⟨hcell 0 (by decide), hcell 1 (by decide), hcell 2 (by decide), hcell 3 (by decide)⟩
    have inh : Inhabited OrV := ⟨⟨0, 0, 0, 0⟩⟩
    obtain ⟨q, hq⟩ := Go.Deep.choose_lt each
    refine ⟨(List.range len).map q, ⟨some a, cap, by simp, by simpa using hl, by unfold maxLen at hm; omega, fun hn => ⟨a, rfl, ?_, fun i k hk => ?_⟩⟩, ?_⟩
    · have h0 : 0 < len := by
        rcases Nat.eq_zero_or_pos len with h | h
        · subst h; simp at hn
        · exact h
      have := (hq 0 h0).1.lt
      rwa [add_block] at this
    · have hi : i < len := by
        have := (List.getElem?_eq_some_iff.1 hk).1
        simpa using this
      rw [List.getElem?_map, List.getElem?_range hi] at hk
      injection hk with hk
      subst hk
      exact (hq i hi).1
    · intro k hk
      obtain ⟨i, hi, rfl⟩ := List.mem_map.1 hk
      exact (hq i (List.mem_range.1 hi)).2
set_option maxRecDepth 100000 in
theorem ors_in {H : Type} {enc : TypeId × Value → H} {W : World} {base b0 : Nat} {held : Bool} {v : Value} {d : DataW H} {p : List MemPlace} (hv : Value.okWide Tryz.prog W .any b0 48 v) (h : DataW.Trod enc Tryz.prog W base (fun _ => true) held 48 v d p) :
    ∃ ks : List OrV, Orl W v ks ∧ ∀ k ∈ ks, True := by
  obtain ⟨a, len, cap, rfl⟩ := okWide_slice Tryz.underlying48 hv
  obtain ⟨fuel, hf⟩ := h
  exact open_ors hf
end Go.Proofs.YteieikgkmfglaaaGreatDoor

namespace Go.Proofs.YteieikgkmfglaaaGreatDoor
open Go.ChangeShapes Go.WideShapes Go.ChangeAt Go.RowKit
set_option linter.unusedVariables false

set_option maxRecDepth 100000 in
theorem open_olls {H : Type} {enc : TypeId × Value → H} {W : World} {base : Nat} {held : Bool} {fuel : Nat} {v : Value} {y : DataW H × List MemPlace} (h : DataW.trod enc Tryz.prog W base (fun _ => true) held fuel 59 [v] = some y) :
    ∃ ls : List (List OrV), Oll W v ls := by
  have csk : Tryz.prog.cellsOf 48 = 1 := by kernel_rfl
  rcases Go.Deep.open_slice Tryz.underlying59 h with ⟨hcs, -⟩ | ⟨a, len, cap, m, q, D, Pl, hcs, hb, hl, hm, hmm, -, hx⟩
  · simp at hcs
    subst hcs
    exact ⟨[], ⟨none, 0, rfl, Nat.le_refl _, by omega, fun h => absurd rfl h⟩⟩
  · simp at hcs
    subst hcs
    have hlm : len ≤ m := by rw [hmm]; simp; exact hl
    have each : ∀ i, i < len → ∃ l : List OrV, ∃ u, W.cell? (a.add i) = some u ∧ Orl W u l := by
      intro i hi
      obtain ⟨cs', h1, h2⟩ := hx i (by omega)
      rw [csk] at h1
      rw [Nat.mul_one] at h1
      obtain ⟨-, hlen, hcell⟩ := World.cells?_some h1
      match cs', hlen with
      | [u], _ =>
        obtain ⟨l, hl', -⟩ := open_ors h2
        exact ⟨l, u, hcell 0 (by decide), hl'⟩
    have inh : Inhabited (List OrV) := ⟨[]⟩
    obtain ⟨q, hq⟩ := Go.Deep.choose_lt each
    refine ⟨(List.range len).map q, ⟨some a, cap, by simp, by simpa using hl, by unfold maxLen at hm; omega, fun hn => ⟨a, rfl, ?_, fun i k hk => ?_⟩⟩⟩
    · have h0 : 0 < len := by
        rcases Nat.eq_zero_or_pos len with h | h
        · subst h; simp at hn
        · exact h
      obtain ⟨u, h1, -⟩ := hq 0 h0
      have := cell_lt h1
      rwa [add_block] at this
    · have hi : i < len := by
        have := (List.getElem?_eq_some_iff.1 hk).1
        simpa using this
      rw [List.getElem?_map, List.getElem?_range hi] at hk
      injection hk with hk
      subst hk
      exact hq i hi
set_option maxRecDepth 100000 in
theorem olls_in {H : Type} {enc : TypeId × Value → H} {W : World} {base b0 : Nat} {held : Bool} {v : Value} {d : DataW H} {p : List MemPlace} (hv : Value.okWide Tryz.prog W .any b0 59 v) (h : DataW.Trod enc Tryz.prog W base (fun _ => true) held 59 v d p) : ∃ ls : List (List OrV), Oll W v ls := by
  obtain ⟨a, len, cap, rfl⟩ := okWide_slice Tryz.underlying59 hv
  obtain ⟨fuel, hf⟩ := h
  exact open_olls hf
/-- the first of them; those behind. -/
theorem Oll.take {w : World} {a : Option Addr} {n c : Nat} {ls : List (List OrV)} (h : Oll w (.slice a n c) ls) {k : Nat} (hk : k ≤ ls.length) : Oll w (.slice a k c) (ls.take k) := by
  obtain ⟨a', c', e, h2, h3, h4⟩ := h
  injection e with e1 e2 e3
  subst e1 e3
  have hl : (ls.take k).length = k := by rw [List.length_take]; omega
  refine ⟨a, c, by rw [hl], by omega, h3, fun hn => ?_⟩
  obtain ⟨x, ex, hx, hy⟩ := h4 (by rintro rfl; simp at hn)
  refine ⟨x, ex, hx, fun i l hi => hy i l ?_⟩
  rw [List.getElem?_take] at hi
  split at hi
  · exact hi
  · cases hi
theorem Oll.sl {w : World} {a : Option Addr} {c n L : Nat} {ls : List (List OrV)} (h : Oll w (.slice a L c) ls) (hn : n ≤ ls.length) : Oll w (sliced a n L c 1) (ls.drop n) := by
  obtain ⟨a', c', e, h1, h2, h3⟩ := h
  injection e with e1 e2 e3
  subst e1 e3 e2
  unfold sliced
  refine ⟨_, _, by rw [List.length_drop], by rw [List.length_drop]; omega, by omega, fun hne => ?_⟩
  have hnl : n < ls.length := by
    rcases Nat.lt_or_ge n ls.length with h | h
    · exact h
    · exact absurd (List.drop_eq_nil_of_le h) hne
  obtain ⟨x, rfl, hx1, hx2⟩ := h3 (by rintro rfl; simp at hnl)
  refine ⟨x.add n, ?_, by rw [add_block]; exact hx1, fun i l hk => ?_⟩
  · simp
    intro hc
    omega
  · rw [List.getElem?_drop] at hk
    obtain ⟨u, c1, c2⟩ := hx2 (n + i) l hk
    have e : (x.add n).add i = x.add (n + i) := by
      unfold Addr.add
      split <;> split <;> split <;> simp_all <;> omega
    rw [e]
    exact ⟨u, c1, c2⟩
end Go.Proofs.YteieikgkmfglaaaGreatDoor

namespace Go.Proofs.YteieikgkmfglaaaGreatDoor.turnPlays
open Go.RowKit Go.Proofs.YteieikgkmfglaaaGreatDoor.So
set_option linter.unusedVariables false

/-- in block z there is the world Q. -/
def WB (V : World) (z : Nat) (Q : WV) : Prop := ∃ g1 l1 g2 l2 g3 l3 g4 l4 g5 l5, Wx V z (.int .i64 Q.turn) (.int .i64 Q.next) (.int .i64 Q.wide) (.int .i64 Q.high) (.slice g1 Q.gs.length l1) (.slice g2 Q.os.length l2) (.slice g3 Q.gold.length l3) (.slice g4 Q.us.length l4) (.slice g5 Q.qs.length l5) ∧ Wl V (.agg #[.int .i64 Q.turn, .int .i64 Q.next, .int .i64 Q.wide, .int .i64 Q.high, .slice g1 Q.gs.length l1, .slice g2 Q.os.length l2, .slice g3 Q.gold.length l3, .slice g4 Q.us.length l4, .slice g5 Q.qs.length l5]) Q
theorem WB.below {W V : World} {z : Nat} {Q : WV} (h : WB W z Q) (hb : Below W.heap.size W V) : WB V z Q := by
  obtain ⟨g1, l1, g2, l2, g3, l3, g4, l4, g5, l5, h1, h2⟩ := h
  exact ⟨g1, l1, g2, l2, g3, l3, g4, l4, g5, l5, h1.below hb h1.lt, h2.below hb⟩
set_option maxRecDepth 100000 in
set_option maxHeartbeats 64000000 in
theorem walk (vk : Value) (ks : List KV) (vw : Value) (X : WV) (vl : Value) (ls : List (List OrV)) (w : World)
    (h0 : Kl w vk ks ∧ ∀ k ∈ ks, k.b.size ≤ maxLen) (h1 : (Wl w vw X ∧ ∀ n ∈ Wd.nums X, Wd.In64 n) ∧ WFit X) (h2 : Oll w vl ls) (hg : Et w) (hsd : Sd w) :
    Calls Tryz.prog 5 #[vk, vw, vl] w fun e w' => e = .returned (.bool true) ∧ Below w.heap.size w w' := by
  have K : Hid (Kl w vk ks ∧ ∀ k ∈ ks, k.b.size ≤ 9223372036854775807) := ⟨h0.1, fun k hk => by have := h0.2 k hk; unfold maxLen at this; omega⟩
  have H : Hid (Wl w vw X) := h1.1.1
  have FZ : Hid (WFit X) := h1.2
  have L : Hid (Oll w vl ls) := h2
  have HG : Hid (Et w) := hg
  have SDH : Hid (Sd w) := hsd
  obtain ⟨p1, q1, p2, q2, p3, q3, p4, q4, p5, q5, rfl⟩ := wl_shape9 h1.1.1
  obtain ⟨pk, qk, rfl, ck1, ck2, -⟩ := h0.1
  obtain ⟨pl, ql, rfl, cl1, cl2, -⟩ := h2
  clear h0 h1 hg hsd
  go_enter Tryz.func5, Tryz.ntmps5
  go_upto_region 1 with fail
  have B0 : Hid (Below w.heap.size w (w.alloc (Obj.cells #[.int .i64 X.turn, .int .i64 X.next, .int .i64 X.wide, .int .i64 X.high, .slice p1 X.gs.length q1, .slice p2 X.os.length q2, .slice p3 X.gold.length q3, .slice p4 X.us.length q4, .slice p5 X.qs.length q5] 29))) := (Below.refl _ _).alloc (Nat.le_refl _) _
  have X0 : Hid (Bw (w.alloc (Obj.cells #[.int .i64 X.turn, .int .i64 X.next, .int .i64 X.wide, .int .i64 X.high, .slice p1 X.gs.length q1, .slice p2 X.os.length q2, .slice p3 X.gold.length q3, .slice p4 X.us.length q4, .slice p5 X.qs.length q5] 29)) w.heap.size X (.slice p1 X.gs.length q1) (.slice p2 X.os.length q2) (.slice p3 X.gold.length q3) (.slice p4 X.us.length q4) (.slice p5 X.qs.length q5)) := Bw.mk' (w := w) X _ _ _ _ _ rfl
  generalize (w.alloc (Obj.cells #[.int .i64 X.turn, .int .i64 X.next, .int .i64 X.wide, .int .i64 X.high, .slice p1 X.gs.length q1, .slice p2 X.os.length q2, .slice p3 X.gold.length q3, .slice p4 X.us.length q4, .slice p5 X.qs.length q5] 29)) = w0 at *
  obtain ⟨x0, x1, x2, x3, x4, x5, x6, x7, x8⟩ := X0.out
  go_wp2_with fail
  refine (rcheck_any _ _ ks X w0 (K.out.1.below B0.out) K.out.2 (H.out.below B0.out)).mono ?_
  rintro e w1 ⟨f, rfl, hf, hb⟩
  have HF : Hid (Wd.wfault ks X = f) := hf.symm
  have B1 : Hid (Below w.heap.size w w1) := B0.out.trans (hb.mono B0.out.size)
  have X1 : Hid (Bw w1 w.heap.size X (.slice p1 X.gs.length q1) (.slice p2 X.os.length q2) (.slice p3 X.gold.length q3) (.slice p4 X.us.length q4) (.slice p5 X.qs.length q5)) := X0.out.below hb X0.out.lt
  obtain ⟨g, hgg⟩ : ∃ g, (if f = 0 ∧ 200 < ls.length then (4 : Int) else f) = g := ⟨_, rfl⟩
  have GG : Hid ((if f = 0 ∧ 200 < ls.length then (4 : Int) else f) = g) := hgg
  clear hf hb hgg X0 B0 x0 x1 x2 x3 x4 x5 x6 x7 x8
  obtain ⟨bd, hbd⟩ : ∃ b, decide (f = 0 ∧ 200 < ls.length) = b := ⟨_, rfl⟩
  have BD : Hid (decide (f = 0 ∧ 200 < ls.length) = bd) := hbd
  clear hbd
  go_upto_region 2 with fail
  go_cut [23] from 14 (fun v23 V => v23 = .bool bd ∧ V = w1)
  case first =>
    by_cases hf0 : f = 0
    case neg =>
      have hf1 : (f == 0) = false := by rw [beq_eq_false_iff_ne]; exact hf0
      have E : Hid (bd = false) := by
        unfold Hid
        rw [← BD.out]
        exact decide_eq_false (fun k => hf0 k.1)
      go_wp2_with fail
      go_meet
      case rel => exact ⟨by rw [E.out], rfl⟩
    case pos =>
      subst hf0
      by_cases hln : 200 < ls.length
      · have hln' : (200 : Int) < (ls.length : Int) := by omega
        have E : Hid (bd = true) := by
          unfold Hid
          rw [← BD.out]
          exact decide_eq_true ⟨rfl, hln⟩
        go_wp2_with fail
        go_meet
        case rel => exact ⟨by rw [E.out], rfl⟩
      · have hln' : ¬ (200 : Int) < (ls.length : Int) := by omega
        have E : Hid (bd = false) := by
          unfold Hid
          rw [← BD.out]
          exact decide_eq_false (fun k => hln k.2)
        go_wp2_with fail
        go_meet
        case rel => exact ⟨by rw [E.out], rfl⟩
  case rest =>
  obtain ⟨rfl, hV⟩ := hcut
  obtain rfl : w1 = wc := hV.symm
  clear hV
  go_upto_if 23 with fail
  go_cut [7] from 14 (fun v7 V => v7 = .int .i64 g ∧ V = w1)
  case first =>
    cases bd with
    | true =>
      have E : Hid (g = 4) := by
        unfold Hid
        rw [← GG.out, if_pos (of_decide_eq_true BD.out)]
      go_wp2_with fail
      go_meet
      case rel => exact ⟨by rw [E.out], rfl⟩
    | false =>
      have E : Hid (g = f) := by
        unfold Hid
        rw [← GG.out, if_neg (of_decide_eq_false BD.out)]
      go_wp2_with fail
      go_meet
      case rel => exact ⟨by rw [E.out], rfl⟩
  case rest =>
  obtain ⟨rfl, hV⟩ := hcut
  obtain rfl : w1 = wc := hV.symm
  clear hV BD
  obtain ⟨x0, x1, x2, x3, x4, x5, x6, x7, x8⟩ := X1.out
  go_wp2_with fail
  refine (rcopyz_any _ X w1 (H.out.below B1.out) FZ.out).mono ?_
  rintro e w2 ⟨cu, rfl, hwi, hb⟩
  have WI : Hid (Wl w2 cu X) := hwi.wo.l
  obtain ⟨a1, r1, a2, r2, a3, r3, a4, r4, a5, r5, hvv⟩ := wl_shape9 WI.out
  subst hvv
  have B2 : Hid (Below w.heap.size w w2) := B1.out.trans (hb.mono B1.out.size)
  have X2 : Hid (Bw w2 w.heap.size X (.slice p1 X.gs.length q1) (.slice p2 X.os.length q2) (.slice p3 X.gold.length q3) (.slice p4 X.us.length q4) (.slice p5 X.qs.length q5)) := X1.out.below hb X1.out.lt
  clear hwi hb x0 x1 x2 x3 x4 x5 x6 x7 x8 X1 B1
  go_upto_region 5 with fail
  obtain ⟨bq, hbq⟩ : ∃ z, w2.heap.size = z := ⟨_, rfl⟩
  have BA : Hid (Below w2.heap.size w2 (w2.alloc (Obj.cells #[.int .i64 X.turn, .int .i64 X.next, .int .i64 X.wide, .int .i64 X.high, .slice a1 X.gs.length r1, .slice a2 X.os.length r2, .slice a3 X.gold.length r3, .slice a4 X.us.length r4, .slice a5 X.qs.length r5] 29))) := (Below.refl _ _).alloc (Nat.le_refl _) _
  have QX : Hid (Wx (w2.alloc (Obj.cells #[.int .i64 X.turn, .int .i64 X.next, .int .i64 X.wide, .int .i64 X.high, .slice a1 X.gs.length r1, .slice a2 X.os.length r2, .slice a3 X.gold.length r3, .slice a4 X.us.length r4, .slice a5 X.qs.length r5] 29)) bq (.int .i64 X.turn) (.int .i64 X.next) (.int .i64 X.wide) (.int .i64 X.high) (.slice a1 X.gs.length r1) (.slice a2 X.os.length r2) (.slice a3 X.gold.length r3) (.slice a4 X.us.length r4) (.slice a5 X.qs.length r5)) := Wx.new _ _ _ _ _ _ _ _ _ hbq
  (try rw [hbq])
  have NQ : Hid (w.heap.size < bq) := by have := X2.out.lt; unfold Hid; omega
  generalize (w2.alloc (Obj.cells #[.int .i64 X.turn, .int .i64 X.next, .int .i64 X.wide, .int .i64 X.high, .slice a1 X.gs.length r1, .slice a2 X.os.length r2, .slice a3 X.gold.length r3, .slice a4 X.us.length r4, .slice a5 X.qs.length r5] 29)) = w3 at *
  have B3 : Hid (Below w.heap.size w w3) := B2.out.trans (BA.out.mono B2.out.size)
  have X3 : Hid (Bw w3 w.heap.size X (.slice p1 X.gs.length q1) (.slice p2 X.os.length q2) (.slice p3 X.gold.length q3) (.slice p4 X.us.length q4) (.slice p5 X.qs.length q5)) := X2.out.below BA.out X2.out.lt
  have WX3 : Hid (WB w3 bq X) := ⟨a1, r1, a2, r2, a3, r3, a4, r4, a5, r5, QX.out, WI.out.below BA.out⟩
  have PF : Hid (PlayL ks X ls 0 g X) := PlayL.first HF.out GG.out
  clear hbq BA B2 X2 QX WI
  go_upto_block 0 with fail
  go_cut [7, 9] from 14 (fun v7 v9 V => ∃ n e D, v7 = .int .i64 e ∧ PlayL ks X ls n e D ∧ (e = 0 → n = ls.length) ∧ WB V bq D ∧ Below w.heap.size w V ∧ Bw V w.heap.size X (.slice p1 X.gs.length q1) (.slice p2 X.os.length q2) (.slice p3 X.gold.length q3) (.slice p4 X.us.length q4) (.slice p5 X.qs.length q5))
  case first =>
    go_wp2_with fail
    go_loopw [7, 9] (fun v7 v9 V => ∃ (n : Nat) (e : Int) (D : WV), n ≤ ls.length ∧ v7 = .int .i64 e ∧ v9 = .int .i64 (n : Nat) ∧ PlayL ks X ls n e D ∧ WB V bq D ∧ Below w.heap.size w V ∧ Bw V w.heap.size X (.slice p1 X.gs.length q1) (.slice p2 X.os.length q2) (.slice p3 X.gold.length q3) (.slice p4 X.us.length q4) (.slice p5 X.qs.length q5)) (fun _ v9 _ => ls.length - (intOf v9).toNat)
    case atStart => exact ⟨0, g, X, Nat.zero_le _, rfl, rfl, PF.out, WX3.out, B3.out, X3.out⟩
    case round =>
    obtain ⟨n, e, D, hn, rfl, rfl, hp, hd, hb, hx⟩ := hrel
    have PL : Hid (PlayL ks X ls n e D) := hp
    have WDr : Hid (WB wr bq D) := hd
    have Br : Hid (Below w.heap.size w wr) := hb
    have Xr : Hid (Bw wr w.heap.size X (.slice p1 X.gs.length q1) (.slice p2 X.os.length q2) (.slice p3 X.gold.length q3) (.slice p4 X.us.length q4) (.slice p5 X.qs.length q5)) := hx
    clear hp hd hb hx
    by_cases he : e = 0
    case neg =>
      have he1 : (e == 0) = false := by rw [beq_eq_false_iff_ne]; exact he
      have HN : Hid (e ≠ 0) := he
      clear he
      by_cases hnl : n < ls.length
      · have hni : ((n : Nat) : Int) < (ls.length : Nat) := by omega
        go_wp2_with fail
        go_meet
        case rel => exact ⟨n, e, D, rfl, PL.out, fun h => absurd h HN.out, WDr.out, Br.out, Xr.out⟩
      · have hni : ¬ ((n : Nat) : Int) < (ls.length : Nat) := by omega
        go_wp2_with fail
        go_meet
        case rel => exact ⟨n, e, D, rfl, PL.out, fun h => absurd h HN.out, WDr.out, Br.out, Xr.out⟩
    case pos =>
    subst he
    by_cases hnl : n = ls.length
    case pos =>
      have HE : Hid (n = ls.length) := hnl
      have hni : ¬ ((n : Nat) : Int) < (ls.length : Nat) := by omega
      have hnn : ¬ n < ls.length := by omega
      clear hnl
      go_wp2_with fail
      go_meet
      case rel => exact ⟨n, 0, D, rfl, PL.out, fun _ => HE.out, WDr.out, Br.out, Xr.out⟩
    case neg =>
    have hnn : n < ls.length := by omega
    have hni : ((n : Nat) : Int) < (ls.length : Nat) := by omega
    have hl2 : ls.length ≤ 200 := PL.out.zero.2.1
    clear hnl
    obtain ⟨lo, hlo⟩ : ∃ l, ls[n]? = some l := ⟨_, List.getElem?_eq_getElem hnn⟩
    obtain ⟨a', c', e', -, -, hq⟩ := L.out
    injection e' with e1' e2' e3'
    subst e1' e3'
    obtain ⟨xl, rfl, xlt, hcc⟩ := hq (by rintro rfl; simp at hnn)
    obtain ⟨vo, co, ho⟩ := hcc n lo hlo
    have CO : Hid (w.cell? (xl.add n) = some vo ∧ (xl.add n).block < w.heap.size ∧ Orl w vo lo ∧ ls[n]? = some lo) := ⟨co, by rw [add_block]; exact xlt, ho, hlo⟩
    clear hq hcc hlo xlt co ho e2'
    obtain ⟨m1, n1, m2, n2, m3, n3, m4, n4, m5, n5, hd1, hd2⟩ := WDr.out
    have DX : Hid (Wx wr bq (.int .i64 D.turn) (.int .i64 D.next) (.int .i64 D.wide) (.int .i64 D.high) (.slice m1 D.gs.length n1) (.slice m2 D.os.length n2) (.slice m3 D.gold.length n3) (.slice m4 D.us.length n4) (.slice m5 D.qs.length n5)) := hd1
    have DL : Hid (Wl wr (.agg #[.int .i64 D.turn, .int .i64 D.next, .int .i64 D.wide, .int .i64 D.high, .slice m1 D.gs.length n1, .slice m2 D.os.length n2, .slice m3 D.gold.length n3, .slice m4 D.us.length n4, .slice m5 D.qs.length n5]) D) := hd2
    clear hd1 hd2
    have CB : Hid (∀ V, Below wr.heap.size wr V → (Wx V bq (.int .i64 D.turn) (.int .i64 D.next) (.int .i64 D.wide) (.int .i64 D.high) (.slice m1 D.gs.length n1) (.slice m2 D.os.length n2) (.slice m3 D.gold.length n3) (.slice m4 D.us.length n4) (.slice m5 D.qs.length n5) ∧ V.cell? (xl.add n) = some vo)) := fun V hV => ⟨DX.out.below hV DX.out.lt, by rw [(Br.out.trans (hV.mono Br.out.size)).cell CO.out.2.1]; exact CO.out.1⟩
    have DE : Hid (Below wr.heap.size wr { wr with drawn := wr.drawn + 1 }) := (Below.refl _ _).drew
    go_upto_region 8 with fail
    refine wp_region_two [(true, 0), (true, 1), (true, 2), (true, 3), (true, 4), (true, 5), (false, 6)] [(false, 7), (true, 8), (true, 9), (true, 10), (false, 11), (false, 12)] (fun V => Wx V bq (.int .i64 D.turn) (.int .i64 D.next) (.int .i64 D.wide) (.int .i64 D.high) (.slice m1 D.gs.length n1) (.slice m2 D.os.length n2) (.slice m3 D.gold.length n3) (.slice m4 D.us.length n4) (.slice m5 D.qs.length n5) ∧ V.cell? (xl.add n) = some vo) (by kernel_rfl) (by kernel_rfl) (by kernel_rfl) (by decide +kernel) (by decide +kernel) (CB.out _ (Below.refl _ _).drew) ?_
    generalize ({ wr with drawn := wr.drawn + 1 } : World) = u1 at *
    refine headT_read rfl (.slice pk ks.length qk) (by go_simp) (fun V hV => by obtain ⟨hV1, cxo⟩ := hV; obtain ⟨x0, x1, x2, x3, x4, x5, x6, x7, x8⟩ := hV1.cells; go_simp) ?_
    go_simp
    refine headT_read rfl (.agg #[.int .i64 D.turn, .int .i64 D.next, .int .i64 D.wide, .int .i64 D.high, .slice m1 D.gs.length n1, .slice m2 D.os.length n2, .slice m3 D.gold.length n3, .slice m4 D.us.length n4, .slice m5 D.qs.length n5]) (by go_simp) (fun V hV => by obtain ⟨hV1, cxo⟩ := hV; obtain ⟨x0, x1, x2, x3, x4, x5, x6, x7, x8⟩ := hV1.cells; go_simp) ?_
    go_simp
    refine headT_read rfl (.slice (some xl) ls.length ql) (by go_simp) (fun V hV => by obtain ⟨hV1, cxo⟩ := hV; obtain ⟨x0, x1, x2, x3, x4, x5, x6, x7, x8⟩ := hV1.cells; go_simp) ?_
    go_simp
    refine headT_read rfl (.int .i64 (n : Nat)) (by go_simp) (fun V hV => by obtain ⟨hV1, cxo⟩ := hV; obtain ⟨x0, x1, x2, x3, x4, x5, x6, x7, x8⟩ := hV1.cells; go_simp) ?_
    go_simp
    refine headT_read rfl (.pointer (some (xl.add n))) (by go_simp) (fun V hV => by obtain ⟨hV1, cxo⟩ := hV; obtain ⟨x0, x1, x2, x3, x4, x5, x6, x7, x8⟩ := hV1.cells; go_simp) ?_
    go_simp
    refine headT_read rfl (vo) (by go_simp) (fun V hV => by obtain ⟨hV1, cxo⟩ := hV; obtain ⟨x0, x1, x2, x3, x4, x5, x6, x7, x8⟩ := hV1.cells; go_simp) ?_
    go_simp
    refine headT_call rfl 21 #[.slice pk ks.length qk, .agg #[.int .i64 D.turn, .int .i64 D.next, .int .i64 D.wide, .int .i64 D.high, .slice m1 D.gs.length n1, .slice m2 D.os.length n2, .slice m3 D.gold.length n3, .slice m4 D.us.length n4, .slice m5 D.qs.length n5], vo] (by go_simp) (by go_simp) ?_
    have BB : Hid (Below w.heap.size w u1) := Br.out.trans (DE.out.mono Br.out.size)
    refine (rstep_any _ _ _ ks D lo u1 (K.out.1.below BB.out) K.out.2 (DL.out.below DE.out) (CO.out.2.2.1.below BB.out) (SDH.out.below BB.out)).mono ?_
    rintro e u2 ⟨v, ev, rfl, hy, hb⟩
    obtain ⟨F, hF⟩ : ∃ f, stepFault ks D lo = f := ⟨_, rfl⟩
    have SF : Hid (stepFault ks D lo = F) := hF
    rw [hF]
    obtain ⟨Q, es, hw, hwo, -⟩ := step_own hy
    have NX : Hid (PlayL ks X ls (n + 1) F Q) := PL.out.next CO.out.2.2.2 SF.out hw
    obtain ⟨nu, hnu⟩ : ∃ z, u1.heap.size = z := ⟨_, rfl⟩
    have NU : Hid (bq < nu) := by have h1 := DX.out.lt; have h2 := DE.out.size; unfold Hid; omega
    rw [hnu] at hwo
    obtain ⟨s1, k1, s2, k2, s3, k3, s4, k4, s5, k5, hvv⟩ := wl_shape9 hwo.l
    subst hvv
    have LQ : Hid (Wo u2 nu (.agg #[.int .i64 Q.turn, .int .i64 Q.next, .int .i64 Q.wide, .int .i64 Q.high, .slice s1 Q.gs.length k1, .slice s2 Q.os.length k2, .slice s3 Q.gold.length k3, .slice s4 Q.us.length k4, .slice s5 Q.qs.length k5]) Q) := hwo
    have D2 : Hid (Below wr.heap.size wr u2) := DE.out.trans (hb.mono DE.out.size)
    have X2 : Hid (Wx u2 bq (.int .i64 D.turn) (.int .i64 D.next) (.int .i64 D.wide) (.int .i64 D.high) (.slice m1 D.gs.length n1) (.slice m2 D.os.length n2) (.slice m3 D.gold.length n3) (.slice m4 D.us.length n4) (.slice m5 D.qs.length n5)) := DX.out.below D2.out DX.out.lt
    refine ⟨_, rfl, CB.out _ D2.out, ?_⟩
    clear hb hwo hw hy hF hnu CB BB DE
    go_simp
    unfold wpHeadT
    refine sched_value rfl (.tuple #[.agg #[.int .i64 Q.turn, .int .i64 Q.next, .int .i64 Q.wide, .int .i64 Q.high, .slice s1 Q.gs.length k1, .slice s2 Q.os.length k2, .slice s3 Q.gold.length k3, .slice s4 Q.us.length k4, .slice s5 Q.qs.length k5], ev, .int .i64 F]) u2 (by go_simp) (by go_simp) trivial ?_
    go_simp
    refine sched_read rfl (.agg #[.int .i64 Q.turn, .int .i64 Q.next, .int .i64 Q.wide, .int .i64 Q.high, .slice s1 Q.gs.length k1, .slice s2 Q.os.length k2, .slice s3 Q.gold.length k3, .slice s4 Q.us.length k4, .slice s5 Q.qs.length k5]) (by go_simp) (fun V _ => by go_simp) ?_
    go_simp
    refine sched_read rfl ev (by go_simp) (fun V _ => by go_simp) ?_
    go_simp
    refine sched_read rfl (.int .i64 F) (by go_simp) (fun V _ => by go_simp) ?_
    go_simp
    obtain ⟨z0, z1, z2, z3, z4, z5, z6, z7, z8⟩ := X2.out.cells
    obtain ⟨t0, t1, t2, t3, t4, t5, t6, t7, t8⟩ := X2.out.thaws
    have KW : Hid (Kp bq u2 (((((((((u2.setCell ⟨bq, 0, none⟩ (.int .i64 Q.turn)).setCell ⟨bq, 1, none⟩ (.int .i64 Q.next)).setCell ⟨bq, 2, none⟩ (.int .i64 Q.wide)).setCell ⟨bq, 3, none⟩ (.int .i64 Q.high)).setCell ⟨bq, 4, none⟩ (.slice s1 Q.gs.length k1)).setCell ⟨bq, 5, none⟩ (.slice s2 Q.os.length k2)).setCell ⟨bq, 6, none⟩ (.slice s3 Q.gold.length k3)).setCell ⟨bq, 7, none⟩ (.slice s4 Q.us.length k4)).setCell ⟨bq, 8, none⟩ (.slice s5 Q.qs.length k5))) := put_kp _ _ _ _ _ _ _ _ _ _ _
    have PX : Hid (Wx (((((((((u2.setCell ⟨bq, 0, none⟩ (.int .i64 Q.turn)).setCell ⟨bq, 1, none⟩ (.int .i64 Q.next)).setCell ⟨bq, 2, none⟩ (.int .i64 Q.wide)).setCell ⟨bq, 3, none⟩ (.int .i64 Q.high)).setCell ⟨bq, 4, none⟩ (.slice s1 Q.gs.length k1)).setCell ⟨bq, 5, none⟩ (.slice s2 Q.os.length k2)).setCell ⟨bq, 6, none⟩ (.slice s3 Q.gold.length k3)).setCell ⟨bq, 7, none⟩ (.slice s4 Q.us.length k4)).setCell ⟨bq, 8, none⟩ (.slice s5 Q.qs.length k5)) bq (.int .i64 Q.turn) (.int .i64 Q.next) (.int .i64 Q.wide) (.int .i64 Q.high) (.slice s1 Q.gs.length k1) (.slice s2 Q.os.length k2) (.slice s3 Q.gold.length k3) (.slice s4 Q.us.length k4) (.slice s5 Q.qs.length k5)) := X2.out.put _ _ _ _ _ _ _ _ _
    refine sched_skip rfl (((((((((u2.setCell ⟨bq, 0, none⟩ (.int .i64 Q.turn)).setCell ⟨bq, 1, none⟩ (.int .i64 Q.next)).setCell ⟨bq, 2, none⟩ (.int .i64 Q.wide)).setCell ⟨bq, 3, none⟩ (.int .i64 Q.high)).setCell ⟨bq, 4, none⟩ (.slice s1 Q.gs.length k1)).setCell ⟨bq, 5, none⟩ (.slice s2 Q.os.length k2)).setCell ⟨bq, 6, none⟩ (.slice s3 Q.gold.length k3)).setCell ⟨bq, 7, none⟩ (.slice s4 Q.us.length k4)).setCell ⟨bq, 8, none⟩ (.slice s5 Q.qs.length k5)) (by go_simp) (by go_simp) trivial ?_
    clear z0 z1 z2 z3 z4 z5 z6 z7 z8 t0 t1 t2 t3 t4 t5 t6 t7 t8
    generalize (((((((((u2.setCell ⟨bq, 0, none⟩ (.int .i64 Q.turn)).setCell ⟨bq, 1, none⟩ (.int .i64 Q.next)).setCell ⟨bq, 2, none⟩ (.int .i64 Q.wide)).setCell ⟨bq, 3, none⟩ (.int .i64 Q.high)).setCell ⟨bq, 4, none⟩ (.slice s1 Q.gs.length k1)).setCell ⟨bq, 5, none⟩ (.slice s2 Q.os.length k2)).setCell ⟨bq, 6, none⟩ (.slice s3 Q.gold.length k3)).setCell ⟨bq, 7, none⟩ (.slice s4 Q.us.length k4)).setCell ⟨bq, 8, none⟩ (.slice s5 Q.qs.length k5)) = u9 at *
    go_simp
    refine sched_value rfl (.int .i64 F) u9 (by go_simp) (by go_simp) trivial ?_
    go_simp
    unfold wpSched
    have B9 : Hid (Below w.heap.size w u9) := KW.out.below (Br.out.trans (D2.out.mono Br.out.size)) (Nat.le_trans Br.out.size D2.out.size) (Nat.le_of_lt NQ.out)
    have X9 : Hid (Bw u9 w.heap.size X (.slice p1 X.gs.length q1) (.slice p2 X.os.length q2) (.slice p3 X.gold.length q3) (.slice p4 X.us.length q4) (.slice p5 X.qs.length q5)) := (Xr.out.below D2.out Xr.out.lt).kp9 KW.out (by have := NQ.out; omega)
    have W9 : Hid (WB u9 bq Q) := ⟨s1, k1, s2, k2, s3, k3, s4, k4, s5, k5, PX.out, (LQ.out.kp KW.out NU.out).l⟩
    go_wp2
    go_round
    case rel => exact ⟨n + 1, F, Q, by omega, rfl, by go_num, NX.out, W9.out, B9.out, X9.out⟩
    case measure => simp [intOf]; omega
  case rest =>
  obtain ⟨n, e, D, rfl, hp, hq, hd, hb, hx⟩ := hcut
  have PL : Hid (PlayL ks X ls n e D ∧ (e = 0 → n = ls.length)) := ⟨hp, hq⟩
  obtain ⟨w6, hw6⟩ : ∃ V, V = wc := ⟨_, rfl⟩
  subst hw6
  have B6 : Hid (Below w.heap.size w w6) := hb
  have X6 : Hid (Bw w6 w.heap.size X (.slice p1 X.gs.length q1) (.slice p2 X.os.length q2) (.slice p3 X.gold.length q3) (.slice p4 X.us.length q4) (.slice p5 X.qs.length q5)) := hx
  have WD6 : Hid (WB w6 bq D) := hd
  clear hp hq hd hb hx
  go_upto_if 48 with fail
  go_cut [7] from 14 (fun v7 V => v7 = .int .i64 e ∧ ∃ D, PlayW ks X ls e D ∧ WB V bq D ∧ Below w.heap.size w V ∧ Bw V w.heap.size X (.slice p1 X.gs.length q1) (.slice p2 X.os.length q2) (.slice p3 X.gold.length q3) (.slice p4 X.us.length q4) (.slice p5 X.qs.length q5))
  case first =>
    by_cases he : e = 0
    · subst he
      have PW : Hid (PlayW ks X ls 0 D) := PL.out.1.good (PL.out.2 rfl)
      go_wp2_with fail
      go_meet
      case rel => exact ⟨rfl, D, PW.out, WD6.out, B6.out, X6.out⟩
    · have PW : Hid (PlayW ks X ls e WV.zero) := PL.out.1.bad he
      have he1 : (e == 0) = false := by rw [beq_eq_false_iff_ne]; exact he
      clear he
      obtain ⟨m1, n1, m2, n2, m3, n3, m4, n4, m5, n5, hd1, hd2⟩ := WD6.out
      have DX : Hid (Wx w6 bq (.int .i64 D.turn) (.int .i64 D.next) (.int .i64 D.wide) (.int .i64 D.high) (.slice m1 D.gs.length n1) (.slice m2 D.os.length n2) (.slice m3 D.gold.length n3) (.slice m4 D.us.length n4) (.slice m5 D.qs.length n5)) := hd1
      clear hd1 hd2
      go_upto_region 10 with fail
      obtain ⟨z0, z1, z2, z3, z4, z5, z6, z7, z8⟩ := DX.out.cells
      obtain ⟨t0, t1, t2, t3, t4, t5, t6, t7, t8⟩ := DX.out.thaws
      have KW : Hid (Kp bq w6 (((((((((w6.setCell ⟨bq, 0, none⟩ (.int .i64 0)).setCell ⟨bq, 1, none⟩ (.int .i64 0)).setCell ⟨bq, 2, none⟩ (.int .i64 0)).setCell ⟨bq, 3, none⟩ (.int .i64 0)).setCell ⟨bq, 4, none⟩ (.slice none 0 0)).setCell ⟨bq, 5, none⟩ (.slice none 0 0)).setCell ⟨bq, 6, none⟩ (.slice none 0 0)).setCell ⟨bq, 7, none⟩ (.slice none 0 0)).setCell ⟨bq, 8, none⟩ (.slice none 0 0))) := put_kp _ _ _ _ _ _ _ _ _ _ _
      have PX : Hid (Wx (((((((((w6.setCell ⟨bq, 0, none⟩ (.int .i64 0)).setCell ⟨bq, 1, none⟩ (.int .i64 0)).setCell ⟨bq, 2, none⟩ (.int .i64 0)).setCell ⟨bq, 3, none⟩ (.int .i64 0)).setCell ⟨bq, 4, none⟩ (.slice none 0 0)).setCell ⟨bq, 5, none⟩ (.slice none 0 0)).setCell ⟨bq, 6, none⟩ (.slice none 0 0)).setCell ⟨bq, 7, none⟩ (.slice none 0 0)).setCell ⟨bq, 8, none⟩ (.slice none 0 0)) bq (.int .i64 0) (.int .i64 0) (.int .i64 0) (.int .i64 0) (.slice none 0 0) (.slice none 0 0) (.slice none 0 0) (.slice none 0 0) (.slice none 0 0)) := DX.out.put _ _ _ _ _ _ _ _ _
      go_wp2_with fail
      clear z0 z1 z2 z3 z4 z5 z6 z7 z8 t0 t1 t2 t3 t4 t5 t6 t7 t8
      generalize (((((((((w6.setCell ⟨bq, 0, none⟩ (.int .i64 0)).setCell ⟨bq, 1, none⟩ (.int .i64 0)).setCell ⟨bq, 2, none⟩ (.int .i64 0)).setCell ⟨bq, 3, none⟩ (.int .i64 0)).setCell ⟨bq, 4, none⟩ (.slice none 0 0)).setCell ⟨bq, 5, none⟩ (.slice none 0 0)).setCell ⟨bq, 6, none⟩ (.slice none 0 0)).setCell ⟨bq, 7, none⟩ (.slice none 0 0)).setCell ⟨bq, 8, none⟩ (.slice none 0 0)) = w7 at *
      go_meet
      case rel => exact ⟨rfl, WV.zero, PW.out, ⟨none, 0, none, 0, none, 0, none, 0, none, 0, PX.out, (zero_wo w7 0).l⟩, KW.out.below B6.out B6.out.size (Nat.le_of_lt NQ.out), X6.out.kp9 KW.out (by have := NQ.out; omega)⟩
  case rest =>
  obtain ⟨rfl, D, hp, hd, hb, hx⟩ := hcut
  have PW : Hid (PlayW ks X ls e D) := hp
  obtain ⟨w8, hw8⟩ : ∃ V, V = wc := ⟨_, rfl⟩
  subst hw8
  have B8 : Hid (Below w.heap.size w w8) := hb
  have X8 : Hid (Bw w8 w.heap.size X (.slice p1 X.gs.length q1) (.slice p2 X.os.length q2) (.slice p3 X.gold.length q3) (.slice p4 X.us.length q4) (.slice p5 X.qs.length q5)) := hx
  have WD8 : Hid (WB w8 bq D) := hd
  clear hp hd hb hx PL WD6 X6 B6
  obtain ⟨x0, x1, x2, x3, x4, x5, x6, x7, x8⟩ := X8.out
  go_wp2_with fail
  refine (Play_any _ _ _ ks X ls w8 (K.out.1.below B8.out) K.out.2 (H.out.below B8.out) (L.out.below B8.out) (SDH.out.below B8.out)).mono ?_
  rintro e1 w9 ⟨v, r, F, rfl, hr, hy, hb⟩
  obtain ⟨hF, hv⟩ := play_is PW.out hy
  rw [hF] at hr
  have ER : Hid (Er r e) := hr
  have GL : Hid (Wl w9 v D) := hv
  have B9 : Hid (Below w.heap.size w w9) := B8.out.trans (hb.mono B8.out.size)
  have WD9 : Hid (WB w9 bq D) := WD8.out.below hb
  obtain ⟨m1, n1, m2, n2, m3, n3, m4, n4, m5, n5, hvv⟩ := wl_shape9 GL.out
  subst hvv
  clear hb hr hy hF hv x0 x1 x2 x3 x4 x5 x6 x7 x8 X8 B8 WD8
  go_upto_region 12 with fail
  have BA : Hid (Below w9.heap.size w9 (w9.alloc (Obj.cells #[.int .i64 D.turn, .int .i64 D.next, .int .i64 D.wide, .int .i64 D.high, .slice m1 D.gs.length n1, .slice m2 D.os.length n2, .slice m3 D.gold.length n3, .slice m4 D.us.length n4, .slice m5 D.qs.length n5] 29))) := (Below.refl _ _).alloc (Nat.le_refl _) _
  obtain ⟨bs, hbs⟩ : ∃ z, w9.heap.size = z := ⟨_, rfl⟩
  have QX : Hid (Wx (w9.alloc (Obj.cells #[.int .i64 D.turn, .int .i64 D.next, .int .i64 D.wide, .int .i64 D.high, .slice m1 D.gs.length n1, .slice m2 D.os.length n2, .slice m3 D.gold.length n3, .slice m4 D.us.length n4, .slice m5 D.qs.length n5] 29)) bs (.int .i64 D.turn) (.int .i64 D.next) (.int .i64 D.wide) (.int .i64 D.high) (.slice m1 D.gs.length n1) (.slice m2 D.os.length n2) (.slice m3 D.gold.length n3) (.slice m4 D.us.length n4) (.slice m5 D.qs.length n5)) := Wx.new _ _ _ _ _ _ _ _ _ hbs
  (try rw [hbs])
  generalize w9.alloc (Obj.cells #[.int .i64 D.turn, .int .i64 D.next, .int .i64 D.wide, .int .i64 D.high, .slice m1 D.gs.length n1, .slice m2 D.os.length n2, .slice m3 D.gold.length n3, .slice m4 D.us.length n4, .slice m5 D.qs.length n5] 29) = w10 at *
  have B10 : Hid (Below w.heap.size w w10) := B9.out.trans (BA.out.mono B9.out.size)
  have WD10 : Hid (WB w10 bq D) := WD9.out.below BA.out
  have GM : Hid (Wl w10 (.agg #[.int .i64 D.turn, .int .i64 D.next, .int .i64 D.wide, .int .i64 D.high, .slice m1 D.gs.length n1, .slice m2 D.os.length n2, .slice m3 D.gold.length n3, .slice m4 D.us.length n4, .slice m5 D.qs.length n5]) D) := GL.out.below BA.out
  clear hbs BA GL B9 WD9
  go_wp2_with fail
  refine (er_same _ _ w10 ER.out (HG.out.below B10.out)).mono ?_
  rintro e2 w11 ⟨rfl, hb⟩
  have B11 : Hid (Below w.heap.size w w11) := B10.out.trans (hb.mono B10.out.size)
  have WD11 : Hid (WB w11 bq D) := WD10.out.below hb
  have GN : Hid (Wl w11 (.agg #[.int .i64 D.turn, .int .i64 D.next, .int .i64 D.wide, .int .i64 D.high, .slice m1 D.gs.length n1, .slice m2 D.os.length n2, .slice m3 D.gold.length n3, .slice m4 D.us.length n4, .slice m5 D.qs.length n5]) D) := GM.out.below hb
  have QY : Hid (Wx w11 bs (.int .i64 D.turn) (.int .i64 D.next) (.int .i64 D.wide) (.int .i64 D.high) (.slice m1 D.gs.length n1) (.slice m2 D.os.length n2) (.slice m3 D.gold.length n3) (.slice m4 D.us.length n4) (.slice m5 D.qs.length n5)) := QX.out.below hb QX.out.lt
  clear hb GM QX ER B10 WD10
  obtain ⟨c1, d1, c2, d2, c3, d3, c4, d4, c5, d5, hc1, hc2⟩ := WD11.out
  obtain ⟨z0, z1, z2, z3, z4, z5, z6, z7, z8⟩ := hc1.cells
  obtain ⟨y0, y1, y2, y3, y4, y5, y6, y7, y8⟩ := QY.out.cells
  have HC2 : Hid (Wl w11 (.agg #[.int .i64 D.turn, .int .i64 D.next, .int .i64 D.wide, .int .i64 D.high, .slice c1 D.gs.length d1, .slice c2 D.os.length d2, .slice c3 D.gold.length d3, .slice c4 D.us.length d4, .slice c5 D.qs.length d5]) D) := hc2
  clear hc1 hc2
  go_wp2_with fail
  refine (worlds_like _ _ D w11 GN.out HC2.out).mono ?_
  rintro e3 w12 ⟨rfl, hb⟩
  have B12 : Hid (Below w.heap.size w w12) := B11.out.trans (hb.mono B11.out.size)
  clear hb GN QY HC2 z0 z1 z2 z3 z4 z5 z6 z7 z8 y0 y1 y2 y3 y4 y5 y6 y7 y8 B11 WD11
  go_wp2
  go_ret
  exact ⟨rfl, B12.out⟩
end Go.Proofs.YteieikgkmfglaaaGreatDoor.turnPlays

namespace Go.Proofs.YteieikgkmfglaaaGreatDoor
open Go.ChangeShapes Go.WideShapes Go.ChangeAt Go.RowKit
set_option linter.unusedVariables false

theorem sides_g : Tryz.prog.globalNamed "marchland/field.sides" = some 1 := by kernel_rfl
theorem sides_t : (Tryz.prog.globals[1]?).map (·.type) = some 203 := by kernel_rfl
theorem side_cs : Tryz.prog.cellsOf 202 = 2 := by kernel_rfl
theorem int_cs : Tryz.prog.cellsOf 3 = 1 := by kernel_rfl

theorem len2 {α : Type} {l : List α} (h : l.length = 2) : ∃ a b, l = [a, b] := by
  match l, h with
  | [a, b], _ => exact ⟨a, b, rfl⟩
theorem len4 {α : Type} {l : List α} (h : l.length = 4) : ∃ a b c d, l = [a, b, c, d] := by
  match l, h with
  | [a, b, c, d], _ => exact ⟨a, b, c, d, rfl⟩

set_option maxRecDepth 100000 in
theorem side_cells {w : World} {fuel : Nat} {cs : List Value} {a b : Int} {y : DataW Unit × List MemPlace} (h : DataW.trod (fun _ => ()) Tryz.prog w 0 (fun _ => true) false fuel 202 cs = some y) (hy : y.1 = .agg [.lit (.int .i64 a), .lit (.int .i64 b)]) : cs = [.int .i64 a, .int .i64 b] := by
  obtain ⟨y0, y1, n, hx, hl, h0, h1⟩ := trod_struct2 Tryz.underlying202 h
  obtain ⟨p, e0, f0, -⟩ := DataW.trod_int Tryz.underlying3 h0
  obtain ⟨q, e1, f1, -⟩ := DataW.trod_int Tryz.underlying3 h1
  rw [hx, f0, f1] at hy
  simp only [DataW.agg.injEq, List.cons.injEq, DataW.lit.injEq, Lit.int.injEq, true_and, and_true] at hy
  obtain ⟨rfl, rfl⟩ := hy
  dsimp only at e0 e1
  rw [int_cs] at e0 e1
  rw [side_cs] at hl
  obtain ⟨c0, c1, rfl⟩ := len2 hl
  simp at e0 e1
  rw [e0, e1]

set_option maxRecDepth 100000 in
theorem sd_of_laid {w : World} (h : laidMet Tryz.prog [("marchland/field.sides", Rows.laid_marchland_field_sides)] w) : Sd w := by
  obtain ⟨ps, ⟨g, t, cs, fuel, p, q, h1, h2, h3, h4, -, -⟩, -, -⟩ := h
  obtain rfl := Option.some.inj (sides_g.symm.trans h1)
  obtain rfl := Option.some.inj (sides_t.symm.trans h2)
  obtain ⟨xs, m, -, hx, hl, hn, hi⟩ := DataW.trod_array Tryz.underlying203 h4
  have hd : xs.map (·.1) = [.agg [.lit (.int .i64 0), .lit (.int .i64 (-1))], .agg [.lit (.int .i64 (-1)), .lit (.int .i64 0)], .agg [.lit (.int .i64 1), .lit (.int .i64 0)], .agg [.lit (.int .i64 0), .lit (.int .i64 1)]] := by
    have e : Rows.laid_marchland_field_sides = DataW.agg (xs.map (·.1)) := congrArg Prod.fst hx
    unfold Rows.laid_marchland_field_sides at e
    injection e with e
    exact e.symm
  obtain ⟨x0, x1, x2, x3, rfl⟩ := len4 hn
  simp only [List.map_cons, List.map_nil, List.cons.injEq, and_true] at hd
  obtain ⟨d0, d1, d2, d3⟩ := hd
  have i0 := side_cells (hi 0 (by decide)) d0
  have i1 := side_cells (hi 1 (by decide)) d1
  have i2 := side_cells (hi 2 (by decide)) d2
  have i3 := side_cells (hi 3 (by decide)) d3
  rw [side_cs] at i0 i1 i2 i3
  have ec : ∀ k : Nat, w.cell? ⟨1, k, none⟩ = cs.toList[k]? := fun k => by
    have e := World.var?_cell sides_g h3 k
    rw [e, Array.getElem?_toList]
  have g0 : ∀ k a b, (cs.toList.drop (k * 2)).take 2 = [.int .i64 a, .int .i64 b] → cs.toList[k * 2]? = some (.int .i64 a) ∧ cs.toList[k * 2 + 1]? = some (.int .i64 b) := by
    intro k a b e
    constructor
    · have := congrArg (fun l => l[0]?) e
      simpa [List.getElem?_take, List.getElem?_drop] using this
    · have := congrArg (fun l => l[1]?) e
      simpa [List.getElem?_take, List.getElem?_drop] using this
  have j0 := g0 0 _ _ i0
  have j1 := g0 1 _ _ i1
  have j2 := g0 2 _ _ i2
  have j3 := g0 3 _ _ i3
  exact ⟨(ec 0).trans j0.1, (ec 1).trans j0.2, (ec 2).trans j1.1, (ec 3).trans j1.2, (ec 4).trans j2.1, (ec 5).trans j2.2, (ec 6).trans j3.1, (ec 7).trans j3.2⟩
end Go.Proofs.YteieikgkmfglaaaGreatDoor

