/- What marchsame.World answers of two worlds that are the same. · How great what came in is; a byte. · What a walk is told of worlds and bytes that came in. · What a walk is told of kinds that came in. · TopViews: the walk. · The package variable of the four sides, as it is laid. -/
import Derived.Test.YtoabhfipikkkeaaGreatDoorZTopViews1
import Derived.Test.YtoabhfipikkkeaaGreatDoorZTopViews15
import Derived.Deep.SlicePairs
import Derived.ChangeArms
import Derived.ProofKit
import Derived.OpenShut
import Derived.Test.YtoabhfipikkkeaaGreatDoorZTopViews2
import Derived.Test.YtoabhfipikkkeaaGreatDoorZTopViews13
import Derived.Test.YtoabhfipikkkeaaGreatDoorZTopViews5
import Derived.BigQuiet
import Derived.Test.YtoabhfipikkkeaaGreatDoorZTopViews4
import Derived.ChangeSame
import Derived.FnData
import Derived.LaidLaws
namespace Go.Proofs.YtoabhfipikkkeaaGreatDoor
open Go.RowKit
set_option linter.unusedVariables false

theorem ints_like (u v : Value) (xs : List Int) (w : World) (hu : Ro w u xs) (hv : Ro w v xs) :
    Calls Tryz.prog 30 #[u, v] w fun e w' => e = .returned (.bool true) ∧ Below w.heap.size w w' :=
  (ints_any u v xs xs w hu hv).mono fun e w' ⟨h1, q, h2⟩ => ⟨by rw [h1, decide_eq_true rfl], by rw [h2]; exact _root_.Go.below_drewN (Below.refl _ _) _⟩
set_option maxRecDepth 100000 in
set_option maxHeartbeats 4000000 in
theorem worlds_like (u v : Value) (W : WV) (w : World) (hu : Wl w u W) (hv : Wl w v W) :
    Calls Tryz.prog 16 #[u, v] w fun e w' => e = .returned (.bool true) ∧ Below w.heap.size w w' := by
  obtain ⟨u1, u2, u3, u4, u5, rfl, g1, g2, g3, g4, g5⟩ := hu
  obtain ⟨v1, v2, v3, v4, v5, rfl, k1, k2, k3, k4, k5⟩ := hv
  obtain ⟨a4, c4, rfl, gl4, gc4, ga4⟩ := g4
  obtain ⟨b4, d4, rfl, kl4, kc4, ka4⟩ := k4
  obtain ⟨a5, c5, rfl, gl5, gc5, ga5⟩ := g5
  obtain ⟨b5, d5, rfl, kl5, kc5, ka5⟩ := k5
  have R : Hid (Ro w u1 W.gs ∧ Ro w u2 W.os ∧ Ro w u3 W.gold ∧ Ro w v1 W.gs ∧ Ro w v2 W.os ∧ Ro w v3 W.gold) := ⟨g1, g2, g3, k1, k2, k3⟩
  have GU : Hid (W.us ≠ [] → ∃ x, a4 = some x ∧ x.block < w.heap.size ∧ ∀ (i : Nat) k, W.us[i]? = some k → Unc w (x.add (i * 8)) k) := ga4
  have KU : Hid (W.us ≠ [] → ∃ x, b4 = some x ∧ x.block < w.heap.size ∧ ∀ (i : Nat) k, W.us[i]? = some k → Unc w (x.add (i * 8)) k) := ka4
  have GJ : Hid (W.qs ≠ [] → ∃ x, a5 = some x ∧ x.block < w.heap.size ∧ ∀ (i : Nat) k, W.qs[i]? = some k → Jbc w (x.add (i * 4)) k) := ga5
  have KJ : Hid (W.qs ≠ [] → ∃ x, b5 = some x ∧ x.block < w.heap.size ∧ ∀ (i : Nat) k, W.qs[i]? = some k → Jbc w (x.add (i * 4)) k) := ka5
  have hul : W.us.length ≤ 9223372036854775807 := by omega
  have hql : W.qs.length ≤ 9223372036854775807 := by omega
  clear g1 g2 g3 k1 k2 k3 ga4 ka4 ga5 ka5 gl4 gc4 kl4 kc4 gl5 gc5 kl5 kc5
  go_enter Tryz.func16, Tryz.ntmps16
  go_wp2_with fail
  have K0 : Below w.heap.size w ((w.alloc (Obj.cells #[.int .i64 W.turn, .int .i64 W.next, .int .i64 W.wide, .int .i64 W.high, u1, u2, u3, .slice a4 W.us.length c4, .slice a5 W.qs.length c5] 29)).alloc (Obj.cells #[.int .i64 W.turn, .int .i64 W.next, .int .i64 W.wide, .int .i64 W.high, v1, v2, v3, .slice b4 W.us.length d4, .slice b5 W.qs.length d5] 29)) := ((Below.refl _ _).alloc (Nat.le_refl _) _).alloc (by simp) _
  have X0 := (Bw.mk' (w := w) W u1 u2 u3 (.slice a4 W.us.length c4) (.slice a5 W.qs.length c5) rfl).below ((Below.refl _ _).alloc (Nat.le_refl _) (Obj.cells #[.int .i64 W.turn, .int .i64 W.next, .int .i64 W.wide, .int .i64 W.high, v1, v2, v3, .slice b4 W.us.length d4, .slice b5 W.qs.length d5] 29)) (by simp)
  have Y0 := Bw.mk' (w := w.alloc (Obj.cells #[.int .i64 W.turn, .int .i64 W.next, .int .i64 W.wide, .int .i64 W.high, u1, u2, u3, .slice a4 W.us.length c4, .slice a5 W.qs.length c5] 29)) (z := w.heap.size + 1) W v1 v2 v3 (.slice b4 W.us.length d4) (.slice b5 W.qs.length d5) (by simp)
  generalize ((w.alloc (Obj.cells #[.int .i64 W.turn, .int .i64 W.next, .int .i64 W.wide, .int .i64 W.high, u1, u2, u3, .slice a4 W.us.length c4, .slice a5 W.qs.length c5] 29)).alloc (Obj.cells #[.int .i64 W.turn, .int .i64 W.next, .int .i64 W.wide, .int .i64 W.high, v1, v2, v3, .slice b4 W.us.length d4, .slice b5 W.qs.length d5] 29)) = w0 at *
  refine (same_field _ _ W.wide W.high W.gs W.os w0 ⟨_, _, rfl, R.out.1.below K0, R.out.2.1.below K0⟩ ⟨_, _, rfl, R.out.2.2.2.1.below K0, R.out.2.2.2.2.1.below K0⟩).mono ?_
  rintro e w1 ⟨rfl, hb1⟩
  have K1 : Hid (Below w.heap.size w w1) := K0.trans (hb1.mono K0.size)
  have X1 : Hid (Bw w1 w.heap.size W u1 u2 u3 (.slice a4 W.us.length c4) (.slice a5 W.qs.length c5)) := X0.below hb1 X0.lt
  have Y1 : Hid (Bw w1 (w.heap.size + 1) W v1 v2 v3 (.slice b4 W.us.length d4) (.slice b5 W.qs.length d5)) := Y0.below hb1 Y0.lt
  clear K0 X0 Y0 hb1
  obtain ⟨x0, x1, x2, x3, x4, x5, x6, x7, x8⟩ := X1.out
  obtain ⟨y0, y1, y2, y3, y4, y5, y6, y7, y8⟩ := Y1.out
  go_wp2_with fail
  refine (ints_like _ _ W.gold w1 (R.out.2.2.1.below K1.out) (R.out.2.2.2.2.2.below K1.out)).mono ?_
  rintro e w2 ⟨rfl, hb2⟩
  have K2' : Hid (Below w.heap.size w w2) := K1.out.trans (hb2.mono K1.out.size)
  have X2 : Hid (Bw w2 w.heap.size W u1 u2 u3 (.slice a4 W.us.length c4) (.slice a5 W.qs.length c5)) := X1.out.below hb2 X1.out.lt
  have Y2 : Hid (Bw w2 (w.heap.size + 1) W v1 v2 v3 (.slice b4 W.us.length d4) (.slice b5 W.qs.length d5)) := Y1.out.below hb2 Y1.out.lt
  clear hb2 x0 x1 x2 x3 x4 x5 x6 x7 x8 y0 y1 y2 y3 y4 y5 y6 y7 y8 X1 Y1 K1
  obtain ⟨x0, x1, x2, x3, x4, x5, x6, x7, x8⟩ := X2.out
  obtain ⟨y0, y1, y2, y3, y4, y5, y6, y7, y8⟩ := Y2.out
  go_wp2
  clear x0 x1 x2 x3 x4 x5 x6 x7 x8 y0 y1 y2 y3 y4 y5 y6 y7 y8
  go_loopw [7] (fun i W' => ∃ k : Nat, k ≤ W.us.length ∧ i = .int .i64 (k : Nat) ∧ Bw W' w.heap.size W u1 u2 u3 (.slice a4 W.us.length c4) (.slice a5 W.qs.length c5) ∧ Bw W' (w.heap.size + 1) W v1 v2 v3 (.slice b4 W.us.length d4) (.slice b5 W.qs.length d5) ∧ Below w.heap.size w W') (fun i _ => W.us.length - (intOf i).toNat)
  case atStart => exact ⟨0, Nat.zero_le _, rfl, X2.out, Y2.out, K2'.out⟩
  case round =>
    obtain ⟨k, hk, rfl, hX, hY, hB⟩ := hrel
    have XB : Hid (Bw wr w.heap.size W u1 u2 u3 (.slice a4 W.us.length c4) (.slice a5 W.qs.length c5)) := hX
    have YB : Hid (Bw wr (w.heap.size + 1) W v1 v2 v3 (.slice b4 W.us.length d4) (.slice b5 W.qs.length d5)) := hY
    have B : Hid (Below w.heap.size w wr) := hB
    clear hX hY hB X2 Y2 K2'
    by_cases h0 : k = W.us.length
    · subst h0
      have x7 := XB.out.c7
      clear hk
      go_wp2
      clear x7
      go_loopw [8] (fun i W' => ∃ k : Nat, k ≤ W.qs.length ∧ i = .int .i64 (k : Nat) ∧ Bw W' w.heap.size W u1 u2 u3 (.slice a4 W.us.length c4) (.slice a5 W.qs.length c5) ∧ Bw W' (w.heap.size + 1) W v1 v2 v3 (.slice b4 W.us.length d4) (.slice b5 W.qs.length d5) ∧ Below w.heap.size w W') (fun i _ => W.qs.length - (intOf i).toNat)
      case atStart => exact ⟨0, Nat.zero_le _, rfl, XB.out, YB.out, B.out⟩
      case round =>
        obtain ⟨k, hk, rfl, hX, hY, hB⟩ := hrel
        have XB : Hid (Bw wr w.heap.size W u1 u2 u3 (.slice a4 W.us.length c4) (.slice a5 W.qs.length c5)) := hX
        have YB : Hid (Bw wr (w.heap.size + 1) W v1 v2 v3 (.slice b4 W.us.length d4) (.slice b5 W.qs.length d5)) := hY
        have B : Hid (Below w.heap.size w wr) := hB
        clear hX hY hB
        by_cases h0 : k = W.qs.length
        · subst h0
          have x8 := XB.out.c8
          clear hk
          go_wp2
          go_ret
          exact ⟨rfl, B.out⟩
        · have hlt : k < W.qs.length := by omega
          have hlti : ((k : Nat) : Int) < (W.qs.length : Nat) := by omega
          obtain ⟨o, ho⟩ : ∃ o, W.qs[k]? = some o := ⟨_, List.getElem?_eq_getElem hlt⟩
          have hne : W.qs ≠ [] := by intro e; rw [e] at hlt; simp at hlt
          obtain ⟨x, rfl, hx, hxc⟩ := GJ.out hne
          obtain ⟨y, rfl, hy, hyc⟩ := KJ.out hne
          obtain ⟨q0, q1, q2, q3⟩ := (hxc k o ho).below B.out (by rw [add_block]; exact hx)
          obtain ⟨r0, r1, r2, r3⟩ := (hyc k o ho).below B.out (by rw [add_block]; exact hy)
          have x8 := XB.out.c8
          have y8 := YB.out.c8
          clear hxc hyc hne ho hx hy
          go_wp2
          go_quiet (fail)
          go_wp2
          go_round
          case rel => exact ⟨k + 1, by omega, by go_num, XB.out.below (_root_.Go.below_drewN (Below.refl _ _) _) XB.out.lt, YB.out.below (_root_.Go.below_drewN (Below.refl _ _) _) YB.out.lt, _root_.Go.below_drewN B.out _⟩
          case measure => simp [intOf]; omega
    · have hlt : k < W.us.length := by omega
      have hlti : ((k : Nat) : Int) < (W.us.length : Nat) := by omega
      obtain ⟨o, ho⟩ : ∃ o, W.us[k]? = some o := ⟨_, List.getElem?_eq_getElem hlt⟩
      have hne : W.us ≠ [] := by intro e; rw [e] at hlt; simp at hlt
      obtain ⟨x, rfl, hx, hxc⟩ := GU.out hne
      obtain ⟨y, rfl, hy, hyc⟩ := KU.out hne
      obtain ⟨q0, q1, q2, q3, q4, q5, q6, q7⟩ := (hxc k o ho).below B.out (by rw [add_block]; exact hx)
      obtain ⟨r0, r1, r2, r3, r4, r5, r6, r7⟩ := (hyc k o ho).below B.out (by rw [add_block]; exact hy)
      have x7 := XB.out.c7
      have y7 := YB.out.c7
      clear hxc hyc hne ho hx hy
      go_wp2
      go_quiet (fail)
      go_wp2
      go_round
      case rel => exact ⟨k + 1, by omega, by go_num, XB.out.below (_root_.Go.below_drewN (Below.refl _ _) _) XB.out.lt, YB.out.below (_root_.Go.below_drewN (Below.refl _ _) _) YB.out.lt, _root_.Go.below_drewN B.out _⟩
      case measure => simp [intOf]; omega
end Go.Proofs.YtoabhfipikkkeaaGreatDoor

namespace Go.Proofs.YtoabhfipikkkeaaGreatDoor
open Go.ChangeShapes Go.WideShapes Go.ChangeAt Go.RowKit
set_option linter.unusedVariables false

theorem byte_of_wf {n : Int} (h : (Lit.int .u8 n).wf = true) : 0 ≤ n ∧ n < 256 := by
  simp only [Lit.wf, Bool.and_eq_true, decide_eq_true_eq] at h
  have h1 : IntKind.u8.min = 0 := by decide
  have h2 : IntKind.u8.max = 255 := by decide
  omega
theorem bulk_pos {H : Type} : ∀ d : DataW H, 1 ≤ Rows.uptoBulk d
  | .lit (.string bytes) => by simp [Rows.uptoBulk]
  | .lit (.int _ _) => by simp [Rows.uptoBulk]
  | .lit (.bool _) => by simp [Rows.uptoBulk]
  | .lit (.float .f32 _) => by simp [Rows.uptoBulk]
  | .lit (.float .f64 _) => by simp [Rows.uptoBulk]
  | .lit .nil => by simp [Rows.uptoBulk]
  | .nil => by simp [Rows.uptoBulk]
  | .ptr d => by simp [Rows.uptoBulk]
  | .slice _ _ => by simp [Rows.uptoBulk]
  | .agg _ => by simp [Rows.uptoBulk]
  | .iface _ _ => by simp [Rows.uptoBulk]
  | .map _ => by simp [Rows.uptoBulk]
  | .held _ => by simp [Rows.uptoBulk]
theorem bulk_len {H : Type} : ∀ ds : List (DataW H), ds.length ≤ Rows.uptoBulkAll ds
  | [] => by simp
  | d :: ds => by
    have h1 := bulk_pos d
    have h2 := bulk_len ds
    simp only [Rows.uptoBulkAll, List.length_cons]
    omega
theorem bulk_slice {H : Type} (es sp : List (DataW H)) : es.length ≤ Rows.uptoBulk (.slice es sp) := by
  have := bulk_len es
  simp only [Rows.uptoBulk]
  omega
end Go.Proofs.YtoabhfipikkkeaaGreatDoor

namespace Go.Proofs.YtoabhfipikkkeaaGreatDoor
open Go.ChangeShapes Go.WideShapes Go.ChangeAt Go.RowKit
set_option linter.unusedVariables false

theorem in64_of_wf {n : Int} (h : (Lit.int .i64 n).wf = true) : Wd.In64 n := by
  unfold Wd.In64
  simp only [Lit.wf, Bool.and_eq_true, decide_eq_true_eq] at h
  have h1 : IntKind.i64.min = -9223372036854775808 := by decide
  have h2 : IntKind.i64.max = 9223372036854775807 := by decide
  omega
set_option maxRecDepth 100000 in
theorem open_row64 {H : Type} {enc : TypeId × Value → H} {W : World} {base : Nat} {held : Bool} {fuel : Nat} {v : Value} {y : DataW H × List MemPlace} (h : DataW.trod enc Tryz.prog W base (fun _ => true) held fuel 23 [v] = some y) :
    ∃ zs, Ro W v zs ∧ (∀ n ∈ zs, Wd.In64 n) ∧ zs.length ≤ Rows.uptoBulk y.1 := by
  rcases open_ints Tryz.underlying23 Tryz.underlying3 (by kernel_rfl) h with ⟨hcs, rfl⟩ | ⟨x, l, c, zs, hcs, _, hl, hm, hz, rfl, hcell, hwz⟩
  · simp at hcs
    subst hcs
    exact ⟨_, IsRow.ro (.inl ⟨rfl, rfl, rfl, rfl⟩), by simp, by simp⟩
  · simp at hcs
    subst hcs
    refine ⟨_, IsRow.ro (zs := zs) (.inr ⟨_, rfl, hl, hm, by simpa using hz, hcell, hwz⟩), fun n hn => in64_of_wf (hwz n (List.mem_of_mem_take hn)), ?_⟩
    have := bulk_slice (H := H) (lits .i64 (zs.take l)) (lits .i64 (zs.drop l))
    simpa [lits] using this
theorem un_flds : ∃ f0 f1 f2 f3 f4 f5 f6 f7 : Field, Tryz.prog.underlying 63 = some (.struct #[f0, f1, f2, f3, f4, f5, f6, f7]) ∧ f0.offset = 0 ∧ f0.type = 3 ∧ f1.offset = 1 ∧ f1.type = 3 ∧ f2.offset = 2 ∧ f2.type = 3 ∧ f3.offset = 3 ∧ f3.type = 3 ∧ f4.offset = 4 ∧ f4.type = 3 ∧ f5.offset = 5 ∧ f5.type = 3 ∧ f6.offset = 6 ∧ f6.type = 3 ∧ f7.offset = 7 ∧ f7.type = 3 := ⟨_, _, _, _, _, _, _, _, Tryz.underlying63, rfl, rfl, rfl, rfl, rfl, rfl, rfl, rfl, rfl, rfl, rfl, rfl, rfl, rfl, rfl, rfl⟩
set_option maxRecDepth 100000 in
theorem open_un64 {H : Type} {enc : TypeId × Value → H} {W : World} {base : Nat} {held : Bool} {fuel : Nat} {cs : List Value} {y : DataW H × List MemPlace} (h : DataW.trod enc Tryz.prog W base (fun _ => true) held fuel 63 cs = some y) :
    ∃ k : UnV, cs = [.int .i64 k.id, .int .i64 k.player, .int .i64 k.kind, .int .i64 k.at_, .int .i64 k.life, .int .i64 k.load, .int .i64 k.task, .int .i64 k.goal] ∧ ∀ n ∈ Wd.unums k, Wd.In64 n := by
  obtain ⟨f0, f1, f2, f3, f4, f5, f6, f7, he, o0, t0, o1, t1, o2, t2, o3, t3, o4, t4, o5, t5, o6, t6, o7, t7⟩ := un_flds
  obtain ⟨xs, m, -, -, hlen, hxl, hf⟩ := DataW.trod_struct he h
  have csi : Tryz.prog.cellsOf 3 = 1 := by kernel_rfl
  have csk : Tryz.prog.cellsOf 63 = 8 := by kernel_rfl
  rw [csk] at hlen
  match cs, hlen with
  | [v0, v1, v2, v3, v4, v5, v6, v7], _ =>
    have hx : xs.length = 8 := hxl
    match xs, hx with
    | [x0, x1, x2, x3, x4, x5, x6, x7], _ =>
      have g0 := hf 0 f0 rfl
      rw [o0, t0, csi] at g0
      have g1 := hf 1 f1 rfl
      rw [o1, t1, csi] at g1
      have g2 := hf 2 f2 rfl
      rw [o2, t2, csi] at g2
      have g3 := hf 3 f3 rfl
      rw [o3, t3, csi] at g3
      have g4 := hf 4 f4 rfl
      rw [o4, t4, csi] at g4
      have g5 := hf 5 f5 rfl
      rw [o5, t5, csi] at g5
      have g6 := hf 6 f6 rfl
      rw [o6, t6, csi] at g6
      have g7 := hf 7 f7 rfl
      rw [o7, t7, csi] at g7
      obtain ⟨m0, e0, -, w0⟩ := DataW.trod_int Tryz.underlying3 g0
      obtain ⟨m1, e1, -, w1⟩ := DataW.trod_int Tryz.underlying3 g1
      obtain ⟨m2, e2, -, w2⟩ := DataW.trod_int Tryz.underlying3 g2
      obtain ⟨m3, e3, -, w3⟩ := DataW.trod_int Tryz.underlying3 g3
      obtain ⟨m4, e4, -, w4⟩ := DataW.trod_int Tryz.underlying3 g4
      obtain ⟨m5, e5, -, w5⟩ := DataW.trod_int Tryz.underlying3 g5
      obtain ⟨m6, e6, -, w6⟩ := DataW.trod_int Tryz.underlying3 g6
      obtain ⟨m7, e7, -, w7⟩ := DataW.trod_int Tryz.underlying3 g7
      simp at e0 e1 e2 e3 e4 e5 e6 e7
      subst e0 e1 e2 e3 e4 e5 e6 e7
      refine ⟨⟨m0, m1, m2, m3, m4, m5, m6, m7⟩, rfl, ?_⟩
      intro n hn
      simp only [Wd.unums, List.mem_cons, List.not_mem_nil, or_false] at hn
      rcases hn with rfl | rfl | rfl | rfl | rfl | rfl | rfl | rfl
      · exact in64_of_wf w0
      · exact in64_of_wf w1
      · exact in64_of_wf w2
      · exact in64_of_wf w3
      · exact in64_of_wf w4
      · exact in64_of_wf w5
      · exact in64_of_wf w6
      · exact in64_of_wf w7
theorem open_uns64 {H : Type} {enc : TypeId × Value → H} {W : World} {base : Nat} {held : Bool} {fuel : Nat} {v : Value} {y : DataW H × List MemPlace} (h : DataW.trod enc Tryz.prog W base (fun _ => true) held fuel 26 [v] = some y) :
    ∃ ks : List UnV, Unl W v ks ∧ (∀ k ∈ ks, ∀ n ∈ Wd.unums k, Wd.In64 n) ∧ ks.length ≤ Rows.uptoBulk y.1 := by
  have csk : Tryz.prog.cellsOf 63 = 8 := by kernel_rfl
  rcases Go.Deep.open_slice Tryz.underlying26 h with ⟨hcs, -⟩ | ⟨a, len, cap, m, q, D, Pl, hcs, hb, hl, hm, hmm, rfl, hx⟩
  · simp at hcs
    subst hcs
    exact ⟨[], ⟨none, 0, rfl, Nat.le_refl _, by omega, fun h => absurd rfl h⟩, by simp, by simp⟩
  · simp at hcs
    subst hcs
    have hlm : len ≤ m := by rw [hmm]; simp; exact hl
    have each : ∀ i, i < len → ∃ k : UnV, Unc W (a.add (i * 8)) k ∧ (∀ n ∈ Wd.unums k, Wd.In64 n) := by
      intro i hi
      obtain ⟨cs', h1, h2⟩ := hx i (by omega)
      obtain ⟨k, rfl, hk⟩ := open_un64 h2
      rw [csk] at h1
      obtain ⟨-, -, hcell⟩ := World.cells?_some h1
      refine ⟨k, ?_, hk⟩
      generalize a.add (i * 8) = y at *
      exact ⟨hcell 0 (by decide), hcell 1 (by decide), hcell 2 (by decide), hcell 3 (by decide), hcell 4 (by decide), hcell 5 (by decide), hcell 6 (by decide), hcell 7 (by decide)⟩
    have inh : Inhabited UnV := ⟨⟨0, 0, 0, 0, 0, 0, 0, 0⟩⟩
    obtain ⟨q, hq⟩ := Go.Deep.choose_lt each
    refine ⟨(List.range len).map q, ⟨some a, cap, by simp, by simpa using hl, by unfold maxLen at hm; omega, fun hn => ⟨a, rfl, ?_, fun i k hk => ?_⟩⟩, ?_, ?_⟩
    · have h0 : 0 < len := by
        rcases Nat.eq_zero_or_pos len with h | h
        · subst h; simp at hn
        · exact h
      have := (hq 0 h0).1.lt
      rwa [add_block] at this
    · have hi : i < len := by
        have := (List.getElem?_eq_some_iff.1 hk).1
        simpa using this
      rw [List.getElem?_map, List.getElem?_range hi] at hk
      injection hk with hk
      subst hk
      exact (hq i hi).1
    · intro k hk
      obtain ⟨i, hi, rfl⟩ := List.mem_map.1 hk
      exact (hq i (List.mem_range.1 hi)).2
    · have := bulk_slice ((List.range len).map D) ((List.range (m - len)).map fun j => D (len + j))
      simpa using this
theorem jb_flds : ∃ f0 f1 f2 f3 : Field, Tryz.prog.underlying 94 = some (.struct #[f0, f1, f2, f3]) ∧ f0.offset = 0 ∧ f0.type = 3 ∧ f1.offset = 1 ∧ f1.type = 3 ∧ f2.offset = 2 ∧ f2.type = 3 ∧ f3.offset = 3 ∧ f3.type = 3 := ⟨_, _, _, _, Tryz.underlying94, rfl, rfl, rfl, rfl, rfl, rfl, rfl, rfl⟩
set_option maxRecDepth 100000 in
theorem open_jb64 {H : Type} {enc : TypeId × Value → H} {W : World} {base : Nat} {held : Bool} {fuel : Nat} {cs : List Value} {y : DataW H × List MemPlace} (h : DataW.trod enc Tryz.prog W base (fun _ => true) held fuel 94 cs = some y) :
    ∃ k : JbV, cs = [.int .i64 k.player, .int .i64 k.unit, .int .i64 k.kind, .int .i64 k.left] ∧ ∀ n ∈ Wd.jnums k, Wd.In64 n := by
  obtain ⟨f0, f1, f2, f3, he, o0, t0, o1, t1, o2, t2, o3, t3⟩ := jb_flds
  obtain ⟨xs, m, -, -, hlen, hxl, hf⟩ := DataW.trod_struct he h
  have csi : Tryz.prog.cellsOf 3 = 1 := by kernel_rfl
  have csk : Tryz.prog.cellsOf 94 = 4 := by kernel_rfl
  rw [csk] at hlen
  match cs, hlen with
  | [v0, v1, v2, v3], _ =>
    have hx : xs.length = 4 := hxl
    match xs, hx with
    | [x0, x1, x2, x3], _ =>
      have g0 := hf 0 f0 rfl
      rw [o0, t0, csi] at g0
      have g1 := hf 1 f1 rfl
      rw [o1, t1, csi] at g1
      have g2 := hf 2 f2 rfl
      rw [o2, t2, csi] at g2
      have g3 := hf 3 f3 rfl
      rw [o3, t3, csi] at g3
      obtain ⟨m0, e0, -, w0⟩ := DataW.trod_int Tryz.underlying3 g0
      obtain ⟨m1, e1, -, w1⟩ := DataW.trod_int Tryz.underlying3 g1
      obtain ⟨m2, e2, -, w2⟩ := DataW.trod_int Tryz.underlying3 g2
      obtain ⟨m3, e3, -, w3⟩ := DataW.trod_int Tryz.underlying3 g3
      simp at e0 e1 e2 e3
      subst e0 e1 e2 e3
      refine ⟨⟨m0, m1, m2, m3⟩, rfl, ?_⟩
      intro n hn
      simp only [Wd.jnums, List.mem_cons, List.not_mem_nil, or_false] at hn
      rcases hn with rfl | rfl | rfl | rfl
      · exact in64_of_wf w0
      · exact in64_of_wf w1
      · exact in64_of_wf w2
      · exact in64_of_wf w3
theorem open_jbs64 {H : Type} {enc : TypeId × Value → H} {W : World} {base : Nat} {held : Bool} {fuel : Nat} {v : Value} {y : DataW H × List MemPlace} (h : DataW.trod enc Tryz.prog W base (fun _ => true) held fuel 27 [v] = some y) :
    ∃ ks : List JbV, Jbl W v ks ∧ (∀ k ∈ ks, ∀ n ∈ Wd.jnums k, Wd.In64 n) ∧ ks.length ≤ Rows.uptoBulk y.1 := by
  have csk : Tryz.prog.cellsOf 94 = 4 := by kernel_rfl
  rcases Go.Deep.open_slice Tryz.underlying27 h with ⟨hcs, -⟩ | ⟨a, len, cap, m, q, D, Pl, hcs, hb, hl, hm, hmm, rfl, hx⟩
  · simp at hcs
    subst hcs
    exact ⟨[], ⟨none, 0, rfl, Nat.le_refl _, by omega, fun h => absurd rfl h⟩, by simp, by simp⟩
  · simp at hcs
    subst hcs
    have hlm : len ≤ m := by rw [hmm]; simp; exact hl
    have each : ∀ i, i < len → ∃ k : JbV, Jbc W (a.add (i * 4)) k ∧ (∀ n ∈ Wd.jnums k, Wd.In64 n) := by
      intro i hi
      obtain ⟨cs', h1, h2⟩ := hx i (by omega)
      obtain ⟨k, rfl, hk⟩ := open_jb64 h2
      rw [csk] at h1
      obtain ⟨-, -, hcell⟩ := World.cells?_some h1
      refine ⟨k, ?_, hk⟩
      generalize a.add (i * 4) = y at *
      exact ⟨hcell 0 (by decide), hcell 1 (by decide), hcell 2 (by decide), hcell 3 (by decide)⟩
    have inh : Inhabited JbV := ⟨⟨0, 0, 0, 0⟩⟩
    obtain ⟨q, hq⟩ := Go.Deep.choose_lt each
    refine ⟨(List.range len).map q, ⟨some a, cap, by simp, by simpa using hl, by unfold maxLen at hm; omega, fun hn => ⟨a, rfl, ?_, fun i k hk => ?_⟩⟩, ?_, ?_⟩
    · have h0 : 0 < len := by
        rcases Nat.eq_zero_or_pos len with h | h
        · subst h; simp at hn
        · exact h
      have := (hq 0 h0).1.lt
      rwa [add_block] at this
    · have hi : i < len := by
        have := (List.getElem?_eq_some_iff.1 hk).1
        simpa using this
      rw [List.getElem?_map, List.getElem?_range hi] at hk
      injection hk with hk
      subst hk
      exact (hq i hi).1
    · intro k hk
      obtain ⟨i, hi, rfl⟩ := List.mem_map.1 hk
      exact (hq i (List.mem_range.1 hi)).2
    · have := bulk_slice ((List.range len).map D) ((List.range (m - len)).map fun j => D (len + j))
      simpa using this
theorem world_flds : ∃ f0 f1 f2 f3 f4 f5 : Field, Tryz.prog.underlying 29 = some (.struct #[f0, f1, f2, f3, f4, f5]) ∧ f0.offset = 0 ∧ f0.type = 3 ∧ f1.offset = 1 ∧ f1.type = 3 ∧ f2.offset = 2 ∧ f2.type = 25 ∧ f3.offset = 6 ∧ f3.type = 23 ∧ f4.offset = 7 ∧ f4.type = 26 ∧ f5.offset = 8 ∧ f5.type = 27 := ⟨_, _, _, _, _, _, Tryz.underlying29, rfl, rfl, rfl, rfl, rfl, rfl, rfl, rfl, rfl, rfl, rfl, rfl⟩
theorem field_flds : ∃ f0 f1 f2 f3 : Field, Tryz.prog.underlying 25 = some (.struct #[f0, f1, f2, f3]) ∧ f0.offset = 0 ∧ f0.type = 3 ∧ f1.offset = 1 ∧ f1.type = 3 ∧ f2.offset = 2 ∧ f2.type = 23 ∧ f3.offset = 3 ∧ f3.type = 23 := ⟨_, _, _, _, Tryz.underlying25, rfl, rfl, rfl, rfl, rfl, rfl, rfl, rfl⟩
theorem ro_len {w : World} {v : Value} {xs : List Int} (h : Ro w v xs) : Wd.In64 (xs.length : Int) := by
  obtain ⟨a, c, -, h1, h2, -⟩ := h
  unfold Wd.In64; omega
set_option maxRecDepth 100000 in
theorem open_world64 {H : Type} {enc : TypeId × Value → H} {W : World} {base : Nat} {held : Bool} {fuel : Nat} {cs : List Value} {y : DataW H × List MemPlace} (h : DataW.trod enc Tryz.prog W base (fun _ => true) held fuel 29 cs = some y) :
    ∃ X : WV, Wl W (.agg cs.toArray) X ∧ (∀ n ∈ Wd.nums X, Wd.In64 n) ∧ (Rows.uptoBulk y.1 ≤ 1048576 → WSmall X) := by
  obtain ⟨f0, f1, f2, f3, f4, f5, he, o0, t0, o1, t1, o2, t2, o3, t3, o4, t4, o5, t5⟩ := world_flds
  obtain ⟨xs, m, -, rfl, hlen, hxl, hf⟩ := DataW.trod_struct he h
  have csi : Tryz.prog.cellsOf 3 = 1 := by kernel_rfl
  have csf : Tryz.prog.cellsOf 25 = 4 := by kernel_rfl
  have csl : Tryz.prog.cellsOf 23 = 1 := by kernel_rfl
  have csu : Tryz.prog.cellsOf 26 = 1 := by kernel_rfl
  have csj : Tryz.prog.cellsOf 27 = 1 := by kernel_rfl
  have csk : Tryz.prog.cellsOf 29 = 9 := by kernel_rfl
  rw [csk] at hlen
  match cs, hlen with
  | [v0, v1, v2, v3, v4, v5, v6, v7, v8], _ =>
    have hx : xs.length = 6 := hxl
    match xs, hx with
    | [x0, x1, x2, x3, x4, x5], _ =>
      have g0 := hf 0 f0 rfl
      rw [o0, t0, csi] at g0
      have g1 := hf 1 f1 rfl
      rw [o1, t1, csi] at g1
      have g2 := hf 2 f2 rfl
      rw [o2, t2, csf] at g2
      have g3 := hf 3 f3 rfl
      rw [o3, t3, csl] at g3
      have g4 := hf 4 f4 rfl
      rw [o4, t4, csu] at g4
      have g5 := hf 5 f5 rfl
      rw [o5, t5, csj] at g5
      obtain ⟨m0, e0, -, w0⟩ := DataW.trod_int Tryz.underlying3 g0
      obtain ⟨m1, e1, -, w1⟩ := DataW.trod_int Tryz.underlying3 g1
      obtain ⟨r0, r1, r2, r3, he', p0, s0, p1, s1, p2, s2, p3, s3⟩ := field_flds
      obtain ⟨ys, m', -, rfl, hlen', hyl, hg⟩ := DataW.trod_struct he' g2
      have hy : ys.length = 4 := hyl
      match ys, hy with
      | [y0, y1, y2, y3], _ =>
        have k0 := hg 0 r0 rfl
        rw [p0, s0, csi] at k0
        have k1 := hg 1 r1 rfl
        rw [p1, s1, csi] at k1
        have k2 := hg 2 r2 rfl
        rw [p2, s2, csl] at k2
        have k3 := hg 3 r3 rfl
        rw [p3, s3, csl] at k3
        obtain ⟨m2, e2, -, w2⟩ := DataW.trod_int Tryz.underlying3 k0
        obtain ⟨m3, e3, -, w3⟩ := DataW.trod_int Tryz.underlying3 k1
        simp at e0 e1 e2 e3
        subst e0 e1 e2 e3
        obtain ⟨gs, hgs, igs, bgs⟩ := open_row64 k2
        obtain ⟨os, hos, ios, bos⟩ := open_row64 k3
        obtain ⟨gold, hgold, igold, bgold⟩ := open_row64 g3
        obtain ⟨us, hus, ius, bus⟩ := open_uns64 g4
        obtain ⟨qs, hqs, iqs, bqs⟩ := open_jbs64 g5
        have lu : Wd.In64 (us.length : Int) := by
          obtain ⟨a, c, -, h1, h2, -⟩ := hus
          unfold Wd.In64; omega
        have lq : Wd.In64 (qs.length : Int) := by
          obtain ⟨a, c, -, h1, h2, -⟩ := hqs
          unfold Wd.In64; omega
        refine ⟨⟨m0, m1, m2, m3, gs, os, gold, us, qs⟩, ⟨_, _, _, _, _, rfl, hgs, hos, hgold, hus, hqs⟩, ?_, ?_⟩
        · intro n hn
          simp only [Wd.nums, List.mem_append, List.mem_cons, List.not_mem_nil, or_false, List.mem_flatMap] at hn
          rcases hn with (((((rfl | rfl | rfl | rfl) | (rfl | hn)) | (rfl | hn)) | (rfl | hn)) | (rfl | ⟨u, hu, hn⟩)) | (rfl | ⟨u, hu, hn⟩)
          · exact in64_of_wf w0
          · exact in64_of_wf w1
          · exact in64_of_wf w2
          · exact in64_of_wf w3
          · exact ro_len hgs
          · exact igs _ hn
          · exact ro_len hos
          · exact ios _ hn
          · exact ro_len hgold
          · exact igold _ hn
          · exact lu
          · exact ius u hu n hn
          · exact lq
          · exact iqs u hu n hn
        · intro hb
          simp only [Rows.uptoBulk, Rows.uptoBulkAll, List.map_cons, List.map_nil] at hb
          exact ⟨by simp only; omega, by simp only; omega, by simp only; omega, by simp only; omega, by simp only; omega⟩
set_option maxRecDepth 100000 in
theorem world_in {H : Type} {enc : TypeId × Value → H} {W : World} {base b0 : Nat} {held : Bool} {v : Value} {d : DataW H} {p : List MemPlace} (hv : Value.okWide Tryz.prog W .any b0 29 v) (h : DataW.Trod enc Tryz.prog W base (fun _ => true) held 29 v d p) :
    ∃ X : WV, Wl W v X ∧ (∀ n ∈ Wd.nums X, Wd.In64 n) ∧ (Rows.uptoBulk d ≤ 1048576 → WSmall X) := by
  obtain ⟨cs, rfl, hsz⟩ := okWide_struct Tryz.underlying29 hv
  obtain ⟨fuel, hf⟩ := h
  have := open_world64 hf
  simpa [Value.cells] using this
end Go.Proofs.YtoabhfipikkkeaaGreatDoor

namespace Go.Proofs.YtoabhfipikkkeaaGreatDoor
open Go.ChangeShapes Go.WideShapes Go.ChangeAt Go.RowKit
set_option linter.unusedVariables false

theorem kind_fields : ∃ f0 f1 f2 f3 f4 f5 f6 f7 f8 f9 f10 : Field, Tryz.prog.underlying 80 = some (.struct #[f0, f1, f2, f3, f4, f5, f6, f7, f8, f9, f10]) ∧
    f0.offset = 0 ∧ f0.type = 9 ∧ f1.offset = 1 ∧ f1.type = 3 ∧ f2.offset = 2 ∧ f2.type = 3 ∧ f3.offset = 3 ∧ f3.type = 3 ∧ f4.offset = 4 ∧ f4.type = 3 ∧ f5.offset = 5 ∧ f5.type = 3 ∧ f6.offset = 6 ∧ f6.type = 3 ∧ f7.offset = 7 ∧ f7.type = 3 ∧ f8.offset = 8 ∧ f8.type = 3 ∧ f9.offset = 9 ∧ f9.type = 4 ∧ f10.offset = 10 ∧ f10.type = 4 := ⟨_, _, _, _, _, _, _, _, _, _, _, Tryz.underlying80, rfl, rfl, rfl, rfl, rfl, rfl, rfl, rfl, rfl, rfl, rfl, rfl, rfl, rfl, rfl, rfl, rfl, rfl, rfl, rfl, rfl, rfl⟩


set_option maxRecDepth 100000 in
theorem open_kind {H : Type} {enc : TypeId × Value → H} {W : World} {base : Nat} {held : Bool} {fuel : Nat} {cs : List Value} {y : DataW H × List MemPlace} (h : DataW.trod enc Tryz.prog W base (fun _ => true) held fuel 80 cs = some y) :
    ∃ k : KV, cs = [.string k.b, .int .i64 k.n0, .int .i64 k.n1, .int .i64 k.n2, .int .i64 k.n3, .int .i64 k.n4, .int .i64 k.n5, .int .i64 k.n6, .int .i64 k.n7, .bool k.f, .bool k.t] ∧ k.b.size ≤ maxLen := by
  obtain ⟨f0, f1, f2, f3, f4, f5, f6, f7, f8, f9, f10, he, o0, t0, o1, t1, o2, t2, o3, t3, o4, t4, o5, t5, o6, t6, o7, t7, o8, t8, o9, t9, o10, t10⟩ := kind_fields
  obtain ⟨xs, n, -, -, hlen, hxl, hf⟩ := DataW.trod_struct he h
  have cs9 : Tryz.prog.cellsOf 9 = 1 := by kernel_rfl
  have cs3 : Tryz.prog.cellsOf 3 = 1 := by kernel_rfl
  have cs4 : Tryz.prog.cellsOf 4 = 1 := by kernel_rfl
  have csk : Tryz.prog.cellsOf 80 = 11 := by kernel_rfl
  rw [csk] at hlen
  match cs, hlen with
  | [v0, v1, v2, v3, v4, v5, v6, v7, v8, v9, v10], _ =>
    have hx11 : xs.length = 11 := hxl
    match xs, hx11 with
    | [x0, x1, x2, x3, x4, x5, x6, x7, x8, x9, x10], _ =>
      have g0 := hf 0 f0 rfl
      rw [o0, t0, cs9] at g0
      have g1 := hf 1 f1 rfl
      rw [o1, t1, cs3] at g1
      have g2 := hf 2 f2 rfl
      rw [o2, t2, cs3] at g2
      have g3 := hf 3 f3 rfl
      rw [o3, t3, cs3] at g3
      have g4 := hf 4 f4 rfl
      rw [o4, t4, cs3] at g4
      have g5 := hf 5 f5 rfl
      rw [o5, t5, cs3] at g5
      have g6 := hf 6 f6 rfl
      rw [o6, t6, cs3] at g6
      have g7 := hf 7 f7 rfl
      rw [o7, t7, cs3] at g7
      have g8 := hf 8 f8 rfl
      rw [o8, t8, cs3] at g8
      have g9 := hf 9 f9 rfl
      rw [o9, t9, cs4] at g9
      have g10 := hf 10 f10 rfl
      rw [o10, t10, cs4] at g10
      obtain ⟨b, e0, -, hb⟩ := DataW.trod_string Tryz.underlying9 g0
      obtain ⟨m1, e1, -, -⟩ := DataW.trod_int Tryz.underlying3 g1
      obtain ⟨m2, e2, -, -⟩ := DataW.trod_int Tryz.underlying3 g2
      obtain ⟨m3, e3, -, -⟩ := DataW.trod_int Tryz.underlying3 g3
      obtain ⟨m4, e4, -, -⟩ := DataW.trod_int Tryz.underlying3 g4
      obtain ⟨m5, e5, -, -⟩ := DataW.trod_int Tryz.underlying3 g5
      obtain ⟨m6, e6, -, -⟩ := DataW.trod_int Tryz.underlying3 g6
      obtain ⟨m7, e7, -, -⟩ := DataW.trod_int Tryz.underlying3 g7
      obtain ⟨m8, e8, -, -⟩ := DataW.trod_int Tryz.underlying3 g8
      obtain ⟨bf, e9, -⟩ := DataW.trod_bool Tryz.underlying4 g9
      obtain ⟨bt, e10, -⟩ := DataW.trod_bool Tryz.underlying4 g10
      simp at e0 e1 e2 e3 e4 e5 e6 e7 e8 e9 e10
      subst e0 e1 e2 e3 e4 e5 e6 e7 e8 e9 e10
      exact ⟨⟨b, m1, m2, m3, m4, m5, m6, m7, m8, bf, bt⟩, rfl, hb⟩

/-- kinds that came in. -/
theorem open_kinds {H : Type} {enc : TypeId × Value → H} {W : World} {base : Nat} {held : Bool} {fuel : Nat} {v : Value} {y : DataW H × List MemPlace} (h : DataW.trod enc Tryz.prog W base (fun _ => true) held fuel 22 [v] = some y) :
    ∃ ks : List KV, Kl W v ks ∧ ∀ k ∈ ks, k.b.size ≤ maxLen := by
  have csk : Tryz.prog.cellsOf 80 = 11 := by kernel_rfl
  rcases Go.Deep.open_slice Tryz.underlying22 h with ⟨hcs, -⟩ | ⟨a, len, cap, m, n, D, Pl, hcs, hb, hl, hm, hmm, -, hx⟩
  · simp at hcs
    subst hcs
    exact ⟨[], ⟨none, 0, rfl, Nat.le_refl _, by omega, fun h => absurd rfl h⟩, by simp⟩
  · simp at hcs
    subst hcs
    have hlm : len ≤ m := by rw [hmm]; simp; exact hl
    have each : ∀ i, i < len → ∃ k : KV, Kc W (a.add (i * 11)) k ∧ k.b.size ≤ maxLen := by
      intro i hi
      obtain ⟨cs', h1, h2⟩ := hx i (by omega)
      obtain ⟨k, rfl, hk⟩ := open_kind h2
      rw [csk] at h1
      obtain ⟨-, -, hcell⟩ := World.cells?_some h1
      refine ⟨k, ?_, hk⟩
      generalize a.add (i * 11) = y at *
      exact ⟨hcell 0 (by decide), hcell 1 (by decide), hcell 2 (by decide), hcell 3 (by decide), hcell 4 (by decide), hcell 5 (by decide), hcell 6 (by decide), hcell 7 (by decide), hcell 8 (by decide), hcell 9 (by decide), hcell 10 (by decide)⟩
    have inh : Inhabited KV := ⟨⟨ByteArray.empty, 0, 0, 0, 0, 0, 0, 0, 0, false, false⟩⟩
    obtain ⟨q, hq⟩ := Go.Deep.choose_lt each
    refine ⟨(List.range len).map q, ⟨some a, cap, by simp, by simpa using hl, by unfold maxLen at hm; omega, fun hn => ⟨a, rfl, ?_, fun i k hk => ?_⟩⟩, ?_⟩
    · have h0 : 0 < len := by
        rcases Nat.eq_zero_or_pos len with h | h
        · subst h; simp at hn
        · exact h
      have := (hq 0 h0).1.lt
      rwa [add_block] at this
    · have hi : i < len := by
        have := (List.getElem?_eq_some_iff.1 hk).1
        simpa using this
      rw [List.getElem?_map, List.getElem?_range hi] at hk
      injection hk with hk
      subst hk
      exact (hq i hi).1
    · intro k hk
      obtain ⟨i, hi, rfl⟩ := List.mem_map.1 hk
      exact (hq i (List.mem_range.1 hi)).2
set_option maxRecDepth 100000 in
theorem kinds_in {H : Type} {enc : TypeId × Value → H} {W : World} {base b0 : Nat} {held : Bool} {v : Value} {d : DataW H} {p : List MemPlace} (hv : Value.okWide Tryz.prog W .any b0 22 v) (h : DataW.Trod enc Tryz.prog W base (fun _ => true) held 22 v d p) :
    ∃ ks : List KV, Kl W v ks ∧ ∀ k ∈ ks, k.b.size ≤ maxLen := by
  obtain ⟨a, len, cap, rfl⟩ := okWide_slice Tryz.underlying22 hv
  obtain ⟨fuel, hf⟩ := h
  exact open_kinds hf
end Go.Proofs.YtoabhfipikkkeaaGreatDoor

namespace Go.Proofs.YtoabhfipikkkeaaGreatDoor.topViews
open Go.RowKit Go.Proofs.YtoabhfipikkkeaaGreatDoor.So
set_option linter.unusedVariables false

/-- in block z there is the world Q, its lists are owned from base on. -/
def Wbo (V : World) (z base : Nat) (Q : WV) : Prop := ∃ g1 d1 g2 d2 g3 d3 g4 d4 g5 d5, Bw V z Q (.slice g1 Q.gs.length d1) (.slice g2 Q.os.length d2) (.slice g3 Q.gold.length d3) (.slice g4 Q.us.length d4) (.slice g5 Q.qs.length d5) ∧ Wo V base (.agg #[.int .i64 Q.turn, .int .i64 Q.next, .int .i64 Q.wide, .int .i64 Q.high, .slice g1 Q.gs.length d1, .slice g2 Q.os.length d2, .slice g3 Q.gold.length d3, .slice g4 Q.us.length d4, .slice g5 Q.qs.length d5]) Q
/-- what Step has answered. -/
def Stp (ks : List KV) (A : WV) (l : List OrV) (Q : WV) (r : Value) : Prop := (r = .nilIface ∧ stepFault ks A l = 0 ∧ ∃ es, StepR ks A l Q es) ∨ ∃ F : Int, r = .iface 99 (.int .i64 F)
theorem stp_of {ks : List KV} {A : WV} {l : List OrV} {w w' : World} {v ev r : Value} (hs : StepSays ks A l w w' v ev) (hr : Er r (stepFault ks A l)) : ∃ Q, Wo w' w.heap.size v Q ∧ Stp ks A l Q r := by
  rcases hs with ⟨hn, rfl, rfl⟩ | ⟨h0, Y, es, h1, h2, -⟩
  · refine ⟨⟨0, 0, 0, 0, [], [], [], [], []⟩, ⟨_, _, _, _, _, rfl, Ow.nil _ _, Ow.nil _ _, Ow.nil _ _, Uno.nil _ _, Jbo.nil _ _⟩, .inr ?_⟩
    rcases hr with ⟨h, -⟩ | ⟨-, h⟩
    · exact absurd h hn
    · exact ⟨_, h⟩
  · refine ⟨Y, h2, .inl ⟨?_, h0, es, h1⟩⟩
    rw [h0] at hr
    exact One.ez hr

/-- in block z there is some world. -/
def Bz (V : World) (z : Nat) : Prop := ∃ c0 c1 c2 c3 c4 c5 c6 c7 c8, Wx V z c0 c1 c2 c3 c4 c5 c6 c7 c8
def TvI (ks : List KV) (p : Int) (N b z : Nat) (w : World) (vb j : Value) (V : World) : Prop :=
  ∃ (i : Nat) (A : WV) (s1 : Option Addr) (l1 : Nat) (s2 : Option Addr) (l2 : Nat) (s3 : Option Addr) (l3 : Nat) (s4 : Option Addr) (l4 : Nat) (s5 : Option Addr) (l5 : Nat) (Wa : Nat) (lb : List UInt8) (pa : Option Addr) (ca : Nat),
    i ≤ 6 ∧ i ≤ N ∧ j = .int .i64 (i : Nat) ∧ vb = .slice pa lb.length ca ∧ A.wide = (Wa : Nat) ∧ Wd.enc (viewOf ks Wa A p) = lb ∧ Ob V (z + 1) vb lb ∧ Wx V b (.int .i64 A.turn) (.int .i64 A.next) (.int .i64 A.wide) (.int .i64 A.high) (.slice s1 A.gs.length l1) (.slice s2 A.os.length l2) (.slice s3 A.gold.length l3) (.slice s4 A.us.length l4) (.slice s5 A.qs.length l5) ∧ Wl V (.agg #[.int .i64 A.turn, .int .i64 A.next, .int .i64 A.wide, .int .i64 A.high, .slice s1 A.gs.length l1, .slice s2 A.os.length l2, .slice s3 A.gold.length l3, .slice s4 A.us.length l4, .slice s5 A.qs.length l5]) A ∧ pfault ks A p = 0 ∧ Bz V z ∧ Below w.heap.size w V
set_option maxRecDepth 100000 in
set_option maxHeartbeats 80000000 in
theorem walk (vk : Value) (ks : List KV) (vw : Value) (X : WV) (vl : Value) (ls : List (List OrV)) (p : Int) (w : World)
    (h0 : Kl w vk ks ∧ ∀ k ∈ ks, k.b.size ≤ maxLen) (h1 : Wl w vw X ∧ ∀ n ∈ Wd.nums X, Wd.In64 n) (h2 : Oll w vl ls) (hsd : Sd w) :
    Calls Tryz.prog 3 #[vk, vw, vl, .int .i64 p] w fun e w' => e = .returned (.bool true) ∧ Below w.heap.size w w' := by
  have K : Hid (Kl w vk ks ∧ ∀ k ∈ ks, k.b.size ≤ 9223372036854775807) := ⟨h0.1, fun k hk => by have := h0.2 k hk; unfold maxLen at this; omega⟩
  have H : Hid (Wl w vw X) := h1.1
  have L : Hid (Oll w vl ls) := h2
  have SDH : Hid (Sd w) := hsd
  obtain ⟨p1, q1, p2, q2, p3, q3, p4, q4, p5, q5, rfl⟩ := wl_shape9 h1.1
  obtain ⟨pk, qk, rfl, kc1, kc2, -⟩ := h0.1
  obtain ⟨pl, ql, rfl, lc1, lc2, -⟩ := h2
  clear h0 h1 hsd
  go_enter Tryz.func3, Tryz.ntmps3
  go_upto_region 1 with fail
  obtain ⟨b, hb0⟩ : ∃ z, w.heap.size = z := ⟨_, rfl⟩
  have B0 : Hid (Below w.heap.size w (w.alloc (Obj.cells #[.int .i64 X.turn, .int .i64 X.next, .int .i64 X.wide, .int .i64 X.high, .slice p1 X.gs.length q1, .slice p2 X.os.length q2, .slice p3 X.gold.length q3, .slice p4 X.us.length q4, .slice p5 X.qs.length q5] 29))) := (Below.refl _ _).alloc (Nat.le_refl _) _
  have X0 : Hid (Wx (w.alloc (Obj.cells #[.int .i64 X.turn, .int .i64 X.next, .int .i64 X.wide, .int .i64 X.high, .slice p1 X.gs.length q1, .slice p2 X.os.length q2, .slice p3 X.gold.length q3, .slice p4 X.us.length q4, .slice p5 X.qs.length q5] 29)) b (.int .i64 X.turn) (.int .i64 X.next) (.int .i64 X.wide) (.int .i64 X.high) (.slice p1 X.gs.length q1) (.slice p2 X.os.length q2) (.slice p3 X.gold.length q3) (.slice p4 X.us.length q4) (.slice p5 X.qs.length q5)) := Wx.new _ _ _ _ _ _ _ _ _ hb0
  have HB : Hid (w.heap.size = b) := hb0
  rw [hb0]
  generalize w.alloc (Obj.cells #[.int .i64 X.turn, .int .i64 X.next, .int .i64 X.wide, .int .i64 X.high, .slice p1 X.gs.length q1, .slice p2 X.os.length q2, .slice p3 X.gold.length q3, .slice p4 X.us.length q4, .slice p5 X.qs.length q5] 29) = w0 at *
  clear hb0
  go_wp2_with fail
  refine (one_any w0 (SDH.out.below B0.out)).mono ?_
  rintro e w1 ⟨rfl, hb⟩
  have B1 : Hid (Below w.heap.size w w1) := B0.out.trans (hb.mono B0.out.size)
  have X1 : Hid (Wx w1 b (.int .i64 X.turn) (.int .i64 X.next) (.int .i64 X.wide) (.int .i64 X.high) (.slice p1 X.gs.length q1) (.slice p2 X.os.length q2) (.slice p3 X.gold.length q3) (.slice p4 X.us.length q4) (.slice p5 X.qs.length q5)) := X0.out.below hb X0.out.lt
  clear hb X0 B0
  obtain ⟨x0, x1, x2, x3, x4, x5, x6, x7, x8⟩ := X1.out.cells
  go_wp2_with fail
  refine (View_any _ _ ks X p w1 (K.out.1.below B1.out) K.out.2 (H.out.below B1.out)).mono ?_
  rintro e w2 ⟨v, r, rfl, hr, hs, hb⟩
  have B2 : Hid (Below w.heap.size w w2) := B1.out.trans (hb.mono B1.out.size)
  have X2 : Hid (Wx w2 b (.int .i64 X.turn) (.int .i64 X.next) (.int .i64 X.wide) (.int .i64 X.high) (.slice p1 X.gs.length q1) (.slice p2 X.os.length q2) (.slice p3 X.gold.length q3) (.slice p4 X.us.length q4) (.slice p5 X.qs.length q5)) := X1.out.below hb X1.out.lt
  clear hb x0 x1 x2 x3 x4 x5 x6 x7 x8 X1 B1
  rcases hs with ⟨hn, rfl⟩ | ⟨hp0, Wn, hWn, hwo⟩
  case inl =>
    obtain ⟨f, hf⟩ : ∃ f, pfault ks X p = f := ⟨_, rfl⟩
    rw [hf] at hr hn
    rcases hr with ⟨h, -⟩ | ⟨-, rfl⟩
    · exact absurd h hn
    clear hf hn
    go_wp2
    go_ret
    first | exact ⟨rfl, B2.out.trans (((Below.refl _ _).alloc (Nat.le_refl _) _).mono B2.out.size)⟩ | exact ⟨rfl, ⟨B2.out.os, B2.out.tape, B2.out.output, Nat.le_trans B2.out.size (by simp), fun k hk => by rw [((Below.refl w2.heap.size w2).alloc (Nat.le_refl _) _).block k (Nat.lt_of_lt_of_le hk B2.out.size)]; exact B2.out.block k hk⟩⟩
  rw [hp0] at hr
  obtain rfl := One.ez hr
  obtain ⟨D, hD⟩ : ∃ D, viewOf ks Wn X p = D := ⟨_, rfl⟩
  have DV : Hid (viewOf ks Wn X p = D ∧ X.wide = (Wn : Nat) ∧ pfault ks X p = 0) := ⟨hD, hWn, hp0⟩
  rw [hD] at hwo
  obtain ⟨m1, n1, m2, n2, m3, n3, m4, n4, m5, n5, rfl⟩ := wl_shape9 hwo.l
  have DL : Hid (Wl w2 (.agg #[.int .i64 D.turn, .int .i64 D.next, .int .i64 D.wide, .int .i64 D.high, .slice m1 D.gs.length n1, .slice m2 D.os.length n2, .slice m3 D.gold.length n3, .slice m4 D.us.length n4, .slice m5 D.qs.length n5]) D) := hwo.l
  clear hr hD hWn hp0 hwo
  go_upto_region 5 with fail
  obtain ⟨z, hz⟩ : ∃ z, w2.heap.size = z := ⟨_, rfl⟩
  have BA : Hid (Below w2.heap.size w2 (w2.alloc (Obj.cells #[.int .i64 D.turn, .int .i64 D.next, .int .i64 D.wide, .int .i64 D.high, .slice m1 D.gs.length n1, .slice m2 D.os.length n2, .slice m3 D.gold.length n3, .slice m4 D.us.length n4, .slice m5 D.qs.length n5] 29))) := (Below.refl _ _).alloc (Nat.le_refl _) _
  have D3 : Hid (Wx (w2.alloc (Obj.cells #[.int .i64 D.turn, .int .i64 D.next, .int .i64 D.wide, .int .i64 D.high, .slice m1 D.gs.length n1, .slice m2 D.os.length n2, .slice m3 D.gold.length n3, .slice m4 D.us.length n4, .slice m5 D.qs.length n5] 29)) z (.int .i64 D.turn) (.int .i64 D.next) (.int .i64 D.wide) (.int .i64 D.high) (.slice m1 D.gs.length n1) (.slice m2 D.os.length n2) (.slice m3 D.gold.length n3) (.slice m4 D.us.length n4) (.slice m5 D.qs.length n5)) := Wx.new _ _ _ _ _ _ _ _ _ hz
  have B3 : Hid (Below w.heap.size w (w2.alloc (Obj.cells #[.int .i64 D.turn, .int .i64 D.next, .int .i64 D.wide, .int .i64 D.high, .slice m1 D.gs.length n1, .slice m2 D.os.length n2, .slice m3 D.gold.length n3, .slice m4 D.us.length n4, .slice m5 D.qs.length n5] 29))) := B2.out.trans (BA.out.mono B2.out.size)
  have X3 : Hid (Wx (w2.alloc (Obj.cells #[.int .i64 D.turn, .int .i64 D.next, .int .i64 D.wide, .int .i64 D.high, .slice m1 D.gs.length n1, .slice m2 D.os.length n2, .slice m3 D.gold.length n3, .slice m4 D.us.length n4, .slice m5 D.qs.length n5] 29)) b (.int .i64 X.turn) (.int .i64 X.next) (.int .i64 X.wide) (.int .i64 X.high) (.slice p1 X.gs.length q1) (.slice p2 X.os.length q2) (.slice p3 X.gold.length q3) (.slice p4 X.us.length q4) (.slice p5 X.qs.length q5)) := X2.out.below BA.out X2.out.lt
  have DL3 : Hid (Wl (w2.alloc (Obj.cells #[.int .i64 D.turn, .int .i64 D.next, .int .i64 D.wide, .int .i64 D.high, .slice m1 D.gs.length n1, .slice m2 D.os.length n2, .slice m3 D.gold.length n3, .slice m4 D.us.length n4, .slice m5 D.qs.length n5] 29)) (.agg #[.int .i64 D.turn, .int .i64 D.next, .int .i64 D.wide, .int .i64 D.high, .slice m1 D.gs.length n1, .slice m2 D.os.length n2, .slice m3 D.gold.length n3, .slice m4 D.us.length n4, .slice m5 D.qs.length n5]) D) := DL.out.below BA.out
  have ZB0 : Hid (b < z) := by unfold Hid; rw [← hz]; exact X2.out.lt
  rw [hz]
  generalize w2.alloc (Obj.cells #[.int .i64 D.turn, .int .i64 D.next, .int .i64 D.wide, .int .i64 D.high, .slice m1 D.gs.length n1, .slice m2 D.os.length n2, .slice m3 D.gold.length n3, .slice m4 D.us.length n4, .slice m5 D.qs.length n5] 29) = w3 at *
  clear hz BA X2 B2 DL
  obtain ⟨x0, x1, x2, x3, x4, x5, x6, x7, x8⟩ := D3.out.cells
  have DW : Hid (Wd.Wok D) := by unfold Hid; rw [← DV.out.1]; exact view_wok Wn DV.out.2.2
  go_wp2_with fail
  refine (encode_any _ D w3 DL3.out (wsmall_of DW.out) DW.out.in_).mono ?_
  rintro e w4 ⟨u, rfl, ho, hb⟩
  have B4 : Hid (Below w.heap.size w w4) := B3.out.trans (hb.mono B3.out.size)
  have X4 : Hid (Wx w4 b (.int .i64 X.turn) (.int .i64 X.next) (.int .i64 X.wide) (.int .i64 X.high) (.slice p1 X.gs.length q1) (.slice p2 X.os.length q2) (.slice p3 X.gold.length q3) (.slice p4 X.us.length q4) (.slice p5 X.qs.length q5)) := X3.out.below hb X3.out.lt
  have Z4 : Hid (Bz w4 z) := ⟨_, _, _, _, _, _, _, _, _, D3.out.below hb D3.out.lt⟩
  have O4 : Hid (Ob w4 (z + 1) u (Wd.enc D)) := ob_mono ho D3.out.lt
  obtain ⟨pa, ca, rfl⟩ := ho.len
  clear hb ho x0 x1 x2 x3 x4 x5 x6 x7 x8 X3 B3 D3 DL3
  go_wp2_with fail
  go_loopw [12, 13] (fun vb j V => TvI ks p ls.length b z w vb j V) (fun _ j _ => 6 - (intOf j).toNat)
  case atStart => exact ⟨0, X, p1, q1, p2, q2, p3, q3, p4, q4, p5, q5, Wn, Wd.enc D, pa, ca, by omega, by omega, rfl, rfl, DV.out.2.1, by rw [DV.out.1], O4.out, X4.out, H.out.below B4.out, DV.out.2.2, Z4.out, B4.out⟩
  case round =>
  obtain ⟨i, A, s1, l1, s2, l2, s3, l3, s4, l4, s5, l5, Wa, lb, pb, cb, hi6, hil, rfl, rfl, hwa, hlb, hob, hwx, hwl, hpf, hbz, hbb⟩ := hrel
  have AX : Hid (Wx wr b (.int .i64 A.turn) (.int .i64 A.next) (.int .i64 A.wide) (.int .i64 A.high) (.slice s1 A.gs.length l1) (.slice s2 A.os.length l2) (.slice s3 A.gold.length l3) (.slice s4 A.us.length l4) (.slice s5 A.qs.length l5)) := hwx
  have AL : Hid (Wl wr (.agg #[.int .i64 A.turn, .int .i64 A.next, .int .i64 A.wide, .int .i64 A.high, .slice s1 A.gs.length l1, .slice s2 A.os.length l2, .slice s3 A.gold.length l3, .slice s4 A.us.length l4, .slice s5 A.qs.length l5]) A) := hwl
  have AP : Hid (pfault ks A p = 0 ∧ A.wide = (Wa : Nat) ∧ Wd.enc (viewOf ks Wa A p) = lb) := ⟨hpf, hwa, hlb⟩
  have OB : Hid (Ob wr (z + 1) (.slice pb lb.length cb) lb) := hob
  have ZZ : Hid (Bz wr z) := hbz
  have BW : Hid (Below w.heap.size w wr) := hbb
  clear hwx hwl hpf hwa hlb hob hbz hbb X4 Z4 O4 B4 DV DW
  by_cases hin : i < ls.length ∧ i < 6
  case neg =>
    have hc : (¬ (i : Int) < (ls.length : Int)) ∨ ((i : Int) < (ls.length : Int) ∧ ¬ (i : Int) < 6) := by omega
    obtain ⟨x0, x1, x2, x3, x4, x5, x6, x7, x8⟩ := AX.out.cells
    rcases hc with hc | ⟨hc1, hc⟩
    all_goals
      go_wp2_with fail
      refine (View_any _ _ ks A p wr (K.out.1.below BW.out) K.out.2 AL.out).mono ?_
      rintro e w5 ⟨v, r, rfl, hr, hs, hb⟩
      obtain ⟨rfl, hwo⟩ := view_says AP.out.1 AP.out.2.1 hr hs
      obtain ⟨G, hG⟩ : ∃ G, viewOf ks Wa A p = G := ⟨_, rfl⟩
      have GV : Hid (viewOf ks Wa A p = G) := hG
      rw [hG] at hwo
      obtain ⟨g1, d1, g2, d2, g3, d3, g4, d4, g5, d5, rfl⟩ := wl_shape9 hwo.l
      have GO : Hid (Wo w5 wr.heap.size (.agg #[.int .i64 G.turn, .int .i64 G.next, .int .i64 G.wide, .int .i64 G.high, .slice g1 G.gs.length d1, .slice g2 G.os.length d2, .slice g3 G.gold.length d3, .slice g4 G.us.length d4, .slice g5 G.qs.length d5]) G) := hwo
      have B5 : Hid (Below w.heap.size w w5) := BW.out.trans (hb.mono BW.out.size)
      have O5 : Hid (Ob w5 (z + 1) (.slice pb lb.length cb) lb) := OB.out.below hb
      obtain ⟨c0, c1, c2, c3, c4, c5, c6, c7, c8, hz5⟩ := ZZ.out
      have ZL : Hid (z < wr.heap.size) := hz5.lt
      have Z5 : Hid (Wx w5 z c0 c1 c2 c3 c4 c5 c6 c7 c8) := hz5.below hb hz5.lt
      clear hb hwo hr hs hG hz5 x0 x1 x2 x3 x4 x5 x6 x7 x8 hin
      obtain ⟨y0, y1, y2, y3, y4, y5, y6, y7, y8⟩ := Z5.out.cells
      obtain ⟨t0, t1, t2, t3, t4, t5, t6, t7, t8⟩ := Z5.out.thaws
      have KW : Hid (Kp z w5 (((((((((w5.setCell ⟨z, 0, none⟩ (.int .i64 G.turn)).setCell ⟨z, 1, none⟩ (.int .i64 G.next)).setCell ⟨z, 2, none⟩ (.int .i64 G.wide)).setCell ⟨z, 3, none⟩ (.int .i64 G.high)).setCell ⟨z, 4, none⟩ (.slice g1 G.gs.length d1)).setCell ⟨z, 5, none⟩ (.slice g2 G.os.length d2)).setCell ⟨z, 6, none⟩ (.slice g3 G.gold.length d3)).setCell ⟨z, 7, none⟩ (.slice g4 G.us.length d4)).setCell ⟨z, 8, none⟩ (.slice g5 G.qs.length d5))) := put_kp _ _ _ _ _ _ _ _ _ _ _
      have ZN : Hid (Wx (((((((((w5.setCell ⟨z, 0, none⟩ (.int .i64 G.turn)).setCell ⟨z, 1, none⟩ (.int .i64 G.next)).setCell ⟨z, 2, none⟩ (.int .i64 G.wide)).setCell ⟨z, 3, none⟩ (.int .i64 G.high)).setCell ⟨z, 4, none⟩ (.slice g1 G.gs.length d1)).setCell ⟨z, 5, none⟩ (.slice g2 G.os.length d2)).setCell ⟨z, 6, none⟩ (.slice g3 G.gold.length d3)).setCell ⟨z, 7, none⟩ (.slice g4 G.us.length d4)).setCell ⟨z, 8, none⟩ (.slice g5 G.qs.length d5)) z (.int .i64 G.turn) (.int .i64 G.next) (.int .i64 G.wide) (.int .i64 G.high) (.slice g1 G.gs.length d1) (.slice g2 G.os.length d2) (.slice g3 G.gold.length d3) (.slice g4 G.us.length d4) (.slice g5 G.qs.length d5)) := Z5.out.put _ _ _ _ _ _ _ _ _
      have LN : Hid (Wl (((((((((w5.setCell ⟨z, 0, none⟩ (.int .i64 G.turn)).setCell ⟨z, 1, none⟩ (.int .i64 G.next)).setCell ⟨z, 2, none⟩ (.int .i64 G.wide)).setCell ⟨z, 3, none⟩ (.int .i64 G.high)).setCell ⟨z, 4, none⟩ (.slice g1 G.gs.length d1)).setCell ⟨z, 5, none⟩ (.slice g2 G.os.length d2)).setCell ⟨z, 6, none⟩ (.slice g3 G.gold.length d3)).setCell ⟨z, 7, none⟩ (.slice g4 G.us.length d4)).setCell ⟨z, 8, none⟩ (.slice g5 G.qs.length d5)) (.agg #[.int .i64 G.turn, .int .i64 G.next, .int .i64 G.wide, .int .i64 G.high, .slice g1 G.gs.length d1, .slice g2 G.os.length d2, .slice g3 G.gold.length d3, .slice g4 G.us.length d4, .slice g5 G.qs.length d5]) G) := (GO.out.kp KW.out ZL.out).l
      have BN : Hid (Below w.heap.size w (((((((((w5.setCell ⟨z, 0, none⟩ (.int .i64 G.turn)).setCell ⟨z, 1, none⟩ (.int .i64 G.next)).setCell ⟨z, 2, none⟩ (.int .i64 G.wide)).setCell ⟨z, 3, none⟩ (.int .i64 G.high)).setCell ⟨z, 4, none⟩ (.slice g1 G.gs.length d1)).setCell ⟨z, 5, none⟩ (.slice g2 G.os.length d2)).setCell ⟨z, 6, none⟩ (.slice g3 G.gold.length d3)).setCell ⟨z, 7, none⟩ (.slice g4 G.us.length d4)).setCell ⟨z, 8, none⟩ (.slice g5 G.qs.length d5))) := KW.out.below B5.out B5.out.size (by have h1 := HB.out; have h2 := ZB0.out; omega)
      have ON : Hid (Ob (((((((((w5.setCell ⟨z, 0, none⟩ (.int .i64 G.turn)).setCell ⟨z, 1, none⟩ (.int .i64 G.next)).setCell ⟨z, 2, none⟩ (.int .i64 G.wide)).setCell ⟨z, 3, none⟩ (.int .i64 G.high)).setCell ⟨z, 4, none⟩ (.slice g1 G.gs.length d1)).setCell ⟨z, 5, none⟩ (.slice g2 G.os.length d2)).setCell ⟨z, 6, none⟩ (.slice g3 G.gold.length d3)).setCell ⟨z, 7, none⟩ (.slice g4 G.us.length d4)).setCell ⟨z, 8, none⟩ (.slice g5 G.qs.length d5)) (z + 1) (.slice pb lb.length cb) lb) := owns_kp O5.out KW.out (by omega)
      go_upto_region 23 with fail
      clear y0 y1 y2 y3 y4 y5 y6 y7 y8 t0 t1 t2 t3 t4 t5 t6 t7 t8 KW Z5 O5 GO B5
      generalize ((((((((w5.setCell ⟨z, 0, none⟩ (.int .i64 G.turn)).setCell ⟨z, 1, none⟩ (.int .i64 G.next)).setCell ⟨z, 2, none⟩ (.int .i64 G.wide)).setCell ⟨z, 3, none⟩ (.int .i64 G.high)).setCell ⟨z, 4, none⟩ (.slice g1 G.gs.length d1)).setCell ⟨z, 5, none⟩ (.slice g2 G.os.length d2)).setCell ⟨z, 6, none⟩ (.slice g3 G.gold.length d3)).setCell ⟨z, 7, none⟩ (.slice g4 G.us.length d4)).setCell ⟨z, 8, none⟩ (.slice g5 G.qs.length d5) = w6 at *
      obtain ⟨nl, hnl⟩ : ∃ n, lb.length = n := ⟨_, rfl⟩
      have NL : Hid (lb.length = nl) := hnl
      rw [hnl] at ON ⊢
      clear hnl
      go_wp2_with fail
      refine (decode_any _ lb w6 (Ob.by_ ON.out)).mono ?_
      rintro e w7 ⟨hd, hb⟩
      rw [← AP.out.2.2] at hd
      obtain ⟨u, rfl, hu⟩ := dec_says AP.out.1 hd
      rw [AP.out.2.2, NL.out]
      rw [GV.out] at hu
      obtain ⟨h1, k1, h2, k2, h3, k3, h4, k4, h5, k5, rfl⟩ := wl_shape9 hu.l
      have B7 : Hid (Below w.heap.size w w7) := BN.out.trans (hb.mono BN.out.size)
      have Z7 : Hid (Wx w7 z (.int .i64 G.turn) (.int .i64 G.next) (.int .i64 G.wide) (.int .i64 G.high) (.slice g1 G.gs.length d1) (.slice g2 G.os.length d2) (.slice g3 G.gold.length d3) (.slice g4 G.us.length d4) (.slice g5 G.qs.length d5)) := ZN.out.below hb ZN.out.lt
      have L7 : Hid (Wl w7 (.agg #[.int .i64 G.turn, .int .i64 G.next, .int .i64 G.wide, .int .i64 G.high, .slice g1 G.gs.length d1, .slice g2 G.os.length d2, .slice g3 G.gold.length d3, .slice g4 G.us.length d4, .slice g5 G.qs.length d5]) G ∧ Wl w7 (.agg #[.int .i64 G.turn, .int .i64 G.next, .int .i64 G.wide, .int .i64 G.high, .slice h1 G.gs.length k1, .slice h2 G.os.length k2, .slice h3 G.gold.length k3, .slice h4 G.us.length k4, .slice h5 G.qs.length k5]) G) := ⟨LN.out.below hb, hu.l⟩
      clear hb hd hu ZN LN BN ON
      go_upto_region 24 with fail
      obtain ⟨zh, hzh⟩ : ∃ z, w7.heap.size = z := ⟨_, rfl⟩
      have BA : Hid (Below w7.heap.size w7 (w7.alloc (Obj.cells #[.int .i64 G.turn, .int .i64 G.next, .int .i64 G.wide, .int .i64 G.high, .slice h1 G.gs.length k1, .slice h2 G.os.length k2, .slice h3 G.gold.length k3, .slice h4 G.us.length k4, .slice h5 G.qs.length k5] 29))) := (Below.refl _ _).alloc (Nat.le_refl _) _
      have H8 : Hid (Wx (w7.alloc (Obj.cells #[.int .i64 G.turn, .int .i64 G.next, .int .i64 G.wide, .int .i64 G.high, .slice h1 G.gs.length k1, .slice h2 G.os.length k2, .slice h3 G.gold.length k3, .slice h4 G.us.length k4, .slice h5 G.qs.length k5] 29)) zh (.int .i64 G.turn) (.int .i64 G.next) (.int .i64 G.wide) (.int .i64 G.high) (.slice h1 G.gs.length k1) (.slice h2 G.os.length k2) (.slice h3 G.gold.length k3) (.slice h4 G.us.length k4) (.slice h5 G.qs.length k5)) := Wx.new _ _ _ _ _ _ _ _ _ hzh
      have Z8 : Hid (Wx (w7.alloc (Obj.cells #[.int .i64 G.turn, .int .i64 G.next, .int .i64 G.wide, .int .i64 G.high, .slice h1 G.gs.length k1, .slice h2 G.os.length k2, .slice h3 G.gold.length k3, .slice h4 G.us.length k4, .slice h5 G.qs.length k5] 29)) z (.int .i64 G.turn) (.int .i64 G.next) (.int .i64 G.wide) (.int .i64 G.high) (.slice g1 G.gs.length d1) (.slice g2 G.os.length d2) (.slice g3 G.gold.length d3) (.slice g4 G.us.length d4) (.slice g5 G.qs.length d5)) := Z7.out.below BA.out Z7.out.lt
      have B8 : Hid (Below w.heap.size w (w7.alloc (Obj.cells #[.int .i64 G.turn, .int .i64 G.next, .int .i64 G.wide, .int .i64 G.high, .slice h1 G.gs.length k1, .slice h2 G.os.length k2, .slice h3 G.gold.length k3, .slice h4 G.us.length k4, .slice h5 G.qs.length k5] 29))) := B7.out.trans (BA.out.mono B7.out.size)
      have L8 : Hid (Wl (w7.alloc (Obj.cells #[.int .i64 G.turn, .int .i64 G.next, .int .i64 G.wide, .int .i64 G.high, .slice h1 G.gs.length k1, .slice h2 G.os.length k2, .slice h3 G.gold.length k3, .slice h4 G.us.length k4, .slice h5 G.qs.length k5] 29)) (.agg #[.int .i64 G.turn, .int .i64 G.next, .int .i64 G.wide, .int .i64 G.high, .slice g1 G.gs.length d1, .slice g2 G.os.length d2, .slice g3 G.gold.length d3, .slice g4 G.us.length d4, .slice g5 G.qs.length d5]) G ∧ Wl (w7.alloc (Obj.cells #[.int .i64 G.turn, .int .i64 G.next, .int .i64 G.wide, .int .i64 G.high, .slice h1 G.gs.length k1, .slice h2 G.os.length k2, .slice h3 G.gold.length k3, .slice h4 G.us.length k4, .slice h5 G.qs.length k5] 29)) (.agg #[.int .i64 G.turn, .int .i64 G.next, .int .i64 G.wide, .int .i64 G.high, .slice h1 G.gs.length k1, .slice h2 G.os.length k2, .slice h3 G.gold.length k3, .slice h4 G.us.length k4, .slice h5 G.qs.length k5]) G) := ⟨L7.out.1.below BA.out, L7.out.2.below BA.out⟩
      rw [hzh]
      generalize w7.alloc (Obj.cells #[.int .i64 G.turn, .int .i64 G.next, .int .i64 G.wide, .int .i64 G.high, .slice h1 G.gs.length k1, .slice h2 G.os.length k2, .slice h3 G.gold.length k3, .slice h4 G.us.length k4, .slice h5 G.qs.length k5] 29) = w8 at *
      clear BA hzh Z7 B7 L7
      obtain ⟨y0, y1, y2, y3, y4, y5, y6, y7, y8⟩ := Z8.out.cells
      obtain ⟨x0, x1, x2, x3, x4, x5, x6, x7, x8⟩ := H8.out.cells
      go_wp2_with fail
      refine (worlds_like _ _ G w8 L8.out.2 L8.out.1).mono ?_
      rintro e w9 ⟨rfl, hb⟩
      have B9 : Hid (Below w.heap.size w w9) := B8.out.trans (hb.mono B8.out.size)
      clear hb y0 y1 y2 y3 y4 y5 y6 y7 y8 x0 x1 x2 x3 x4 x5 x6 x7 x8 H8 Z8 B8 L8
      go_wp2
      go_ret
      exact ⟨rfl, B9.out⟩
  have hlt : i < ls.length := hin.1
  have hlt' : (i : Int) < (ls.length : Int) := by omega
  have hi9 : (i : Int) < 6 := by omega
  obtain ⟨lo, hlo⟩ : ∃ l, ls[i]? = some l := ⟨_, List.getElem?_eq_getElem hlt⟩
  obtain ⟨a', c', e', -, -, hq⟩ := L.out
  injection e' with e1' e2' e3'
  subst e1' e3'
  obtain ⟨xl, rfl, xlt, hcc⟩ := hq (by rintro rfl; simp at hlt)
  obtain ⟨vo, co, ho⟩ := hcc i lo hlo
  have CO : Hid (w.cell? (xl.add i) = some vo ∧ (xl.add i).block < w.heap.size ∧ Orl w vo lo) := ⟨co, by rw [add_block]; exact xlt, ho⟩
  clear hq hcc hlo xlt co ho e2' hin
  rename World => w3
  go_upto_region 11 with fail
  go_cut [14, 16] (fun v11 v13 V => ∃ z Q, v11 = .pointer (some ⟨z, 0, none⟩) ∧ Stp ks A lo Q v13 ∧ Wbo V z w3.heap.size Q ∧ Below w3.heap.size w3 V)
  case first =>
    have CB : Hid (∀ V, Below w3.heap.size w3 V → (Wx V b (.int .i64 A.turn) (.int .i64 A.next) (.int .i64 A.wide) (.int .i64 A.high) (.slice s1 A.gs.length l1) (.slice s2 A.os.length l2) (.slice s3 A.gold.length l3) (.slice s4 A.us.length l4) (.slice s5 A.qs.length l5)) ∧ V.cell? (xl.add i) = some vo) := fun V hV => ⟨AX.out.below hV AX.out.lt, by rw [(BW.out.trans (hV.mono BW.out.size)).cell CO.out.2.1]; exact CO.out.1⟩
    have DE : Hid (Below w3.heap.size w3 { w3 with drawn := w3.drawn + 1 }) := (Below.refl _ _).drew
    refine wp_region_tree (.read 0 (.read 1 (.read 2 (.read 3 (.read 4 (.read 5 (.two 6 (.read 7 (.read 8 (.read 9 (.read 10 (.one 11 (.one 12 (.one 13 .leaf))))))) 11 (.one 6 (.read 7 (.read 8 (.read 9 (.read 10 (.one 12 (.one 13 .leaf)))))))))))))) [(false, 0), (false, 1), (false, 2), (false, 3), (false, 4), (false, 5), (false, 6), (false, 7), (false, 8), (false, 9), (false, 10), (false, 11), (false, 12), (false, 13)] [(false, 14)] (fun V => (Wx V b (.int .i64 A.turn) (.int .i64 A.next) (.int .i64 A.wide) (.int .i64 A.high) (.slice s1 A.gs.length l1) (.slice s2 A.os.length l2) (.slice s3 A.gold.length l3) (.slice s4 A.us.length l4) (.slice s5 A.qs.length l5)) ∧ V.cell? (xl.add i) = some vo) (by kernel_rfl) (by kernel_rfl) (by kernel_rfl) (by decide +kernel) (by decide +kernel) (CB.out _ DE.out) ?_
    generalize ({ w3 with drawn := w3.drawn + 1 } : World) = u1 at *
    refine tr_read rfl (.slice pk ks.length qk) (by go_simp) (fun V hV => by obtain ⟨hV1, cxo⟩ := hV; obtain ⟨x0, x1, x2, x3, x4, x5, x6, x7, x8⟩ := hV1.cells; go_simp) ?_
    go_simp
    refine tr_read rfl (.agg #[.int .i64 A.turn, .int .i64 A.next, .int .i64 A.wide, .int .i64 A.high, .slice s1 A.gs.length l1, .slice s2 A.os.length l2, .slice s3 A.gold.length l3, .slice s4 A.us.length l4, .slice s5 A.qs.length l5]) (by go_simp) (fun V hV => by obtain ⟨hV1, cxo⟩ := hV; obtain ⟨x0, x1, x2, x3, x4, x5, x6, x7, x8⟩ := hV1.cells; go_simp) ?_
    go_simp
    refine tr_read rfl (.slice (some xl) ls.length ql) (by go_simp) (fun V hV => by obtain ⟨hV1, cxo⟩ := hV; obtain ⟨x0, x1, x2, x3, x4, x5, x6, x7, x8⟩ := hV1.cells; go_simp) ?_
    go_simp
    refine tr_read rfl (.int .i64 (i : Nat)) (by go_simp) (fun V hV => by obtain ⟨hV1, cxo⟩ := hV; obtain ⟨x0, x1, x2, x3, x4, x5, x6, x7, x8⟩ := hV1.cells; go_simp) ?_
    go_simp
    refine tr_read rfl (.pointer (some (xl.add i))) (by go_simp) (fun V hV => by obtain ⟨hV1, cxo⟩ := hV; obtain ⟨x0, x1, x2, x3, x4, x5, x6, x7, x8⟩ := hV1.cells; go_simp) ?_
    go_simp
    refine tr_read rfl (vo) (by go_simp) (fun V hV => by obtain ⟨hV1, cxo⟩ := hV; obtain ⟨x0, x1, x2, x3, x4, x5, x6, x7, x8⟩ := hV1.cells; go_simp) ?_
    go_simp
    refine tr_two ?_ ?_
    · refine st_call rfl 10 #[.slice pk ks.length qk, .agg #[.int .i64 A.turn, .int .i64 A.next, .int .i64 A.wide, .int .i64 A.high, .slice s1 A.gs.length l1, .slice s2 A.os.length l2, .slice s3 A.gold.length l3, .slice s4 A.us.length l4, .slice s5 A.qs.length l5], vo] (by go_simp) (by go_simp) ?_
      have BB : Hid (Below w.heap.size w u1) := BW.out.trans (DE.out.mono BW.out.size)
      refine (Step_any _ _ _ ks A lo u1 (K.out.1.below BB.out) K.out.2 (AL.out.below DE.out) (CO.out.2.2.below BB.out) (SDH.out.below BB.out)).mono ?_
      rintro e u2 ⟨v, ev, r, rfl, hr, hs, hb⟩
      obtain ⟨Q, hwo, hst⟩ := stp_of hs hr
      have ST : Hid (Stp ks A lo Q r) := hst
      clear hr hs hst BB
      obtain ⟨g1, d1, g2, d2, g3, d3, g4, d4, g5, d5, rfl⟩ := wl_shape9 hwo.l
      have LQ : Hid (Wo u2 w3.heap.size (.agg #[.int .i64 Q.turn, .int .i64 Q.next, .int .i64 Q.wide, .int .i64 Q.high, .slice g1 Q.gs.length d1, .slice g2 Q.os.length d2, .slice g3 Q.gold.length d3, .slice g4 Q.us.length d4, .slice g5 Q.qs.length d5]) Q) := hwo.mono DE.out.size
      have BU0 : Hid (Below w3.heap.size w3 u2) := DE.out.trans (hb.mono DE.out.size)
      refine ⟨_, rfl, CB.out _ BU0.out, ?_⟩
      clear hb hwo
      go_simp
      refine tr_read rfl (.tuple #[.agg #[.int .i64 Q.turn, .int .i64 Q.next, .int .i64 Q.wide, .int .i64 Q.high, .slice g1 Q.gs.length d1, .slice g2 Q.os.length d2, .slice g3 Q.gold.length d3, .slice g4 Q.us.length d4, .slice g5 Q.qs.length d5], ev, r]) (by go_simp) (fun V hV => by go_simp) ?_
      go_simp
      refine tr_read rfl (.agg #[.int .i64 Q.turn, .int .i64 Q.next, .int .i64 Q.wide, .int .i64 Q.high, .slice g1 Q.gs.length d1, .slice g2 Q.os.length d2, .slice g3 Q.gold.length d3, .slice g4 Q.us.length d4, .slice g5 Q.qs.length d5]) (by go_simp) (fun V hV => by go_simp) ?_
      go_simp
      refine tr_read rfl (ev) (by go_simp) (fun V hV => by go_simp) ?_
      go_simp
      refine tr_read rfl (r) (by go_simp) (fun V hV => by go_simp) ?_
      go_simp
      refine tr_one ?_
      obtain ⟨bx, hbx⟩ : ∃ z, u2.heap.size = z := ⟨_, rfl⟩
      have ba : Below u2.heap.size u2 (u2.alloc (Obj.cells #[.int .i64 0, .int .i64 0, .int .i64 0, .int .i64 0, .slice none 0 0, .slice none 0 0, .slice none 0 0, .slice none 0 0, .slice none 0 0] 29)) := (Below.refl _ _).alloc (Nat.le_refl _) _
      have ZE : Hid (Wx (u2.alloc (Obj.cells #[.int .i64 0, .int .i64 0, .int .i64 0, .int .i64 0, .slice none 0 0, .slice none 0 0, .slice none 0 0, .slice none 0 0, .slice none 0 0] 29)) bx (.int .i64 0) (.int .i64 0) (.int .i64 0) (.int .i64 0) (.slice none 0 0) (.slice none 0 0) (.slice none 0 0) (.slice none 0 0) (.slice none 0 0)) := Wx.new (w := u2) _ _ _ _ _ _ _ _ _ hbx
      have BU : Hid (Below w3.heap.size w3 (u2.alloc (Obj.cells #[.int .i64 0, .int .i64 0, .int .i64 0, .int .i64 0, .slice none 0 0, .slice none 0 0, .slice none 0 0, .slice none 0 0, .slice none 0 0] 29))) := BU0.out.trans (ba.mono BU0.out.size)
      have NB : Hid (w3.heap.size ≤ bx) := by rw [← hbx]; exact BU0.out.size
      have BL : Hid (Below bx u2 (u2.alloc (Obj.cells #[.int .i64 0, .int .i64 0, .int .i64 0, .int .i64 0, .slice none 0 0, .slice none 0 0, .slice none 0 0, .slice none 0 0, .slice none 0 0] 29))) := by rw [← hbx]; exact ba
      have LX : Hid (u2.heap.size = bx) := hbx
      refine st_value rfl (.pointer (some ⟨u2.heap.size, 0, none⟩)) (u2.alloc (Obj.cells #[.int .i64 0, .int .i64 0, .int .i64 0, .int .i64 0, .slice none 0 0, .slice none 0 0, .slice none 0 0, .slice none 0 0, .slice none 0 0] 29)) (by go_simp) (by go_simp) (CB.out _ BU.out) ?_
      rw [hbx]
      clear ba hbx
      generalize u2.alloc (Obj.cells #[.int .i64 0, .int .i64 0, .int .i64 0, .int .i64 0, .slice none 0 0, .slice none 0 0, .slice none 0 0, .slice none 0 0, .slice none 0 0] 29) = u6 at *
      go_simp
      refine tr_one ?_
      obtain ⟨z0, z1, z2, z3, z4, z5, z6, z7, z8⟩ := ZE.out.cells
      obtain ⟨t0, t1, t2, t3, t4, t5, t6, t7, t8⟩ := ZE.out.thaws
      have KZ : Hid (Kp bx u6 (((((((((u6.setCell ⟨bx, 0, none⟩ (.int .i64 Q.turn)).setCell ⟨bx, 1, none⟩ (.int .i64 Q.next)).setCell ⟨bx, 2, none⟩ (.int .i64 Q.wide)).setCell ⟨bx, 3, none⟩ (.int .i64 Q.high)).setCell ⟨bx, 4, none⟩ (.slice g1 Q.gs.length d1)).setCell ⟨bx, 5, none⟩ (.slice g2 Q.os.length d2)).setCell ⟨bx, 6, none⟩ (.slice g3 Q.gold.length d3)).setCell ⟨bx, 7, none⟩ (.slice g4 Q.us.length d4)).setCell ⟨bx, 8, none⟩ (.slice g5 Q.qs.length d5))) := put_kp _ _ _ _ _ _ _ _ _ _ _
      have BZ : Hid (Below w3.heap.size w3 (((((((((u6.setCell ⟨bx, 0, none⟩ (.int .i64 Q.turn)).setCell ⟨bx, 1, none⟩ (.int .i64 Q.next)).setCell ⟨bx, 2, none⟩ (.int .i64 Q.wide)).setCell ⟨bx, 3, none⟩ (.int .i64 Q.high)).setCell ⟨bx, 4, none⟩ (.slice g1 Q.gs.length d1)).setCell ⟨bx, 5, none⟩ (.slice g2 Q.os.length d2)).setCell ⟨bx, 6, none⟩ (.slice g3 Q.gold.length d3)).setCell ⟨bx, 7, none⟩ (.slice g4 Q.us.length d4)).setCell ⟨bx, 8, none⟩ (.slice g5 Q.qs.length d5))) := KZ.out.below BU.out BU.out.size NB.out
      have WZ : Hid (Wbo (((((((((u6.setCell ⟨bx, 0, none⟩ (.int .i64 Q.turn)).setCell ⟨bx, 1, none⟩ (.int .i64 Q.next)).setCell ⟨bx, 2, none⟩ (.int .i64 Q.wide)).setCell ⟨bx, 3, none⟩ (.int .i64 Q.high)).setCell ⟨bx, 4, none⟩ (.slice g1 Q.gs.length d1)).setCell ⟨bx, 5, none⟩ (.slice g2 Q.os.length d2)).setCell ⟨bx, 6, none⟩ (.slice g3 Q.gold.length d3)).setCell ⟨bx, 7, none⟩ (.slice g4 Q.us.length d4)).setCell ⟨bx, 8, none⟩ (.slice g5 Q.qs.length d5)) bx w3.heap.size Q) := ⟨g1, d1, g2, d2, g3, d3, g4, d4, g5, d5, wx_bw (ZE.out.put _ _ _ _ _ _ _ _ _), (LQ.out.below (by rw [LX.out]; exact KZ.out.below BL.out (by have h9 := BL.out.size; have h8 := LX.out; omega) (Nat.le_refl _)))⟩
      refine st_skip rfl (((((((((u6.setCell ⟨bx, 0, none⟩ (.int .i64 Q.turn)).setCell ⟨bx, 1, none⟩ (.int .i64 Q.next)).setCell ⟨bx, 2, none⟩ (.int .i64 Q.wide)).setCell ⟨bx, 3, none⟩ (.int .i64 Q.high)).setCell ⟨bx, 4, none⟩ (.slice g1 Q.gs.length d1)).setCell ⟨bx, 5, none⟩ (.slice g2 Q.os.length d2)).setCell ⟨bx, 6, none⟩ (.slice g3 Q.gold.length d3)).setCell ⟨bx, 7, none⟩ (.slice g4 Q.us.length d4)).setCell ⟨bx, 8, none⟩ (.slice g5 Q.qs.length d5)) (by go_simp) (by go_simp) (CB.out _ BZ.out) ?_
      clear z0 z1 z2 z3 z4 z5 z6 z7 z8 t0 t1 t2 t3 t4 t5 t6 t7 t8 KZ ZE
      generalize ((((((((u6.setCell ⟨bx, 0, none⟩ (.int .i64 Q.turn)).setCell ⟨bx, 1, none⟩ (.int .i64 Q.next)).setCell ⟨bx, 2, none⟩ (.int .i64 Q.wide)).setCell ⟨bx, 3, none⟩ (.int .i64 Q.high)).setCell ⟨bx, 4, none⟩ (.slice g1 Q.gs.length d1)).setCell ⟨bx, 5, none⟩ (.slice g2 Q.os.length d2)).setCell ⟨bx, 6, none⟩ (.slice g3 Q.gold.length d3)).setCell ⟨bx, 7, none⟩ (.slice g4 Q.us.length d4)).setCell ⟨bx, 8, none⟩ (.slice g5 Q.qs.length d5) = u9 at *
      go_simp
      refine tr_one ?_
      refine st_value rfl ev u9 (by go_simp) (by go_simp) (CB.out _ BZ.out) ?_
      go_simp
      unfold wpTr
      refine sched_value rfl r u9 (by go_simp) (by go_simp) trivial ?_
      go_simp
      unfold wpSched
      go_wp2_with fail
      go_meet
      case rel => exact ⟨bx, Q, rfl, ST.out, WZ.out, BZ.out⟩
    · obtain ⟨bx, hbx⟩ : ∃ z, u1.heap.size = z := ⟨_, rfl⟩
      have ba : Below u1.heap.size u1 (u1.alloc (Obj.cells #[.int .i64 0, .int .i64 0, .int .i64 0, .int .i64 0, .slice none 0 0, .slice none 0 0, .slice none 0 0, .slice none 0 0, .slice none 0 0] 29)) := (Below.refl _ _).alloc (Nat.le_refl _) _
      have ZE0 : Hid (Wx (u1.alloc (Obj.cells #[.int .i64 0, .int .i64 0, .int .i64 0, .int .i64 0, .slice none 0 0, .slice none 0 0, .slice none 0 0, .slice none 0 0, .slice none 0 0] 29)) bx (.int .i64 0) (.int .i64 0) (.int .i64 0) (.int .i64 0) (.slice none 0 0) (.slice none 0 0) (.slice none 0 0) (.slice none 0 0) (.slice none 0 0)) := Wx.new (w := u1) _ _ _ _ _ _ _ _ _ hbx
      have DE2 : Hid (Below w3.heap.size w3 (u1.alloc (Obj.cells #[.int .i64 0, .int .i64 0, .int .i64 0, .int .i64 0, .slice none 0 0, .slice none 0 0, .slice none 0 0, .slice none 0 0, .slice none 0 0] 29))) := DE.out.trans (ba.mono DE.out.size)
      have NB : Hid (w3.heap.size ≤ bx) := by rw [← hbx]; exact DE.out.size
      refine st_value rfl (.pointer (some ⟨u1.heap.size, 0, none⟩)) (u1.alloc (Obj.cells #[.int .i64 0, .int .i64 0, .int .i64 0, .int .i64 0, .slice none 0 0, .slice none 0 0, .slice none 0 0, .slice none 0 0, .slice none 0 0] 29)) (by go_simp) (by go_simp) (CB.out _ DE2.out) ?_
      rw [hbx]
      generalize u1.alloc (Obj.cells #[.int .i64 0, .int .i64 0, .int .i64 0, .int .i64 0, .slice none 0 0, .slice none 0 0, .slice none 0 0, .slice none 0 0, .slice none 0 0] 29) = u3 at *
      go_simp
      clear DE ba hbx
      have DE := DE2
      clear DE2
      refine tr_one ?_
      refine st_call rfl 10 #[.slice pk ks.length qk, .agg #[.int .i64 A.turn, .int .i64 A.next, .int .i64 A.wide, .int .i64 A.high, .slice s1 A.gs.length l1, .slice s2 A.os.length l2, .slice s3 A.gold.length l3, .slice s4 A.us.length l4, .slice s5 A.qs.length l5], vo] (by go_simp) (by go_simp) ?_
      have BB : Hid (Below w.heap.size w u3) := BW.out.trans (DE.out.mono BW.out.size)
      refine (Step_any _ _ _ ks A lo u3 (K.out.1.below BB.out) K.out.2 (AL.out.below DE.out) (CO.out.2.2.below BB.out) (SDH.out.below BB.out)).mono ?_
      rintro e u2 ⟨v, ev, r, rfl, hr, hs, hb⟩
      obtain ⟨Q, hwo, hst⟩ := stp_of hs hr
      have ST : Hid (Stp ks A lo Q r) := hst
      clear hr hs hst BB
      obtain ⟨g1, d1, g2, d2, g3, d3, g4, d4, g5, d5, rfl⟩ := wl_shape9 hwo.l
      have ZE : Hid (Wx u2 bx (.int .i64 0) (.int .i64 0) (.int .i64 0) (.int .i64 0) (.slice none 0 0) (.slice none 0 0) (.slice none 0 0) (.slice none 0 0) (.slice none 0 0)) := ZE0.out.below hb ZE0.out.lt
      have WQ : Hid (Wo u2 u3.heap.size (.agg #[.int .i64 Q.turn, .int .i64 Q.next, .int .i64 Q.wide, .int .i64 Q.high, .slice g1 Q.gs.length d1, .slice g2 Q.os.length d2, .slice g3 Q.gold.length d3, .slice g4 Q.us.length d4, .slice g5 Q.qs.length d5]) Q ∧ bx < u3.heap.size ∧ w3.heap.size ≤ u3.heap.size) := ⟨hwo, ZE0.out.lt, DE.out.size⟩
      have BU : Hid (Below w3.heap.size w3 u2) := DE.out.trans (hb.mono DE.out.size)
      refine ⟨_, rfl, CB.out _ BU.out, ?_⟩
      clear hb hwo ZE0
      go_simp
      refine tr_read rfl (.tuple #[.agg #[.int .i64 Q.turn, .int .i64 Q.next, .int .i64 Q.wide, .int .i64 Q.high, .slice g1 Q.gs.length d1, .slice g2 Q.os.length d2, .slice g3 Q.gold.length d3, .slice g4 Q.us.length d4, .slice g5 Q.qs.length d5], ev, r]) (by go_simp) (fun V hV => by go_simp) ?_
      go_simp
      refine tr_read rfl (.agg #[.int .i64 Q.turn, .int .i64 Q.next, .int .i64 Q.wide, .int .i64 Q.high, .slice g1 Q.gs.length d1, .slice g2 Q.os.length d2, .slice g3 Q.gold.length d3, .slice g4 Q.us.length d4, .slice g5 Q.qs.length d5]) (by go_simp) (fun V hV => by go_simp) ?_
      go_simp
      refine tr_read rfl (ev) (by go_simp) (fun V hV => by go_simp) ?_
      go_simp
      refine tr_read rfl (r) (by go_simp) (fun V hV => by go_simp) ?_
      go_simp
      refine tr_one ?_
      obtain ⟨z0, z1, z2, z3, z4, z5, z6, z7, z8⟩ := ZE.out.cells
      obtain ⟨t0, t1, t2, t3, t4, t5, t6, t7, t8⟩ := ZE.out.thaws
      have KZ : Hid (Kp bx u2 (((((((((u2.setCell ⟨bx, 0, none⟩ (.int .i64 Q.turn)).setCell ⟨bx, 1, none⟩ (.int .i64 Q.next)).setCell ⟨bx, 2, none⟩ (.int .i64 Q.wide)).setCell ⟨bx, 3, none⟩ (.int .i64 Q.high)).setCell ⟨bx, 4, none⟩ (.slice g1 Q.gs.length d1)).setCell ⟨bx, 5, none⟩ (.slice g2 Q.os.length d2)).setCell ⟨bx, 6, none⟩ (.slice g3 Q.gold.length d3)).setCell ⟨bx, 7, none⟩ (.slice g4 Q.us.length d4)).setCell ⟨bx, 8, none⟩ (.slice g5 Q.qs.length d5))) := put_kp _ _ _ _ _ _ _ _ _ _ _
      have BZ : Hid (Below w3.heap.size w3 (((((((((u2.setCell ⟨bx, 0, none⟩ (.int .i64 Q.turn)).setCell ⟨bx, 1, none⟩ (.int .i64 Q.next)).setCell ⟨bx, 2, none⟩ (.int .i64 Q.wide)).setCell ⟨bx, 3, none⟩ (.int .i64 Q.high)).setCell ⟨bx, 4, none⟩ (.slice g1 Q.gs.length d1)).setCell ⟨bx, 5, none⟩ (.slice g2 Q.os.length d2)).setCell ⟨bx, 6, none⟩ (.slice g3 Q.gold.length d3)).setCell ⟨bx, 7, none⟩ (.slice g4 Q.us.length d4)).setCell ⟨bx, 8, none⟩ (.slice g5 Q.qs.length d5))) := KZ.out.below BU.out BU.out.size NB.out
      have WZ : Hid (Wbo (((((((((u2.setCell ⟨bx, 0, none⟩ (.int .i64 Q.turn)).setCell ⟨bx, 1, none⟩ (.int .i64 Q.next)).setCell ⟨bx, 2, none⟩ (.int .i64 Q.wide)).setCell ⟨bx, 3, none⟩ (.int .i64 Q.high)).setCell ⟨bx, 4, none⟩ (.slice g1 Q.gs.length d1)).setCell ⟨bx, 5, none⟩ (.slice g2 Q.os.length d2)).setCell ⟨bx, 6, none⟩ (.slice g3 Q.gold.length d3)).setCell ⟨bx, 7, none⟩ (.slice g4 Q.us.length d4)).setCell ⟨bx, 8, none⟩ (.slice g5 Q.qs.length d5)) bx w3.heap.size Q) := ⟨g1, d1, g2, d2, g3, d3, g4, d4, g5, d5, wx_bw (ZE.out.put _ _ _ _ _ _ _ _ _), (WQ.out.1.kp KZ.out WQ.out.2.1).mono WQ.out.2.2⟩
      refine st_skip rfl (((((((((u2.setCell ⟨bx, 0, none⟩ (.int .i64 Q.turn)).setCell ⟨bx, 1, none⟩ (.int .i64 Q.next)).setCell ⟨bx, 2, none⟩ (.int .i64 Q.wide)).setCell ⟨bx, 3, none⟩ (.int .i64 Q.high)).setCell ⟨bx, 4, none⟩ (.slice g1 Q.gs.length d1)).setCell ⟨bx, 5, none⟩ (.slice g2 Q.os.length d2)).setCell ⟨bx, 6, none⟩ (.slice g3 Q.gold.length d3)).setCell ⟨bx, 7, none⟩ (.slice g4 Q.us.length d4)).setCell ⟨bx, 8, none⟩ (.slice g5 Q.qs.length d5)) (by go_simp) (by go_simp) (CB.out _ BZ.out) ?_
      clear z0 z1 z2 z3 z4 z5 z6 z7 z8 t0 t1 t2 t3 t4 t5 t6 t7 t8 KZ ZE
      generalize ((((((((u2.setCell ⟨bx, 0, none⟩ (.int .i64 Q.turn)).setCell ⟨bx, 1, none⟩ (.int .i64 Q.next)).setCell ⟨bx, 2, none⟩ (.int .i64 Q.wide)).setCell ⟨bx, 3, none⟩ (.int .i64 Q.high)).setCell ⟨bx, 4, none⟩ (.slice g1 Q.gs.length d1)).setCell ⟨bx, 5, none⟩ (.slice g2 Q.os.length d2)).setCell ⟨bx, 6, none⟩ (.slice g3 Q.gold.length d3)).setCell ⟨bx, 7, none⟩ (.slice g4 Q.us.length d4)).setCell ⟨bx, 8, none⟩ (.slice g5 Q.qs.length d5) = u9 at *
      go_simp
      refine tr_one ?_
      refine st_value rfl ev u9 (by go_simp) (by go_simp) (CB.out _ BZ.out) ?_
      go_simp
      unfold wpTr
      refine sched_value rfl r u9 (by go_simp) (by go_simp) trivial ?_
      go_simp
      unfold wpSched
      go_wp2_with fail
      go_meet
      case rel => exact ⟨bx, Q, rfl, ST.out, WZ.out, BZ.out⟩
  case rest =>
  obtain ⟨zq, Q, rfl, hst, hwb, hbw⟩ := hcut
  have B4 : Hid (Below w.heap.size w wc) := BW.out.trans (hbw.mono BW.out.size)
  have A4 : Hid (Wx wc b (.int .i64 A.turn) (.int .i64 A.next) (.int .i64 A.wide) (.int .i64 A.high) (.slice s1 A.gs.length l1) (.slice s2 A.os.length l2) (.slice s3 A.gold.length l3) (.slice s4 A.us.length l4) (.slice s5 A.qs.length l5)) := AX.out.below hbw AX.out.lt
  have AL4 : Hid (Wl wc (.agg #[.int .i64 A.turn, .int .i64 A.next, .int .i64 A.wide, .int .i64 A.high, .slice s1 A.gs.length l1, .slice s2 A.os.length l2, .slice s3 A.gold.length l3, .slice s4 A.us.length l4, .slice s5 A.qs.length l5]) A) := AL.out.below hbw
  have BB : Hid (b < w3.heap.size) := AX.out.lt
  have OB4 : Hid (Ob wc (z + 1) (.slice pb lb.length cb) lb) := OB.out.below hbw
  have ZZ4 : Hid (Bz wc z ∧ z < w3.heap.size) := by
    obtain ⟨c0, c1, c2, c3, c4, c5, c6, c7, c8, hz5⟩ := ZZ.out
    exact ⟨⟨_, _, _, _, _, _, _, _, _, hz5.below hbw hz5.lt⟩, hz5.lt⟩
  rcases hst with ⟨rfl, hsf, es, hsr⟩ | ⟨F, rfl⟩
  case inr =>
    go_wp2
    go_ret
    exact ⟨rfl, B4.out⟩
  have QS4 : Hid (w3.heap.size ≤ wc.heap.size) := hbw.size
  have QP : Hid (pfault ks Q p = 0) := step_player AP.out.1 hsf hsr
  obtain ⟨g1, d1, g2, d2, g3, d3, g4, d4, g5, d5, hqb, hqo⟩ := hwb
  have Q4 : Hid (Bw wc zq Q (.slice g1 Q.gs.length d1) (.slice g2 Q.os.length d2) (.slice g3 Q.gold.length d3) (.slice g4 Q.us.length d4) (.slice g5 Q.qs.length d5)) := hqb
  have QO : Hid (Wo wc w3.heap.size (.agg #[.int .i64 Q.turn, .int .i64 Q.next, .int .i64 Q.wide, .int .i64 Q.high, .slice g1 Q.gs.length d1, .slice g2 Q.os.length d2, .slice g3 Q.gold.length d3, .slice g4 Q.us.length d4, .slice g5 Q.qs.length d5]) Q) := hqo
  clear hsf hsr hqb hqo hbw AX AL BW OB ZZ
  rename World => w4
  obtain ⟨x0, x1, x2, x3, x4, x5, x6, x7, x8⟩ := A4.out.cells
  obtain ⟨y0, y1, y2, y3, y4, y5, y6, y7, y8⟩ := Q4.out
  go_wp2_with fail
  refine (News_any _ _ _ ks A Q p w4 (K.out.1.below B4.out) K.out.2 AL4.out QO.out.l).mono ?_
  rintro e w5 ⟨v, r, rfl, hn, hb⟩
  obtain ⟨Wb, hwb, rfl, hcho⟩ := news_says AP.out.1 QP.out AP.out.2.1 hn
  rw [AP.out.2.2] at hcho
  obtain ⟨bb, hbb⟩ : ∃ l, Wd.enc (viewOf ks Wb Q p) = l := ⟨_, rfl⟩
  have QV : Hid (Q.wide = (Wb : Nat) ∧ Wd.enc (viewOf ks Wb Q p) = bb) := ⟨hwb, hbb⟩
  have LE : Hid (lb.length ≤ 6000 ∧ bb.length ≤ 6000) := ⟨by rw [← AP.out.2.2]; exact view_len Wa AP.out.1, by rw [← hbb]; exact view_len Wb QP.out⟩
  rw [hbb] at hcho
  have D5 : Hid (Below w4.heap.size w4 w5) := hb
  have C5 : Hid (Chl w5 v (Fe.diff lb bb)) := hcho.l
  obtain ⟨pc, cc, rfl⟩ := hcho.len
  clear hb hn hwb hbb hcho x0 x1 x2 x3 x4 x5 x6 x7 x8 y0 y1 y2 y3 y4 y5 y6 y7 y8
  go_wp2_with fail
  refine (Pack_any _ (Fe.diff lb bb) w5 C5.out).mono ?_
  rintro e w6 ⟨v6, r6, rfl, hd, hb⟩
  obtain ⟨rfl, hp⟩ := pack_says LE.out.1 LE.out.2 hd
  have D6 : Hid (Below w4.heap.size w4 w6) := D5.out.trans (hb.mono D5.out.size)
  have P6 : Hid (By w6 v6 (Wd.wr (Fe.nums (Fe.diff lb bb)))) := Ob.by_ hp
  obtain ⟨p6, c6, rfl⟩ := hp.len
  clear hb hd hp C5 D5
  obtain ⟨n6, hn6⟩ : ∃ n, (Wd.wr (Fe.nums (Fe.diff lb bb))).length = n := ⟨_, rfl⟩
  rw [hn6] at P6 ⊢
  clear hn6
  go_wp2_with fail
  refine (Unpack_any _ _ w6 P6.out).mono ?_
  rintro e w7 ⟨v7, n7, r7, rfl, hu, hb⟩
  obtain ⟨rfl, ⟨m7, rfl⟩, ho⟩ := unp_says LE.out.1 LE.out.2 hu
  have D7 : Hid (Below w4.heap.size w4 w7) := D6.out.trans (hb.mono D6.out.size)
  have C7 : Hid (Chl w7 v7 (Fe.diff lb bb)) := ho.l
  obtain ⟨p7, c7, rfl⟩ := ho.len
  clear hb hu ho P6 D6
  go_wp2_with fail
  refine (Apply_any _ _ lb (Fe.diff lb bb) w7 (Ob.by_ (OB4.out.below D7.out)) C7.out).mono ?_
  rintro e w9 ⟨v8, r8, rfl, hd, hb⟩
  obtain ⟨rfl, hp⟩ := app_says LE.out.1 LE.out.2 hd
  have D9 : Hid (Below w4.heap.size w4 w9) := D7.out.trans (hb.mono D7.out.size)
  have B9 : Hid (Below w.heap.size w w9) := B4.out.trans (D9.out.mono B4.out.size)
  have P9 : Hid (Ob w9 (z + 1) v8 bb) := ob_mono hp (Nat.le_trans (Nat.le_trans ZZ4.out.2 (Nat.le_trans QS4.out D7.out.size)) (Nat.le_refl _))
  obtain ⟨p8, c8, rfl⟩ := hp.len
  have A9 : Hid (Wx w9 b (.int .i64 A.turn) (.int .i64 A.next) (.int .i64 A.wide) (.int .i64 A.high) (.slice s1 A.gs.length l1) (.slice s2 A.os.length l2) (.slice s3 A.gold.length l3) (.slice s4 A.us.length l4) (.slice s5 A.qs.length l5)) := A4.out.below D9.out A4.out.lt
  have Q9 : Hid (Bw w9 zq Q (.slice g1 Q.gs.length d1) (.slice g2 Q.os.length d2) (.slice g3 Q.gold.length d3) (.slice g4 Q.us.length d4) (.slice g5 Q.qs.length d5)) := Q4.out.below D9.out Q4.out.lt
  have QO9 : Hid (Wo w9 w3.heap.size (.agg #[.int .i64 Q.turn, .int .i64 Q.next, .int .i64 Q.wide, .int .i64 Q.high, .slice g1 Q.gs.length d1, .slice g2 Q.os.length d2, .slice g3 Q.gold.length d3, .slice g4 Q.us.length d4, .slice g5 Q.qs.length d5]) Q) := QO.out.below D9.out
  have ZZ9 : Hid (Bz w9 z) := by
    obtain ⟨c0, c1, c2, c3, c4, c5, c6, c7, c8, hz5⟩ := ZZ4.out.1
    exact ⟨_, _, _, _, _, _, _, _, _, hz5.below D9.out hz5.lt⟩
  obtain ⟨nb, hnb⟩ : ∃ n, bb.length = n := ⟨_, rfl⟩
  have NB : Hid (bb.length = nb) := hnb
  rw [hnb] at P9 ⊢
  clear hb hd hp C7 D7 D9 A4 AL4 Q4 QO OB4 B4 hnb
  obtain ⟨x0, x1, x2, x3, x4, x5, x6, x7, x8⟩ := Q9.out
  obtain ⟨y0, y1, y2, y3, y4, y5, y6, y7, y8⟩ := A9.out.cells
  obtain ⟨t0, t1, t2, t3, t4, t5, t6, t7, t8⟩ := A9.out.thaws
  have KW : Hid (Kp b w9 (((((((((w9.setCell ⟨b, 0, none⟩ (.int .i64 Q.turn)).setCell ⟨b, 1, none⟩ (.int .i64 Q.next)).setCell ⟨b, 2, none⟩ (.int .i64 Q.wide)).setCell ⟨b, 3, none⟩ (.int .i64 Q.high)).setCell ⟨b, 4, none⟩ (.slice g1 Q.gs.length d1)).setCell ⟨b, 5, none⟩ (.slice g2 Q.os.length d2)).setCell ⟨b, 6, none⟩ (.slice g3 Q.gold.length d3)).setCell ⟨b, 7, none⟩ (.slice g4 Q.us.length d4)).setCell ⟨b, 8, none⟩ (.slice g5 Q.qs.length d5))) := put_kp _ _ _ _ _ _ _ _ _ _ _
  have AN : Hid (Wx (((((((((w9.setCell ⟨b, 0, none⟩ (.int .i64 Q.turn)).setCell ⟨b, 1, none⟩ (.int .i64 Q.next)).setCell ⟨b, 2, none⟩ (.int .i64 Q.wide)).setCell ⟨b, 3, none⟩ (.int .i64 Q.high)).setCell ⟨b, 4, none⟩ (.slice g1 Q.gs.length d1)).setCell ⟨b, 5, none⟩ (.slice g2 Q.os.length d2)).setCell ⟨b, 6, none⟩ (.slice g3 Q.gold.length d3)).setCell ⟨b, 7, none⟩ (.slice g4 Q.us.length d4)).setCell ⟨b, 8, none⟩ (.slice g5 Q.qs.length d5)) b (.int .i64 Q.turn) (.int .i64 Q.next) (.int .i64 Q.wide) (.int .i64 Q.high) (.slice g1 Q.gs.length d1) (.slice g2 Q.os.length d2) (.slice g3 Q.gold.length d3) (.slice g4 Q.us.length d4) (.slice g5 Q.qs.length d5)) := A9.out.put _ _ _ _ _ _ _ _ _
  have LN : Hid (Wl (((((((((w9.setCell ⟨b, 0, none⟩ (.int .i64 Q.turn)).setCell ⟨b, 1, none⟩ (.int .i64 Q.next)).setCell ⟨b, 2, none⟩ (.int .i64 Q.wide)).setCell ⟨b, 3, none⟩ (.int .i64 Q.high)).setCell ⟨b, 4, none⟩ (.slice g1 Q.gs.length d1)).setCell ⟨b, 5, none⟩ (.slice g2 Q.os.length d2)).setCell ⟨b, 6, none⟩ (.slice g3 Q.gold.length d3)).setCell ⟨b, 7, none⟩ (.slice g4 Q.us.length d4)).setCell ⟨b, 8, none⟩ (.slice g5 Q.qs.length d5)) (.agg #[.int .i64 Q.turn, .int .i64 Q.next, .int .i64 Q.wide, .int .i64 Q.high, .slice g1 Q.gs.length d1, .slice g2 Q.os.length d2, .slice g3 Q.gold.length d3, .slice g4 Q.us.length d4, .slice g5 Q.qs.length d5]) Q) := (QO9.out.kp KW.out BB.out).l
  have BN : Hid (Below w.heap.size w (((((((((w9.setCell ⟨b, 0, none⟩ (.int .i64 Q.turn)).setCell ⟨b, 1, none⟩ (.int .i64 Q.next)).setCell ⟨b, 2, none⟩ (.int .i64 Q.wide)).setCell ⟨b, 3, none⟩ (.int .i64 Q.high)).setCell ⟨b, 4, none⟩ (.slice g1 Q.gs.length d1)).setCell ⟨b, 5, none⟩ (.slice g2 Q.os.length d2)).setCell ⟨b, 6, none⟩ (.slice g3 Q.gold.length d3)).setCell ⟨b, 7, none⟩ (.slice g4 Q.us.length d4)).setCell ⟨b, 8, none⟩ (.slice g5 Q.qs.length d5))) := KW.out.below B9.out B9.out.size (by rw [HB.out]; exact Nat.le_refl _)
  have ON : Hid (Ob (((((((((w9.setCell ⟨b, 0, none⟩ (.int .i64 Q.turn)).setCell ⟨b, 1, none⟩ (.int .i64 Q.next)).setCell ⟨b, 2, none⟩ (.int .i64 Q.wide)).setCell ⟨b, 3, none⟩ (.int .i64 Q.high)).setCell ⟨b, 4, none⟩ (.slice g1 Q.gs.length d1)).setCell ⟨b, 5, none⟩ (.slice g2 Q.os.length d2)).setCell ⟨b, 6, none⟩ (.slice g3 Q.gold.length d3)).setCell ⟨b, 7, none⟩ (.slice g4 Q.us.length d4)).setCell ⟨b, 8, none⟩ (.slice g5 Q.qs.length d5)) (z + 1) (.slice p8 nb c8) bb) := owns_kp P9.out KW.out (by have := ZB0.out; omega)
  have ZN : Hid (Bz (((((((((w9.setCell ⟨b, 0, none⟩ (.int .i64 Q.turn)).setCell ⟨b, 1, none⟩ (.int .i64 Q.next)).setCell ⟨b, 2, none⟩ (.int .i64 Q.wide)).setCell ⟨b, 3, none⟩ (.int .i64 Q.high)).setCell ⟨b, 4, none⟩ (.slice g1 Q.gs.length d1)).setCell ⟨b, 5, none⟩ (.slice g2 Q.os.length d2)).setCell ⟨b, 6, none⟩ (.slice g3 Q.gold.length d3)).setCell ⟨b, 7, none⟩ (.slice g4 Q.us.length d4)).setCell ⟨b, 8, none⟩ (.slice g5 Q.qs.length d5)) z) := by
    obtain ⟨c0, c1, c2, c3, c4, c5, c6, c7, c8, hz5⟩ := ZZ9.out
    exact ⟨_, _, _, _, _, _, _, _, _, hz5.kp KW.out (by have := ZB0.out; omega)⟩
  go_wp2
  go_roundw
  case rel => exact ⟨i + 1, Q, g1, d1, g2, d2, g3, d3, g4, d4, g5, d5, Wb, bb, p8, c8, by omega, by omega, by go_num, by rw [NB.out], QV.out.1, QV.out.2, ON.out, AN.out, LN.out, QP.out, ZN.out, BN.out⟩
  case measure => simp [intOf]; omega
end Go.Proofs.YtoabhfipikkkeaaGreatDoor.topViews

namespace Go.Proofs.YtoabhfipikkkeaaGreatDoor
open Go.ChangeShapes Go.WideShapes Go.ChangeAt Go.RowKit
set_option linter.unusedVariables false

theorem sides_g : Tryz.prog.globalNamed "marchland/field.sides" = some 1 := by kernel_rfl
theorem sides_t : (Tryz.prog.globals[1]?).map (·.type) = some 268 := by kernel_rfl
theorem side_cs : Tryz.prog.cellsOf 267 = 2 := by kernel_rfl
theorem int_cs : Tryz.prog.cellsOf 3 = 1 := by kernel_rfl

theorem len2 {α : Type} {l : List α} (h : l.length = 2) : ∃ a b, l = [a, b] := by
  match l, h with
  | [a, b], _ => exact ⟨a, b, rfl⟩
theorem len4 {α : Type} {l : List α} (h : l.length = 4) : ∃ a b c d, l = [a, b, c, d] := by
  match l, h with
  | [a, b, c, d], _ => exact ⟨a, b, c, d, rfl⟩

set_option maxRecDepth 100000 in
theorem side_cells {w : World} {fuel : Nat} {cs : List Value} {a b : Int} {y : DataW Unit × List MemPlace} (h : DataW.trod (fun _ => ()) Tryz.prog w 0 (fun _ => true) false fuel 267 cs = some y) (hy : y.1 = .agg [.lit (.int .i64 a), .lit (.int .i64 b)]) : cs = [.int .i64 a, .int .i64 b] := by
  obtain ⟨y0, y1, n, hx, hl, h0, h1⟩ := trod_struct2 Tryz.underlying267 h
  obtain ⟨p, e0, f0, -⟩ := DataW.trod_int Tryz.underlying3 h0
  obtain ⟨q, e1, f1, -⟩ := DataW.trod_int Tryz.underlying3 h1
  rw [hx, f0, f1] at hy
  simp only [DataW.agg.injEq, List.cons.injEq, DataW.lit.injEq, Lit.int.injEq, true_and, and_true] at hy
  obtain ⟨rfl, rfl⟩ := hy
  dsimp only at e0 e1
  rw [int_cs] at e0 e1
  rw [side_cs] at hl
  obtain ⟨c0, c1, rfl⟩ := len2 hl
  simp at e0 e1
  rw [e0, e1]

set_option maxRecDepth 100000 in
theorem sd_of_laid {w : World} (h : laidMet Tryz.prog [("marchland/field.sides", Rows.laid_marchland_field_sides)] w) : Sd w := by
  obtain ⟨ps, ⟨g, t, cs, fuel, p, q, h1, h2, h3, h4, -, -⟩, -, -⟩ := h
  obtain rfl := Option.some.inj (sides_g.symm.trans h1)
  obtain rfl := Option.some.inj (sides_t.symm.trans h2)
  obtain ⟨xs, m, -, hx, hl, hn, hi⟩ := DataW.trod_array Tryz.underlying268 h4
  have hd : xs.map (·.1) = [.agg [.lit (.int .i64 0), .lit (.int .i64 (-1))], .agg [.lit (.int .i64 (-1)), .lit (.int .i64 0)], .agg [.lit (.int .i64 1), .lit (.int .i64 0)], .agg [.lit (.int .i64 0), .lit (.int .i64 1)]] := by
    have e : Rows.laid_marchland_field_sides = DataW.agg (xs.map (·.1)) := congrArg Prod.fst hx
    unfold Rows.laid_marchland_field_sides at e
    injection e with e
    exact e.symm
  obtain ⟨x0, x1, x2, x3, rfl⟩ := len4 hn
  simp only [List.map_cons, List.map_nil, List.cons.injEq, and_true] at hd
  obtain ⟨d0, d1, d2, d3⟩ := hd
  have i0 := side_cells (hi 0 (by decide)) d0
  have i1 := side_cells (hi 1 (by decide)) d1
  have i2 := side_cells (hi 2 (by decide)) d2
  have i3 := side_cells (hi 3 (by decide)) d3
  rw [side_cs] at i0 i1 i2 i3
  have ec : ∀ k : Nat, w.cell? ⟨1, k, none⟩ = cs.toList[k]? := fun k => by
    have e := World.var?_cell sides_g h3 k
    rw [e, Array.getElem?_toList]
  have g0 : ∀ k a b, (cs.toList.drop (k * 2)).take 2 = [.int .i64 a, .int .i64 b] → cs.toList[k * 2]? = some (.int .i64 a) ∧ cs.toList[k * 2 + 1]? = some (.int .i64 b) := by
    intro k a b e
    constructor
    · have := congrArg (fun l => l[0]?) e
      simpa [List.getElem?_take, List.getElem?_drop] using this
    · have := congrArg (fun l => l[1]?) e
      simpa [List.getElem?_take, List.getElem?_drop] using this
  have j0 := g0 0 _ _ i0
  have j1 := g0 1 _ _ i1
  have j2 := g0 2 _ _ i2
  have j3 := g0 3 _ _ i3
  exact ⟨(ec 0).trans j0.1, (ec 1).trans j0.2, (ec 2).trans j1.1, (ec 3).trans j1.2, (ec 4).trans j2.1, (ec 5).trans j2.2, (ec 6).trans j3.1, (ec 7).trans j3.2⟩
end Go.Proofs.YtoabhfipikkkeaaGreatDoor

