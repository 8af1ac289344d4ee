/- FightWeighs: right; the fact. · How great what came in is; a byte. · What a walk is told of worlds and bytes that came in. · What a walk is told of kinds that came in. · What a walk is told of records api.Order that came in. · A region that draws its order, walked along a tree of the orders that may come: reads first, then what makes memory in each order. -/
import Derived.Test.YtkejdkajfnaieaaGreatDoorZTurnOrder10
import Derived.Test.YtkejdkajfnaieaaGreatDoorZTurnOrder18
import Derived.Test.YtkejdkajfnaieaaGreatDoorZTurnOrder7
import Derived.Test.YtkejdkajfnaieaaGreatDoorZTurnOrder1
import Derived.Deep.SlicePairs
import Derived.ChangeArms
import Derived.ProofKit
import Derived.OpenShut
import Derived.Test.YtkejdkajfnaieaaGreatDoorZTurnOrder3
namespace Go.Proofs.YtkejdkajfnaieaaGreatDoor
open Go.RowKit
set_option linter.unusedVariables false

set_option maxHeartbeats 1000000 in
theorem right_fw (vk vw : Value) (ks : List KV) (X : WV) (w : World) (hk : Kl w vk ks) (hb : ∀ k ∈ ks, k.b.size ≤ 9223372036854775807) (hw : Wl w vw X) (h0 : Wd.wfault ks X = 0) :
    Calls Tryz.prog 12 #[vk, vw] w fun e w' => e = .returned (.bool true) ∧ Below w.heap.size w w' := by
  have H : Hid (Wl w vw X ∧ Kl w vk ks ∧ (∀ k ∈ ks, k.b.size ≤ 9223372036854775807) ∧ Wd.wfault ks X = 0) := ⟨hw, hk, hb, h0⟩
  obtain ⟨p1, q1, p2, q2, p3, q3, p4, q4, p5, q5, rfl⟩ := wl_shape9 hw
  clear hk hb hw h0
  go_enter Tryz.func12, Tryz.ntmps12
  go_upto_region 1 with fail
  have B0 : Hid (Below w.heap.size w (w.alloc (Obj.cells #[.int .i64 X.turn, .int .i64 X.next, .int .i64 X.wide, .int .i64 X.high, .slice p1 X.gs.length q1, .slice p2 X.os.length q2, .slice p3 X.gold.length q3, .slice p4 X.us.length q4, .slice p5 X.qs.length q5] 29))) := (Below.refl _ _).alloc (Nat.le_refl _) _
  have X0 : Hid (Bw (w.alloc (Obj.cells #[.int .i64 X.turn, .int .i64 X.next, .int .i64 X.wide, .int .i64 X.high, .slice p1 X.gs.length q1, .slice p2 X.os.length q2, .slice p3 X.gold.length q3, .slice p4 X.us.length q4, .slice p5 X.qs.length q5] 29)) w.heap.size X (.slice p1 X.gs.length q1) (.slice p2 X.os.length q2) (.slice p3 X.gold.length q3) (.slice p4 X.us.length q4) (.slice p5 X.qs.length q5)) := Bw.mk' X _ _ _ _ _ rfl
  generalize (w.alloc (Obj.cells #[.int .i64 X.turn, .int .i64 X.next, .int .i64 X.wide, .int .i64 X.high, .slice p1 X.gs.length q1, .slice p2 X.os.length q2, .slice p3 X.gold.length q3, .slice p4 X.us.length q4, .slice p5 X.qs.length q5] 29)) = w0 at *
  obtain ⟨x0, x1, x2, x3, x4, x5, x6, x7, x8⟩ := X0.out
  go_wp2_with fail
  refine (wcheck_any _ _ ks X w0 (H.out.2.1.below B0.out) H.out.2.2.1 (H.out.1.below B0.out)).mono ?_
  rintro e w1 ⟨r, rfl, hr, hb⟩
  rw [H.out.2.2.2] at hr
  obtain rfl := er_zero hr
  have B1 : Hid (Below w.heap.size w w1) := B0.out.trans (hb.mono B0.out.size)
  clear hb hr x0 x1 x2 x3 x4 x5 x6 x7 x8
  go_wp2
  go_ret
  exact ⟨rfl, B1.out⟩
/-- the small world, a fighter beside a digger. -/
def SF : WV := ⟨0, 4, 4, 2, SG, SO, [100, 100], [⟨1, 0, 0, 0, 50, 0, 0, 0⟩, ⟨2, 0, 1, 1, 10, 0, 0, 0⟩, ⟨3, 1, 2, 2, 20, 0, 0, 0⟩], []⟩
def SFu : List UnV := [⟨1, 0, 0, 0, 50, 0, 0, 0⟩, ⟨2, 0, 1, 1, 6, 0, 0, 0⟩, ⟨3, 1, 2, 2, 20, 0, 0, 0⟩]
theorem sf_fault : Wd.wfault SK SF = 0 := by decide +kernel
theorem sf_us : stays SK 4 SF = SFu := by rfl
theorem sf_fought : fought SK 4 SF = { SF with us := SFu, qs := [] } := by rfl
theorem sf_events : fevents SK 4 SF = [⟨2, 3, 2⟩] := by rfl
theorem own_ne {w : World} {base g : Nat} {T : TypeId} {size : Nat} {u : Value} {n : Nat} {cs : List Value} {us : List UnV} {rest : List Value} (h : w.ownsRow base T size u n cs) (hu : Ub w g us rest) (hT : T ≠ 42) : ∀ b, u.ownBlock = some b → some g ≠ some b := by
  intro b hb e
  rcases h.2 with ⟨h1, -⟩ | ⟨g', cap, cur, h1, -, h3, -⟩
  · rw [h1] at hb; cases hb
  · rw [h1] at hb
    have hb' : g' = b := by injection hb
    injection e with e
    unfold Ub at hu
    rw [hb', ← e, hu] at h3
    injection h3 with h3
    injection h3 with h4 h5
    exact hT h5.symm
end Go.Proofs.YtkejdkajfnaieaaGreatDoor

namespace Go.Proofs.YtkejdkajfnaieaaGreatDoor
open Go.ChangeShapes Go.WideShapes Go.ChangeAt Go.RowKit
set_option linter.unusedVariables false

theorem byte_of_wf {n : Int} (h : (Lit.int .u8 n).wf = true) : 0 ≤ n ∧ n < 256 := by
  simp only [Lit.wf, Bool.and_eq_true, decide_eq_true_eq] at h
  have h1 : IntKind.u8.min = 0 := by decide
  have h2 : IntKind.u8.max = 255 := by decide
  omega
theorem bulk_pos {H : Type} : ∀ d : DataW H, 1 ≤ Rows.uptoBulk d
  | .lit (.string bytes) => by simp [Rows.uptoBulk]
  | .lit (.int _ _) => by simp [Rows.uptoBulk]
  | .lit (.bool _) => by simp [Rows.uptoBulk]
  | .lit (.float .f32 _) => by simp [Rows.uptoBulk]
  | .lit (.float .f64 _) => by simp [Rows.uptoBulk]
  | .lit .nil => by simp [Rows.uptoBulk]
  | .nil => by simp [Rows.uptoBulk]
  | .ptr d => by simp [Rows.uptoBulk]
  | .slice _ _ => by simp [Rows.uptoBulk]
  | .agg _ => by simp [Rows.uptoBulk]
  | .iface _ _ => by simp [Rows.uptoBulk]
  | .map _ => by simp [Rows.uptoBulk]
  | .held _ => by simp [Rows.uptoBulk]
theorem bulk_len {H : Type} : ∀ ds : List (DataW H), ds.length ≤ Rows.uptoBulkAll ds
  | [] => by simp
  | d :: ds => by
    have h1 := bulk_pos d
    have h2 := bulk_len ds
    simp only [Rows.uptoBulkAll, List.length_cons]
    omega
theorem bulk_slice {H : Type} (es sp : List (DataW H)) : es.length ≤ Rows.uptoBulk (.slice es sp) := by
  have := bulk_len es
  simp only [Rows.uptoBulk]
  omega
end Go.Proofs.YtkejdkajfnaieaaGreatDoor

namespace Go.Proofs.YtkejdkajfnaieaaGreatDoor
open Go.ChangeShapes Go.WideShapes Go.ChangeAt Go.RowKit
set_option linter.unusedVariables false

theorem in64_of_wf {n : Int} (h : (Lit.int .i64 n).wf = true) : Wd.In64 n := by
  unfold Wd.In64
  simp only [Lit.wf, Bool.and_eq_true, decide_eq_true_eq] at h
  have h1 : IntKind.i64.min = -9223372036854775808 := by decide
  have h2 : IntKind.i64.max = 9223372036854775807 := by decide
  omega
set_option maxRecDepth 100000 in
theorem open_row64 {H : Type} {enc : TypeId × Value → H} {W : World} {base : Nat} {held : Bool} {fuel : Nat} {v : Value} {y : DataW H × List MemPlace} (h : DataW.trod enc Tryz.prog W base (fun _ => true) held fuel 23 [v] = some y) :
    ∃ zs, Ro W v zs ∧ (∀ n ∈ zs, Wd.In64 n) ∧ zs.length ≤ Rows.uptoBulk y.1 := by
  rcases open_ints Tryz.underlying23 Tryz.underlying3 (by kernel_rfl) h with ⟨hcs, rfl⟩ | ⟨x, l, c, zs, hcs, _, hl, hm, hz, rfl, hcell, hwz⟩
  · simp at hcs
    subst hcs
    exact ⟨_, IsRow.ro (.inl ⟨rfl, rfl, rfl, rfl⟩), by simp, by simp⟩
  · simp at hcs
    subst hcs
    refine ⟨_, IsRow.ro (zs := zs) (.inr ⟨_, rfl, hl, hm, by simpa using hz, hcell, hwz⟩), fun n hn => in64_of_wf (hwz n (List.mem_of_mem_take hn)), ?_⟩
    have := bulk_slice (H := H) (lits .i64 (zs.take l)) (lits .i64 (zs.drop l))
    simpa [lits] using this
theorem un_flds : ∃ f0 f1 f2 f3 f4 f5 f6 f7 : Field, Tryz.prog.underlying 42 = some (.struct #[f0, f1, f2, f3, f4, f5, f6, f7]) ∧ f0.offset = 0 ∧ f0.type = 3 ∧ f1.offset = 1 ∧ f1.type = 3 ∧ f2.offset = 2 ∧ f2.type = 3 ∧ f3.offset = 3 ∧ f3.type = 3 ∧ f4.offset = 4 ∧ f4.type = 3 ∧ f5.offset = 5 ∧ f5.type = 3 ∧ f6.offset = 6 ∧ f6.type = 3 ∧ f7.offset = 7 ∧ f7.type = 3 := ⟨_, _, _, _, _, _, _, _, Tryz.underlying42, rfl, rfl, rfl, rfl, rfl, rfl, rfl, rfl, rfl, rfl, rfl, rfl, rfl, rfl, rfl, rfl⟩
set_option maxRecDepth 100000 in
theorem open_un64 {H : Type} {enc : TypeId × Value → H} {W : World} {base : Nat} {held : Bool} {fuel : Nat} {cs : List Value} {y : DataW H × List MemPlace} (h : DataW.trod enc Tryz.prog W base (fun _ => true) held fuel 42 cs = some y) :
    ∃ k : UnV, cs = [.int .i64 k.id, .int .i64 k.player, .int .i64 k.kind, .int .i64 k.at_, .int .i64 k.life, .int .i64 k.load, .int .i64 k.task, .int .i64 k.goal] ∧ ∀ n ∈ Wd.unums k, Wd.In64 n := by
  obtain ⟨f0, f1, f2, f3, f4, f5, f6, f7, he, o0, t0, o1, t1, o2, t2, o3, t3, o4, t4, o5, t5, o6, t6, o7, t7⟩ := un_flds
  obtain ⟨xs, m, -, -, hlen, hxl, hf⟩ := DataW.trod_struct he h
  have csi : Tryz.prog.cellsOf 3 = 1 := by kernel_rfl
  have csk : Tryz.prog.cellsOf 42 = 8 := by kernel_rfl
  rw [csk] at hlen
  match cs, hlen with
  | [v0, v1, v2, v3, v4, v5, v6, v7], _ =>
    have hx : xs.length = 8 := hxl
    match xs, hx with
    | [x0, x1, x2, x3, x4, x5, x6, x7], _ =>
      have g0 := hf 0 f0 rfl
      rw [o0, t0, csi] at g0
      have g1 := hf 1 f1 rfl
      rw [o1, t1, csi] at g1
      have g2 := hf 2 f2 rfl
      rw [o2, t2, csi] at g2
      have g3 := hf 3 f3 rfl
      rw [o3, t3, csi] at g3
      have g4 := hf 4 f4 rfl
      rw [o4, t4, csi] at g4
      have g5 := hf 5 f5 rfl
      rw [o5, t5, csi] at g5
      have g6 := hf 6 f6 rfl
      rw [o6, t6, csi] at g6
      have g7 := hf 7 f7 rfl
      rw [o7, t7, csi] at g7
      obtain ⟨m0, e0, -, w0⟩ := DataW.trod_int Tryz.underlying3 g0
      obtain ⟨m1, e1, -, w1⟩ := DataW.trod_int Tryz.underlying3 g1
      obtain ⟨m2, e2, -, w2⟩ := DataW.trod_int Tryz.underlying3 g2
      obtain ⟨m3, e3, -, w3⟩ := DataW.trod_int Tryz.underlying3 g3
      obtain ⟨m4, e4, -, w4⟩ := DataW.trod_int Tryz.underlying3 g4
      obtain ⟨m5, e5, -, w5⟩ := DataW.trod_int Tryz.underlying3 g5
      obtain ⟨m6, e6, -, w6⟩ := DataW.trod_int Tryz.underlying3 g6
      obtain ⟨m7, e7, -, w7⟩ := DataW.trod_int Tryz.underlying3 g7
      simp at e0 e1 e2 e3 e4 e5 e6 e7
      subst e0 e1 e2 e3 e4 e5 e6 e7
      refine ⟨⟨m0, m1, m2, m3, m4, m5, m6, m7⟩, rfl, ?_⟩
      intro n hn
      simp only [Wd.unums, List.mem_cons, List.not_mem_nil, or_false] at hn
      rcases hn with rfl | rfl | rfl | rfl | rfl | rfl | rfl | rfl
      · exact in64_of_wf w0
      · exact in64_of_wf w1
      · exact in64_of_wf w2
      · exact in64_of_wf w3
      · exact in64_of_wf w4
      · exact in64_of_wf w5
      · exact in64_of_wf w6
      · exact in64_of_wf w7
theorem open_uns64 {H : Type} {enc : TypeId × Value → H} {W : World} {base : Nat} {held : Bool} {fuel : Nat} {v : Value} {y : DataW H × List MemPlace} (h : DataW.trod enc Tryz.prog W base (fun _ => true) held fuel 26 [v] = some y) :
    ∃ ks : List UnV, Unl W v ks ∧ (∀ k ∈ ks, ∀ n ∈ Wd.unums k, Wd.In64 n) ∧ ks.length ≤ Rows.uptoBulk y.1 := by
  have csk : Tryz.prog.cellsOf 42 = 8 := by kernel_rfl
  rcases Go.Deep.open_slice Tryz.underlying26 h with ⟨hcs, -⟩ | ⟨a, len, cap, m, q, D, Pl, hcs, hb, hl, hm, hmm, rfl, hx⟩
  · simp at hcs
    subst hcs
    exact ⟨[], ⟨none, 0, rfl, Nat.le_refl _, by omega, fun h => absurd rfl h⟩, by simp, by simp⟩
  · simp at hcs
    subst hcs
    have hlm : len ≤ m := by rw [hmm]; simp; exact hl
    have each : ∀ i, i < len → ∃ k : UnV, Unc W (a.add (i * 8)) k ∧ (∀ n ∈ Wd.unums k, Wd.In64 n) := by
      intro i hi
      obtain ⟨cs', h1, h2⟩ := hx i (by omega)
      obtain ⟨k, rfl, hk⟩ := open_un64 h2
      rw [csk] at h1
      obtain ⟨-, -, hcell⟩ := World.cells?_some h1
      refine ⟨k, ?_, hk⟩
      generalize a.add (i * 8) = y at *
      exact ⟨hcell 0 (by decide), hcell 1 (by decide), hcell 2 (by decide), hcell 3 (by decide), hcell 4 (by decide), hcell 5 (by decide), hcell 6 (by decide), hcell 7 (by decide)⟩
    have inh : Inhabited UnV := ⟨⟨0, 0, 0, 0, 0, 0, 0, 0⟩⟩
    obtain ⟨q, hq⟩ := Go.Deep.choose_lt each
    refine ⟨(List.range len).map q, ⟨some a, cap, by simp, by simpa using hl, by unfold maxLen at hm; omega, fun hn => ⟨a, rfl, ?_, fun i k hk => ?_⟩⟩, ?_, ?_⟩
    · have h0 : 0 < len := by
        rcases Nat.eq_zero_or_pos len with h | h
        · subst h; simp at hn
        · exact h
      have := (hq 0 h0).1.lt
      rwa [add_block] at this
    · have hi : i < len := by
        have := (List.getElem?_eq_some_iff.1 hk).1
        simpa using this
      rw [List.getElem?_map, List.getElem?_range hi] at hk
      injection hk with hk
      subst hk
      exact (hq i hi).1
    · intro k hk
      obtain ⟨i, hi, rfl⟩ := List.mem_map.1 hk
      exact (hq i (List.mem_range.1 hi)).2
    · have := bulk_slice ((List.range len).map D) ((List.range (m - len)).map fun j => D (len + j))
      simpa using this
theorem jb_flds : ∃ f0 f1 f2 f3 : Field, Tryz.prog.underlying 104 = some (.struct #[f0, f1, f2, f3]) ∧ f0.offset = 0 ∧ f0.type = 3 ∧ f1.offset = 1 ∧ f1.type = 3 ∧ f2.offset = 2 ∧ f2.type = 3 ∧ f3.offset = 3 ∧ f3.type = 3 := ⟨_, _, _, _, Tryz.underlying104, rfl, rfl, rfl, rfl, rfl, rfl, rfl, rfl⟩
set_option maxRecDepth 100000 in
theorem open_jb64 {H : Type} {enc : TypeId × Value → H} {W : World} {base : Nat} {held : Bool} {fuel : Nat} {cs : List Value} {y : DataW H × List MemPlace} (h : DataW.trod enc Tryz.prog W base (fun _ => true) held fuel 104 cs = some y) :
    ∃ k : JbV, cs = [.int .i64 k.player, .int .i64 k.unit, .int .i64 k.kind, .int .i64 k.left] ∧ ∀ n ∈ Wd.jnums k, Wd.In64 n := by
  obtain ⟨f0, f1, f2, f3, he, o0, t0, o1, t1, o2, t2, o3, t3⟩ := jb_flds
  obtain ⟨xs, m, -, -, hlen, hxl, hf⟩ := DataW.trod_struct he h
  have csi : Tryz.prog.cellsOf 3 = 1 := by kernel_rfl
  have csk : Tryz.prog.cellsOf 104 = 4 := by kernel_rfl
  rw [csk] at hlen
  match cs, hlen with
  | [v0, v1, v2, v3], _ =>
    have hx : xs.length = 4 := hxl
    match xs, hx with
    | [x0, x1, x2, x3], _ =>
      have g0 := hf 0 f0 rfl
      rw [o0, t0, csi] at g0
      have g1 := hf 1 f1 rfl
      rw [o1, t1, csi] at g1
      have g2 := hf 2 f2 rfl
      rw [o2, t2, csi] at g2
      have g3 := hf 3 f3 rfl
      rw [o3, t3, csi] at g3
      obtain ⟨m0, e0, -, w0⟩ := DataW.trod_int Tryz.underlying3 g0
      obtain ⟨m1, e1, -, w1⟩ := DataW.trod_int Tryz.underlying3 g1
      obtain ⟨m2, e2, -, w2⟩ := DataW.trod_int Tryz.underlying3 g2
      obtain ⟨m3, e3, -, w3⟩ := DataW.trod_int Tryz.underlying3 g3
      simp at e0 e1 e2 e3
      subst e0 e1 e2 e3
      refine ⟨⟨m0, m1, m2, m3⟩, rfl, ?_⟩
      intro n hn
      simp only [Wd.jnums, List.mem_cons, List.not_mem_nil, or_false] at hn
      rcases hn with rfl | rfl | rfl | rfl
      · exact in64_of_wf w0
      · exact in64_of_wf w1
      · exact in64_of_wf w2
      · exact in64_of_wf w3
theorem open_jbs64 {H : Type} {enc : TypeId × Value → H} {W : World} {base : Nat} {held : Bool} {fuel : Nat} {v : Value} {y : DataW H × List MemPlace} (h : DataW.trod enc Tryz.prog W base (fun _ => true) held fuel 27 [v] = some y) :
    ∃ ks : List JbV, Jbl W v ks ∧ (∀ k ∈ ks, ∀ n ∈ Wd.jnums k, Wd.In64 n) ∧ ks.length ≤ Rows.uptoBulk y.1 := by
  have csk : Tryz.prog.cellsOf 104 = 4 := by kernel_rfl
  rcases Go.Deep.open_slice Tryz.underlying27 h with ⟨hcs, -⟩ | ⟨a, len, cap, m, q, D, Pl, hcs, hb, hl, hm, hmm, rfl, hx⟩
  · simp at hcs
    subst hcs
    exact ⟨[], ⟨none, 0, rfl, Nat.le_refl _, by omega, fun h => absurd rfl h⟩, by simp, by simp⟩
  · simp at hcs
    subst hcs
    have hlm : len ≤ m := by rw [hmm]; simp; exact hl
    have each : ∀ i, i < len → ∃ k : JbV, Jbc W (a.add (i * 4)) k ∧ (∀ n ∈ Wd.jnums k, Wd.In64 n) := by
      intro i hi
      obtain ⟨cs', h1, h2⟩ := hx i (by omega)
      obtain ⟨k, rfl, hk⟩ := open_jb64 h2
      rw [csk] at h1
      obtain ⟨-, -, hcell⟩ := World.cells?_some h1
      refine ⟨k, ?_, hk⟩
      generalize a.add (i * 4) = y at *
      exact ⟨hcell 0 (by decide), hcell 1 (by decide), hcell 2 (by decide), hcell 3 (by decide)⟩
    have inh : Inhabited JbV := ⟨⟨0, 0, 0, 0⟩⟩
    obtain ⟨q, hq⟩ := Go.Deep.choose_lt each
    refine ⟨(List.range len).map q, ⟨some a, cap, by simp, by simpa using hl, by unfold maxLen at hm; omega, fun hn => ⟨a, rfl, ?_, fun i k hk => ?_⟩⟩, ?_, ?_⟩
    · have h0 : 0 < len := by
        rcases Nat.eq_zero_or_pos len with h | h
        · subst h; simp at hn
        · exact h
      have := (hq 0 h0).1.lt
      rwa [add_block] at this
    · have hi : i < len := by
        have := (List.getElem?_eq_some_iff.1 hk).1
        simpa using this
      rw [List.getElem?_map, List.getElem?_range hi] at hk
      injection hk with hk
      subst hk
      exact (hq i hi).1
    · intro k hk
      obtain ⟨i, hi, rfl⟩ := List.mem_map.1 hk
      exact (hq i (List.mem_range.1 hi)).2
    · have := bulk_slice ((List.range len).map D) ((List.range (m - len)).map fun j => D (len + j))
      simpa using this
theorem world_flds : ∃ f0 f1 f2 f3 f4 f5 : Field, Tryz.prog.underlying 29 = some (.struct #[f0, f1, f2, f3, f4, f5]) ∧ f0.offset = 0 ∧ f0.type = 3 ∧ f1.offset = 1 ∧ f1.type = 3 ∧ f2.offset = 2 ∧ f2.type = 25 ∧ f3.offset = 6 ∧ f3.type = 23 ∧ f4.offset = 7 ∧ f4.type = 26 ∧ f5.offset = 8 ∧ f5.type = 27 := ⟨_, _, _, _, _, _, Tryz.underlying29, rfl, rfl, rfl, rfl, rfl, rfl, rfl, rfl, rfl, rfl, rfl, rfl⟩
theorem field_flds : ∃ f0 f1 f2 f3 : Field, Tryz.prog.underlying 25 = some (.struct #[f0, f1, f2, f3]) ∧ f0.offset = 0 ∧ f0.type = 3 ∧ f1.offset = 1 ∧ f1.type = 3 ∧ f2.offset = 2 ∧ f2.type = 23 ∧ f3.offset = 3 ∧ f3.type = 23 := ⟨_, _, _, _, Tryz.underlying25, rfl, rfl, rfl, rfl, rfl, rfl, rfl, rfl⟩
theorem ro_len {w : World} {v : Value} {xs : List Int} (h : Ro w v xs) : Wd.In64 (xs.length : Int) := by
  obtain ⟨a, c, -, h1, h2, -⟩ := h
  unfold Wd.In64; omega
set_option maxRecDepth 100000 in
theorem open_world64 {H : Type} {enc : TypeId × Value → H} {W : World} {base : Nat} {held : Bool} {fuel : Nat} {cs : List Value} {y : DataW H × List MemPlace} (h : DataW.trod enc Tryz.prog W base (fun _ => true) held fuel 29 cs = some y) :
    ∃ X : WV, Wl W (.agg cs.toArray) X ∧ (∀ n ∈ Wd.nums X, Wd.In64 n) ∧ (Rows.uptoBulk y.1 ≤ 1048576 → WSmall X) := by
  obtain ⟨f0, f1, f2, f3, f4, f5, he, o0, t0, o1, t1, o2, t2, o3, t3, o4, t4, o5, t5⟩ := world_flds
  obtain ⟨xs, m, -, rfl, hlen, hxl, hf⟩ := DataW.trod_struct he h
  have csi : Tryz.prog.cellsOf 3 = 1 := by kernel_rfl
  have csf : Tryz.prog.cellsOf 25 = 4 := by kernel_rfl
  have csl : Tryz.prog.cellsOf 23 = 1 := by kernel_rfl
  have csu : Tryz.prog.cellsOf 26 = 1 := by kernel_rfl
  have csj : Tryz.prog.cellsOf 27 = 1 := by kernel_rfl
  have csk : Tryz.prog.cellsOf 29 = 9 := by kernel_rfl
  rw [csk] at hlen
  match cs, hlen with
  | [v0, v1, v2, v3, v4, v5, v6, v7, v8], _ =>
    have hx : xs.length = 6 := hxl
    match xs, hx with
    | [x0, x1, x2, x3, x4, x5], _ =>
      have g0 := hf 0 f0 rfl
      rw [o0, t0, csi] at g0
      have g1 := hf 1 f1 rfl
      rw [o1, t1, csi] at g1
      have g2 := hf 2 f2 rfl
      rw [o2, t2, csf] at g2
      have g3 := hf 3 f3 rfl
      rw [o3, t3, csl] at g3
      have g4 := hf 4 f4 rfl
      rw [o4, t4, csu] at g4
      have g5 := hf 5 f5 rfl
      rw [o5, t5, csj] at g5
      obtain ⟨m0, e0, -, w0⟩ := DataW.trod_int Tryz.underlying3 g0
      obtain ⟨m1, e1, -, w1⟩ := DataW.trod_int Tryz.underlying3 g1
      obtain ⟨r0, r1, r2, r3, he', p0, s0, p1, s1, p2, s2, p3, s3⟩ := field_flds
      obtain ⟨ys, m', -, rfl, hlen', hyl, hg⟩ := DataW.trod_struct he' g2
      have hy : ys.length = 4 := hyl
      match ys, hy with
      | [y0, y1, y2, y3], _ =>
        have k0 := hg 0 r0 rfl
        rw [p0, s0, csi] at k0
        have k1 := hg 1 r1 rfl
        rw [p1, s1, csi] at k1
        have k2 := hg 2 r2 rfl
        rw [p2, s2, csl] at k2
        have k3 := hg 3 r3 rfl
        rw [p3, s3, csl] at k3
        obtain ⟨m2, e2, -, w2⟩ := DataW.trod_int Tryz.underlying3 k0
        obtain ⟨m3, e3, -, w3⟩ := DataW.trod_int Tryz.underlying3 k1
        simp at e0 e1 e2 e3
        subst e0 e1 e2 e3
        obtain ⟨gs, hgs, igs, bgs⟩ := open_row64 k2
        obtain ⟨os, hos, ios, bos⟩ := open_row64 k3
        obtain ⟨gold, hgold, igold, bgold⟩ := open_row64 g3
        obtain ⟨us, hus, ius, bus⟩ := open_uns64 g4
        obtain ⟨qs, hqs, iqs, bqs⟩ := open_jbs64 g5
        have lu : Wd.In64 (us.length : Int) := by
          obtain ⟨a, c, -, h1, h2, -⟩ := hus
          unfold Wd.In64; omega
        have lq : Wd.In64 (qs.length : Int) := by
          obtain ⟨a, c, -, h1, h2, -⟩ := hqs
          unfold Wd.In64; omega
        refine ⟨⟨m0, m1, m2, m3, gs, os, gold, us, qs⟩, ⟨_, _, _, _, _, rfl, hgs, hos, hgold, hus, hqs⟩, ?_, ?_⟩
        · intro n hn
          simp only [Wd.nums, List.mem_append, List.mem_cons, List.not_mem_nil, or_false, List.mem_flatMap] at hn
          rcases hn with (((((rfl | rfl | rfl | rfl) | (rfl | hn)) | (rfl | hn)) | (rfl | hn)) | (rfl | ⟨u, hu, hn⟩)) | (rfl | ⟨u, hu, hn⟩)
          · exact in64_of_wf w0
          · exact in64_of_wf w1
          · exact in64_of_wf w2
          · exact in64_of_wf w3
          · exact ro_len hgs
          · exact igs _ hn
          · exact ro_len hos
          · exact ios _ hn
          · exact ro_len hgold
          · exact igold _ hn
          · exact lu
          · exact ius u hu n hn
          · exact lq
          · exact iqs u hu n hn
        · intro hb
          simp only [Rows.uptoBulk, Rows.uptoBulkAll, List.map_cons, List.map_nil] at hb
          exact ⟨by simp only; omega, by simp only; omega, by simp only; omega, by simp only; omega, by simp only; omega⟩
set_option maxRecDepth 100000 in
theorem world_in {H : Type} {enc : TypeId × Value → H} {W : World} {base b0 : Nat} {held : Bool} {v : Value} {d : DataW H} {p : List MemPlace} (hv : Value.okWide Tryz.prog W .any b0 29 v) (h : DataW.Trod enc Tryz.prog W base (fun _ => true) held 29 v d p) :
    ∃ X : WV, Wl W v X ∧ (∀ n ∈ Wd.nums X, Wd.In64 n) ∧ (Rows.uptoBulk d ≤ 1048576 → WSmall X) := by
  obtain ⟨cs, rfl, hsz⟩ := okWide_struct Tryz.underlying29 hv
  obtain ⟨fuel, hf⟩ := h
  have := open_world64 hf
  simpa [Value.cells] using this
end Go.Proofs.YtkejdkajfnaieaaGreatDoor

namespace Go.Proofs.YtkejdkajfnaieaaGreatDoor
open Go.ChangeShapes Go.WideShapes Go.ChangeAt Go.RowKit
set_option linter.unusedVariables false

theorem kind_fields : ∃ f0 f1 f2 f3 f4 f5 f6 f7 f8 f9 f10 : Field, Tryz.prog.underlying 101 = some (.struct #[f0, f1, f2, f3, f4, f5, f6, f7, f8, f9, f10]) ∧
    f0.offset = 0 ∧ f0.type = 9 ∧ f1.offset = 1 ∧ f1.type = 3 ∧ f2.offset = 2 ∧ f2.type = 3 ∧ f3.offset = 3 ∧ f3.type = 3 ∧ f4.offset = 4 ∧ f4.type = 3 ∧ f5.offset = 5 ∧ f5.type = 3 ∧ f6.offset = 6 ∧ f6.type = 3 ∧ f7.offset = 7 ∧ f7.type = 3 ∧ f8.offset = 8 ∧ f8.type = 3 ∧ f9.offset = 9 ∧ f9.type = 4 ∧ f10.offset = 10 ∧ f10.type = 4 := ⟨_, _, _, _, _, _, _, _, _, _, _, Tryz.underlying101, rfl, rfl, rfl, rfl, rfl, rfl, rfl, rfl, rfl, rfl, rfl, rfl, rfl, rfl, rfl, rfl, rfl, rfl, rfl, rfl, rfl, rfl⟩


set_option maxRecDepth 100000 in
theorem open_kind {H : Type} {enc : TypeId × Value → H} {W : World} {base : Nat} {held : Bool} {fuel : Nat} {cs : List Value} {y : DataW H × List MemPlace} (h : DataW.trod enc Tryz.prog W base (fun _ => true) held fuel 101 cs = some y) :
    ∃ k : KV, cs = [.string k.b, .int .i64 k.n0, .int .i64 k.n1, .int .i64 k.n2, .int .i64 k.n3, .int .i64 k.n4, .int .i64 k.n5, .int .i64 k.n6, .int .i64 k.n7, .bool k.f, .bool k.t] ∧ k.b.size ≤ maxLen := by
  obtain ⟨f0, f1, f2, f3, f4, f5, f6, f7, f8, f9, f10, he, o0, t0, o1, t1, o2, t2, o3, t3, o4, t4, o5, t5, o6, t6, o7, t7, o8, t8, o9, t9, o10, t10⟩ := kind_fields
  obtain ⟨xs, n, -, -, hlen, hxl, hf⟩ := DataW.trod_struct he h
  have cs9 : Tryz.prog.cellsOf 9 = 1 := by kernel_rfl
  have cs3 : Tryz.prog.cellsOf 3 = 1 := by kernel_rfl
  have cs4 : Tryz.prog.cellsOf 4 = 1 := by kernel_rfl
  have csk : Tryz.prog.cellsOf 101 = 11 := by kernel_rfl
  rw [csk] at hlen
  match cs, hlen with
  | [v0, v1, v2, v3, v4, v5, v6, v7, v8, v9, v10], _ =>
    have hx11 : xs.length = 11 := hxl
    match xs, hx11 with
    | [x0, x1, x2, x3, x4, x5, x6, x7, x8, x9, x10], _ =>
      have g0 := hf 0 f0 rfl
      rw [o0, t0, cs9] at g0
      have g1 := hf 1 f1 rfl
      rw [o1, t1, cs3] at g1
      have g2 := hf 2 f2 rfl
      rw [o2, t2, cs3] at g2
      have g3 := hf 3 f3 rfl
      rw [o3, t3, cs3] at g3
      have g4 := hf 4 f4 rfl
      rw [o4, t4, cs3] at g4
      have g5 := hf 5 f5 rfl
      rw [o5, t5, cs3] at g5
      have g6 := hf 6 f6 rfl
      rw [o6, t6, cs3] at g6
      have g7 := hf 7 f7 rfl
      rw [o7, t7, cs3] at g7
      have g8 := hf 8 f8 rfl
      rw [o8, t8, cs3] at g8
      have g9 := hf 9 f9 rfl
      rw [o9, t9, cs4] at g9
      have g10 := hf 10 f10 rfl
      rw [o10, t10, cs4] at g10
      obtain ⟨b, e0, -, hb⟩ := DataW.trod_string Tryz.underlying9 g0
      obtain ⟨m1, e1, -, -⟩ := DataW.trod_int Tryz.underlying3 g1
      obtain ⟨m2, e2, -, -⟩ := DataW.trod_int Tryz.underlying3 g2
      obtain ⟨m3, e3, -, -⟩ := DataW.trod_int Tryz.underlying3 g3
      obtain ⟨m4, e4, -, -⟩ := DataW.trod_int Tryz.underlying3 g4
      obtain ⟨m5, e5, -, -⟩ := DataW.trod_int Tryz.underlying3 g5
      obtain ⟨m6, e6, -, -⟩ := DataW.trod_int Tryz.underlying3 g6
      obtain ⟨m7, e7, -, -⟩ := DataW.trod_int Tryz.underlying3 g7
      obtain ⟨m8, e8, -, -⟩ := DataW.trod_int Tryz.underlying3 g8
      obtain ⟨bf, e9, -⟩ := DataW.trod_bool Tryz.underlying4 g9
      obtain ⟨bt, e10, -⟩ := DataW.trod_bool Tryz.underlying4 g10
      simp at e0 e1 e2 e3 e4 e5 e6 e7 e8 e9 e10
      subst e0 e1 e2 e3 e4 e5 e6 e7 e8 e9 e10
      exact ⟨⟨b, m1, m2, m3, m4, m5, m6, m7, m8, bf, bt⟩, rfl, hb⟩

/-- kinds that came in. -/
theorem open_kinds {H : Type} {enc : TypeId × Value → H} {W : World} {base : Nat} {held : Bool} {fuel : Nat} {v : Value} {y : DataW H × List MemPlace} (h : DataW.trod enc Tryz.prog W base (fun _ => true) held fuel 22 [v] = some y) :
    ∃ ks : List KV, Kl W v ks ∧ ∀ k ∈ ks, k.b.size ≤ maxLen := by
  have csk : Tryz.prog.cellsOf 101 = 11 := by kernel_rfl
  rcases Go.Deep.open_slice Tryz.underlying22 h with ⟨hcs, -⟩ | ⟨a, len, cap, m, n, D, Pl, hcs, hb, hl, hm, hmm, -, hx⟩
  · simp at hcs
    subst hcs
    exact ⟨[], ⟨none, 0, rfl, Nat.le_refl _, by omega, fun h => absurd rfl h⟩, by simp⟩
  · simp at hcs
    subst hcs
    have hlm : len ≤ m := by rw [hmm]; simp; exact hl
    have each : ∀ i, i < len → ∃ k : KV, Kc W (a.add (i * 11)) k ∧ k.b.size ≤ maxLen := by
      intro i hi
      obtain ⟨cs', h1, h2⟩ := hx i (by omega)
      obtain ⟨k, rfl, hk⟩ := open_kind h2
      rw [csk] at h1
      obtain ⟨-, -, hcell⟩ := World.cells?_some h1
      refine ⟨k, ?_, hk⟩
      generalize a.add (i * 11) = y at *
      exact ⟨hcell 0 (by decide), hcell 1 (by decide), hcell 2 (by decide), hcell 3 (by decide), hcell 4 (by decide), hcell 5 (by decide), hcell 6 (by decide), hcell 7 (by decide), hcell 8 (by decide), hcell 9 (by decide), hcell 10 (by decide)⟩
    have inh : Inhabited KV := ⟨⟨ByteArray.empty, 0, 0, 0, 0, 0, 0, 0, 0, false, false⟩⟩
    obtain ⟨q, hq⟩ := Go.Deep.choose_lt each
    refine ⟨(List.range len).map q, ⟨some a, cap, by simp, by simpa using hl, by unfold maxLen at hm; omega, fun hn => ⟨a, rfl, ?_, fun i k hk => ?_⟩⟩, ?_⟩
    · have h0 : 0 < len := by
        rcases Nat.eq_zero_or_pos len with h | h
        · subst h; simp at hn
        · exact h
      have := (hq 0 h0).1.lt
      rwa [add_block] at this
    · have hi : i < len := by
        have := (List.getElem?_eq_some_iff.1 hk).1
        simpa using this
      rw [List.getElem?_map, List.getElem?_range hi] at hk
      injection hk with hk
      subst hk
      exact (hq i hi).1
    · intro k hk
      obtain ⟨i, hi, rfl⟩ := List.mem_map.1 hk
      exact (hq i (List.mem_range.1 hi)).2
set_option maxRecDepth 100000 in
theorem kinds_in {H : Type} {enc : TypeId × Value → H} {W : World} {base b0 : Nat} {held : Bool} {v : Value} {d : DataW H} {p : List MemPlace} (hv : Value.okWide Tryz.prog W .any b0 22 v) (h : DataW.Trod enc Tryz.prog W base (fun _ => true) held 22 v d p) :
    ∃ ks : List KV, Kl W v ks ∧ ∀ k ∈ ks, k.b.size ≤ maxLen := by
  obtain ⟨a, len, cap, rfl⟩ := okWide_slice Tryz.underlying22 hv
  obtain ⟨fuel, hf⟩ := h
  exact open_kinds hf
end Go.Proofs.YtkejdkajfnaieaaGreatDoor

namespace Go.Proofs.YtkejdkajfnaieaaGreatDoor
open Go.ChangeShapes Go.WideShapes Go.ChangeAt Go.RowKit
set_option linter.unusedVariables false

theorem or_fields : ∃ f0 f1 f2 f3 : Field, Tryz.prog.underlying 40 = some (.struct #[f0, f1, f2, f3]) ∧
    f0.offset = 0 ∧ f0.type = 3 ∧ f1.offset = 1 ∧ f1.type = 3 ∧ f2.offset = 2 ∧ f2.type = 3 ∧ f3.offset = 3 ∧ f3.type = 3 := ⟨_, _, _, _, Tryz.underlying40, rfl, rfl, rfl, rfl, rfl, rfl, rfl, rfl⟩

set_option maxRecDepth 100000 in
theorem open_or {H : Type} {enc : TypeId × Value → H} {W : World} {base : Nat} {held : Bool} {fuel : Nat} {cs : List Value} {y : DataW H × List MemPlace} (h : DataW.trod enc Tryz.prog W base (fun _ => true) held fuel 40 cs = some y) :
    ∃ k : OrV, cs = [.int .i64 k.player, .int .i64 k.unit, .int .i64 k.what, .int .i64 k.arg] ∧ True := by
  obtain ⟨f0, f1, f2, f3, he, o0, t0, o1, t1, o2, t2, o3, t3⟩ := or_fields
  obtain ⟨xs, m, -, -, hlen, hxl, hf⟩ := DataW.trod_struct he h
  have csi : Tryz.prog.cellsOf 3 = 1 := by kernel_rfl
  have csk : Tryz.prog.cellsOf 40 = 4 := by kernel_rfl
  rw [csk] at hlen
  match cs, hlen with
  | [v0, v1, v2, v3], _ =>
    have hx : xs.length = 4 := hxl
    match xs, hx with
    | [x0, x1, x2, x3], _ =>
      have g0 := hf 0 f0 rfl
      rw [o0, t0, csi] at g0
      have g1 := hf 1 f1 rfl
      rw [o1, t1, csi] at g1
      have g2 := hf 2 f2 rfl
      rw [o2, t2, csi] at g2
      have g3 := hf 3 f3 rfl
      rw [o3, t3, csi] at g3
      obtain ⟨m0, e0, -, -⟩ := DataW.trod_int Tryz.underlying3 g0
      obtain ⟨m1, e1, -, -⟩ := DataW.trod_int Tryz.underlying3 g1
      obtain ⟨m2, e2, -, -⟩ := DataW.trod_int Tryz.underlying3 g2
      obtain ⟨m3, e3, -, -⟩ := DataW.trod_int Tryz.underlying3 g3
      simp at e0 e1 e2 e3
      subst e0 e1 e2 e3
      exact ⟨⟨m0, m1, m2, m3⟩, rfl, trivial⟩

theorem open_ors {H : Type} {enc : TypeId × Value → H} {W : World} {base : Nat} {held : Bool} {fuel : Nat} {v : Value} {y : DataW H × List MemPlace} (h : DataW.trod enc Tryz.prog W base (fun _ => true) held fuel 30 [v] = some y) :
    ∃ ks : List OrV, Orl W v ks ∧ ∀ k ∈ ks, True := by
  have csk : Tryz.prog.cellsOf 40 = 4 := by kernel_rfl
  rcases Go.Deep.open_slice Tryz.underlying30 h with ⟨hcs, -⟩ | ⟨a, len, cap, m, q, D, Pl, hcs, hb, hl, hm, hmm, -, hx⟩
  · simp at hcs
    subst hcs
    exact ⟨[], ⟨none, 0, rfl, Nat.le_refl _, by omega, fun h => absurd rfl h⟩, by simp⟩
  · simp at hcs
    subst hcs
    have hlm : len ≤ m := by rw [hmm]; simp; exact hl
    have each : ∀ i, i < len → ∃ k : OrV, Orc W (a.add (i * 4)) k ∧ (True) := by
      intro i hi
      obtain ⟨cs', h1, h2⟩ := hx i (by omega)
      obtain ⟨k, rfl, hk⟩ := open_or h2
      rw [csk] at h1
      obtain ⟨-, -, hcell⟩ := World.cells?_some h1
      refine ⟨k, ?_, hk⟩
      generalize a.add (i * 4) = y at *
      exact ⟨hcell 0 (by decide), hcell 1 (by decide), hcell 2 (by decide), hcell 3 (by decide)⟩
    have inh : Inhabited OrV := ⟨⟨0, 0, 0, 0⟩⟩
    obtain ⟨q, hq⟩ := Go.Deep.choose_lt each
    refine ⟨(List.range len).map q, ⟨some a, cap, by simp, by simpa using hl, by unfold maxLen at hm; omega, fun hn => ⟨a, rfl, ?_, fun i k hk => ?_⟩⟩, ?_⟩
    · have h0 : 0 < len := by
        rcases Nat.eq_zero_or_pos len with h | h
        · subst h; simp at hn
        · exact h
      have := (hq 0 h0).1.lt
      rwa [add_block] at this
    · have hi : i < len := by
        have := (List.getElem?_eq_some_iff.1 hk).1
        simpa using this
      rw [List.getElem?_map, List.getElem?_range hi] at hk
      injection hk with hk
      subst hk
      exact (hq i hi).1
    · intro k hk
      obtain ⟨i, hi, rfl⟩ := List.mem_map.1 hk
      exact (hq i (List.mem_range.1 hi)).2
set_option maxRecDepth 100000 in
theorem ors_in {H : Type} {enc : TypeId × Value → H} {W : World} {base b0 : Nat} {held : Bool} {v : Value} {d : DataW H} {p : List MemPlace} (hv : Value.okWide Tryz.prog W .any b0 30 v) (h : DataW.Trod enc Tryz.prog W base (fun _ => true) held 30 v d p) :
    ∃ ks : List OrV, Orl W v ks ∧ ∀ k ∈ ks, True := by
  obtain ⟨a, len, cap, rfl⟩ := okWide_slice Tryz.underlying30 hv
  obtain ⟨fuel, hf⟩ := h
  exact open_ors hf
end Go.Proofs.YtkejdkajfnaieaaGreatDoor

namespace Go.Proofs.YtkejdkajfnaieaaGreatDoor
open Go Go.RowKit
set_option linter.unusedVariables false

inductive TrT where
  | leaf : TrT
  | read : Nat → TrT → TrT
  | one : Nat → TrT → TrT
  | two : Nat → TrT → Nat → TrT → TrT
  | three : Nat → TrT → Nat → TrT → Nat → TrT → TrT
section
variable {P : Program} {ops : Array Oper} {md : Region.Mode} {C : World → Prop} {Q : Exit → Act → World → Prop}
def wpTr (P : Program) (ops : Array Oper) (C : World → Prop) (K : Act → World → Prop) : TrT → Act → World → Prop
  | .leaf, a, W => K a W
  | .read i t, a, W => ∃ o v, ops[i]? = some o ∧ YieldsS P ops C o v a ∧ wpTr P ops C K t (a.put o.dst v) W
  | .one i t, a, W => ∃ o, ops[i]? = some o ∧ StepS P ops C o (wpTr P ops C K t) a W
  | .two i t j u, a, W => (∃ o, ops[i]? = some o ∧ StepS P ops C o (wpTr P ops C K t) a W) ∧ (∃ o, ops[j]? = some o ∧ StepS P ops C o (wpTr P ops C K u) a W)
  | .three i t j u k v, a, W => (∃ o, ops[i]? = some o ∧ StepS P ops C o (wpTr P ops C K t) a W) ∧ (∃ o, ops[j]? = some o ∧ StepS P ops C o (wpTr P ops C K u) a W) ∧ (∃ o, ops[k]? = some o ∧ StepS P ops C o (wpTr P ops C K v) a W)
def trB (md : Region.Mode) (ops : Array Oper) (H0 : Array Bool) : Nat → TrT → Array Bool → Bool
  | 0, .leaf, listed => decide (listed = H0)
  | n + 1, .read i t, listed => (Region.ready md ops listed).contains i && (Region.free md ops listed i && ((waits md ops H0 i || decide (Region.ready md ops (H0.setIfInBounds i false) = [i])) && trB md ops H0 n t (listed.setIfInBounds i true)))
  | n + 1, .one i t, listed => (Region.ready md ops listed).contains i && ((Region.ready md ops listed).all (fun x => decide (x = i)) && trB md ops H0 n t (listed.setIfInBounds i true))
  | n + 1, .two i t j u, listed => (Region.ready md ops listed).contains i && ((Region.ready md ops listed).contains j && ((Region.ready md ops listed).all (fun x => decide (x = i) || decide (x = j)) && (trB md ops H0 n t (listed.setIfInBounds i true) && trB md ops H0 n u (listed.setIfInBounds j true))))
  | n + 1, .three i t j u k v, listed => (Region.ready md ops listed).contains i && ((Region.ready md ops listed).contains j && ((Region.ready md ops listed).contains k && ((Region.ready md ops listed).all (fun x => decide (x = i) || (decide (x = j) || decide (x = k))) && (trB md ops H0 n t (listed.setIfInBounds i true) && (trB md ops H0 n u (listed.setIfInBounds j true) && trB md ops H0 n v (listed.setIfInBounds k true))))))
  | _, _, _ => false
theorem wpAnyT_of_tr {K : Act → World → Prop} {H0 : Array Bool} (hsel : Region.noSelect ops = true) : ∀ (n : Nat) (t : TrT) (listed : Array Bool) (a : Act) (W : World), Clos md ops listed → trB md ops H0 n t listed = true → C W → wpTr P ops C K t a W → wpAnyT P md ops C (fun l a W => l = H0 ∧ K a W) n listed a W
  | 0, .leaf, listed, a, W, inv, hB, hC, h => by
    simp only [trB, decide_eq_true_eq] at hB
    exact ⟨hB, h⟩
  | n + 1, .read i t, listed, a, W, inv, hB, hC, h => by
    simp only [trB, Bool.and_eq_true, Bool.or_eq_true, decide_eq_true_eq] at hB
    obtain ⟨hr, hf, hH, hB⟩ := hB
    obtain ⟨o, v, ho, hy, hk⟩ := h
    have hr' : i ∈ Region.ready md ops listed := by simpa using hr
    exact wpAnyT_first ho (Region.noSelect_spec hsel) hH (fun _ _ _ h => h.1) n listed a W inv (Region.free_spec ho hf) hr' hy hC (wpAnyT_of_tr hsel n t _ _ _ (inv.set hr') hB hC hk)
  | n + 1, .one i t, listed, a, W, inv, hB, hC, h => by
    simp only [trB, Bool.and_eq_true] at hB
    obtain ⟨hr, hall, hB⟩ := hB
    have hr' : i ∈ Region.ready md ops listed := by simpa using hr
    obtain ⟨o, ho, hs⟩ := h
    refine ⟨fun h => (by rw [h] at hr'; cases hr'), fun x hx => ?_⟩
    have hx' := List.all_eq_true.1 hall x hx
    simp only [decide_eq_true_eq] at hx'
    subst hx'
    exact ⟨o, ho, hs.mono fun a' W' hC' hk => wpAnyT_of_tr hsel n t _ _ _ (inv.set hr') hB hC' hk⟩
  | n + 1, .two i t j u, listed, a, W, inv, hB, hC, h => by
    simp only [trB, Bool.and_eq_true] at hB
    obtain ⟨hi, hj, hall, hB1, hB2⟩ := hB
    have hi' : i ∈ Region.ready md ops listed := by simpa using hi
    have hj' : j ∈ Region.ready md ops listed := by simpa using hj
    obtain ⟨⟨o, ho, hs⟩, ⟨o2, ho2, hs2⟩⟩ := h
    refine ⟨fun h => (by rw [h] at hi'; cases hi'), fun x hx => ?_⟩
    have hx' := List.all_eq_true.1 hall x hx
    simp only [Bool.or_eq_true, decide_eq_true_eq] at hx'
    rcases hx' with e | e
    · subst e; exact ⟨o, ho, hs.mono fun a' W' hC' hk => wpAnyT_of_tr hsel n t _ _ _ (inv.set hi') hB1 hC' hk⟩
    · subst e; exact ⟨o2, ho2, hs2.mono fun a' W' hC' hk => wpAnyT_of_tr hsel n u _ _ _ (inv.set hj') hB2 hC' hk⟩
  | n + 1, .three i t j u k v, listed, a, W, inv, hB, hC, h => by
    simp only [trB, Bool.and_eq_true] at hB
    obtain ⟨hi, hj, hk, hall, hB1, hB2, hB3⟩ := hB
    have hi' : i ∈ Region.ready md ops listed := by simpa using hi
    have hj' : j ∈ Region.ready md ops listed := by simpa using hj
    have hk' : k ∈ Region.ready md ops listed := by simpa using hk
    obtain ⟨⟨o, ho, hs⟩, ⟨o2, ho2, hs2⟩, ⟨o3, ho3, hs3⟩⟩ := h
    refine ⟨fun h => (by rw [h] at hi'; cases hi'), fun x hx => ?_⟩
    have hx' := List.all_eq_true.1 hall x hx
    simp only [Bool.or_eq_true, decide_eq_true_eq] at hx'
    rcases hx' with e | e | e
    · subst e; exact ⟨o, ho, hs.mono fun a' W' hC' hk => wpAnyT_of_tr hsel n t _ _ _ (inv.set hi') hB1 hC' hk⟩
    · subst e; exact ⟨o2, ho2, hs2.mono fun a' W' hC' hk => wpAnyT_of_tr hsel n u _ _ _ (inv.set hj') hB2 hC' hk⟩
    · subst e; exact ⟨o3, ho3, hs3.mono fun a' W' hC' hk => wpAnyT_of_tr hsel n v _ _ _ (inv.set hk') hB3 hC' hk⟩
  | 0, .read _ _, _, _, _, _, hB, _, _ => by simp [trB] at hB
  | 0, .one _ _, _, _, _, _, hB, _, _ => by simp [trB] at hB
  | 0, .two _ _ _ _, _, _, _, _, hB, _, _ => by simp [trB] at hB
  | 0, .three _ _ _ _ _ _, _, _, _, _, hB, _, _ => by simp [trB] at hB
  | _ + 1, .leaf, _, _, _, _, hB, _, _ => by simp [trB] at hB
/-- the region: along the tree, in the worlds C; then its tail. s: what the tree holds, in any order. -/
theorem wp_region_tree {id : Nat} {a : Act} {w : World} (T : TrT) (s t : List (Bool × Nat)) (C : World → Prop) (hm : P.follows .mixedOrders = true) (hs : Region.noSelect ops = true) (hl : s.length + t.length = ops.size)
    (hB : trB .any ops (listedBy ops.size s) s.length T (Array.replicate ops.size false) = true)
    (hT : schedB .any ops t (listedBy ops.size s) = true)
    (hC : C { w with drawn := w.drawn + 1 }) (h : wpTr P ops C (wpSched P ops (fun _ => True) Q t) T a { w with drawn := w.drawn + 1 }) : (Code.region id ops true).wp P Q a w := by
  refine wp_region_any hm ?_
  rw [← hl]
  refine wpAny_of_T (g := t.length) (fun listed a W hh => ?_) _ _ _ _ (wpAnyT_of_tr (H0 := listedBy ops.size s) hs s.length T _ a _ (fun j oj _ hj => by rw [getD_replicate_false] at hj; cases hj) (by rw [hl]; exact hB) hC h)
  obtain ⟨rfl, hk⟩ := hh
  exact wpAny_of_S _ _ _ _ (wpAnyS_of_sched hs t _ a W hT trivial hk)
theorem tr_read {K : Act → World → Prop} {i : Nat} {t : TrT} {o : Oper} {a : Act} {W : World} (ho : ops[i]? = some o) (v : Value) (hw : Region.wanted o (yielded ops a.tmps) = true) (hr : ∀ W, C W → (execOp a.eval o).run P W = .ok (.value v) W) (h : wpTr P ops C K t (a.put o.dst v) W) : wpTr P ops C K (.read i t) a W :=
  ⟨o, v, ho, ⟨hw, hr⟩, h⟩
theorem tr_one {K : Act → World → Prop} {i : Nat} {t : TrT} {a : Act} {W : World} (h : ∃ o, ops[i]? = some o ∧ StepS P ops C o (wpTr P ops C K t) a W) : wpTr P ops C K (.one i t) a W := h
theorem tr_two {K : Act → World → Prop} {i j : Nat} {t u : TrT} {a : Act} {W : World} (h : ∃ o, ops[i]? = some o ∧ StepS P ops C o (wpTr P ops C K t) a W) (h2 : ∃ o, ops[j]? = some o ∧ StepS P ops C o (wpTr P ops C K u) a W) : wpTr P ops C K (.two i t j u) a W := ⟨h, h2⟩
theorem tr_three {K : Act → World → Prop} {i j k : Nat} {t u v : TrT} {a : Act} {W : World} (h : ∃ o, ops[i]? = some o ∧ StepS P ops C o (wpTr P ops C K t) a W) (h2 : ∃ o, ops[j]? = some o ∧ StepS P ops C o (wpTr P ops C K u) a W) (h3 : ∃ o, ops[k]? = some o ∧ StepS P ops C o (wpTr P ops C K v) a W) : wpTr P ops C K (.three i t j u k v) a W := ⟨h, h2, h3⟩
theorem st_call {K : Act → World → Prop} {i : Nat} {o : Oper} {a : Act} {W : World} (ho : ops[i]? = some o) (f : FuncId) (args : Array Value) (hw : Region.wanted o (yielded ops a.tmps) = true) (hr : (execOp a.eval o).run P W = .ok (.enter f args) W)
    (hc : Calls P f args W (fun e w' => ∃ v, e = .returned v ∧ C w' ∧ K (a.put o.dst v) w')) : ∃ o, ops[i]? = some o ∧ StepS P ops C o K a W :=
  ⟨o, ho, hw, .inr (.inr ⟨f, args, hr, hc⟩)⟩
theorem st_value {K : Act → World → Prop} {i : Nat} {o : Oper} {a : Act} {W : World} (ho : ops[i]? = some o) (v : Value) (W' : World) (hw : Region.wanted o (yielded ops a.tmps) = true) (hr : (execOp a.eval o).run P W = .ok (.value v) W') (hC : C W') (h : K (a.put o.dst v) W') : ∃ o, ops[i]? = some o ∧ StepS P ops C o K a W :=
  ⟨o, ho, hw, .inl ⟨v, W', hr, hC, h⟩⟩
theorem st_skip {K : Act → World → Prop} {i : Nat} {o : Oper} {a : Act} {W : World} (ho : ops[i]? = some o) (W' : World) (hw : Region.wanted o (yielded ops a.tmps) = true) (hr : (execOp a.eval o).run P W = .ok .skip W') (hC : C W') (h : K (a.put o.dst undef) W') : ∃ o, ops[i]? = some o ∧ StepS P ops C o K a W :=
  ⟨o, ho, hw, .inr (.inl ⟨W', hr, hC, h⟩)⟩
end
end Go.Proofs.YtkejdkajfnaieaaGreatDoor

