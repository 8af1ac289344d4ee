/- What a walk is told of worlds and bytes that came in. · What a walk is told of kinds that came in. · FightNear: the walk. -/
import Derived.Test.YtplnhgllbhdfjaaZFightNear2
import Derived.Test.YtplnhgllbhdfjaaZFightNear1
import Derived.Deep.SlicePairs
import Derived.ChangeArms
import Derived.ProofKit
import Derived.OpenShut
import Derived.Test.YtplnhgllbhdfjaaZFightNear3
import Derived.Test.YtplnhgllbhdfjaaZFightNear6
import Derived.Test.YtplnhgllbhdfjaaZFightNear8
namespace Go.Proofs.Ytplnhgllbhdfjaa
open Go.ChangeShapes Go.WideShapes Go.ChangeAt Go.RowKit
set_option linter.unusedVariables false

theorem in64_of_wf {n : Int} (h : (Lit.int .i64 n).wf = true) : Wd.In64 n := by
  unfold Wd.In64
  simp only [Lit.wf, Bool.and_eq_true, decide_eq_true_eq] at h
  have h1 : IntKind.i64.min = -9223372036854775808 := by decide
  have h2 : IntKind.i64.max = 9223372036854775807 := by decide
  omega
theorem byte_of_wf {n : Int} (h : (Lit.int .u8 n).wf = true) : 0 ≤ n ∧ n < 256 := by
  simp only [Lit.wf, Bool.and_eq_true, decide_eq_true_eq] at h
  have h1 : IntKind.u8.min = 0 := by decide
  have h2 : IntKind.u8.max = 255 := by decide
  omega
theorem bulk_pos {H : Type} : ∀ d : DataW H, 1 ≤ Rows.uptoBulk d
  | .lit (.string bytes) => by simp [Rows.uptoBulk]
  | .lit (.int _ _) => by simp [Rows.uptoBulk]
  | .lit (.bool _) => by simp [Rows.uptoBulk]
  | .lit (.float .f32 _) => by simp [Rows.uptoBulk]
  | .lit (.float .f64 _) => by simp [Rows.uptoBulk]
  | .lit .nil => by simp [Rows.uptoBulk]
  | .nil => by simp [Rows.uptoBulk]
  | .ptr d => by simp [Rows.uptoBulk]
  | .slice _ _ => by simp [Rows.uptoBulk]
  | .agg _ => by simp [Rows.uptoBulk]
  | .iface _ _ => by simp [Rows.uptoBulk]
  | .map _ => by simp [Rows.uptoBulk]
  | .held _ => by simp [Rows.uptoBulk]
theorem bulk_len {H : Type} : ∀ ds : List (DataW H), ds.length ≤ Rows.uptoBulkAll ds
  | [] => by simp
  | d :: ds => by
    have h1 := bulk_pos d
    have h2 := bulk_len ds
    simp only [Rows.uptoBulkAll, List.length_cons]
    omega
theorem bulk_slice {H : Type} (es sp : List (DataW H)) : es.length ≤ Rows.uptoBulk (.slice es sp) := by
  have := bulk_len es
  simp only [Rows.uptoBulk]
  omega

set_option maxRecDepth 100000 in
theorem open_row64 {H : Type} {enc : TypeId × Value → H} {W : World} {base : Nat} {held : Bool} {fuel : Nat} {v : Value} {y : DataW H × List MemPlace} (h : DataW.trod enc Try.prog W base (fun _ => true) held fuel 23 [v] = some y) :
    ∃ zs, Ro W v zs ∧ (∀ n ∈ zs, Wd.In64 n) ∧ zs.length ≤ Rows.uptoBulk y.1 := by
  rcases open_ints Try.underlying23 Try.underlying3 (by kernel_rfl) h with ⟨hcs, rfl⟩ | ⟨x, l, c, zs, hcs, _, hl, hm, hz, rfl, hcell, hwz⟩
  · simp at hcs
    subst hcs
    exact ⟨_, IsRow.ro (.inl ⟨rfl, rfl, rfl, rfl⟩), by simp, by simp⟩
  · simp at hcs
    subst hcs
    refine ⟨_, IsRow.ro (zs := zs) (.inr ⟨_, rfl, hl, hm, by simpa using hz, hcell, hwz⟩), fun n hn => in64_of_wf (hwz n (List.mem_of_mem_take hn)), ?_⟩
    have := bulk_slice (H := H) (lits .i64 (zs.take l)) (lits .i64 (zs.drop l))
    simpa [lits] using this
theorem un_flds : ∃ f0 f1 f2 f3 f4 f5 f6 f7 : Field, Try.prog.underlying 38 = some (.struct #[f0, f1, f2, f3, f4, f5, f6, f7]) ∧ f0.offset = 0 ∧ f0.type = 3 ∧ f1.offset = 1 ∧ f1.type = 3 ∧ f2.offset = 2 ∧ f2.type = 3 ∧ f3.offset = 3 ∧ f3.type = 3 ∧ f4.offset = 4 ∧ f4.type = 3 ∧ f5.offset = 5 ∧ f5.type = 3 ∧ f6.offset = 6 ∧ f6.type = 3 ∧ f7.offset = 7 ∧ f7.type = 3 := ⟨_, _, _, _, _, _, _, _, Try.underlying38, rfl, rfl, rfl, rfl, rfl, rfl, rfl, rfl, rfl, rfl, rfl, rfl, rfl, rfl, rfl, rfl⟩
set_option maxRecDepth 100000 in
theorem open_un64 {H : Type} {enc : TypeId × Value → H} {W : World} {base : Nat} {held : Bool} {fuel : Nat} {cs : List Value} {y : DataW H × List MemPlace} (h : DataW.trod enc Try.prog W base (fun _ => true) held fuel 38 cs = some y) :
    ∃ k : UnV, cs = [.int .i64 k.id, .int .i64 k.player, .int .i64 k.kind, .int .i64 k.at_, .int .i64 k.life, .int .i64 k.load, .int .i64 k.task, .int .i64 k.goal] ∧ ∀ n ∈ Wd.unums k, Wd.In64 n := by
  obtain ⟨f0, f1, f2, f3, f4, f5, f6, f7, he, o0, t0, o1, t1, o2, t2, o3, t3, o4, t4, o5, t5, o6, t6, o7, t7⟩ := un_flds
  obtain ⟨xs, m, -, -, hlen, hxl, hf⟩ := DataW.trod_struct he h
  have csi : Try.prog.cellsOf 3 = 1 := by kernel_rfl
  have csk : Try.prog.cellsOf 38 = 8 := by kernel_rfl
  rw [csk] at hlen
  match cs, hlen with
  | [v0, v1, v2, v3, v4, v5, v6, v7], _ =>
    have hx : xs.length = 8 := hxl
    match xs, hx with
    | [x0, x1, x2, x3, x4, x5, x6, x7], _ =>
      have g0 := hf 0 f0 rfl
      rw [o0, t0, csi] at g0
      have g1 := hf 1 f1 rfl
      rw [o1, t1, csi] at g1
      have g2 := hf 2 f2 rfl
      rw [o2, t2, csi] at g2
      have g3 := hf 3 f3 rfl
      rw [o3, t3, csi] at g3
      have g4 := hf 4 f4 rfl
      rw [o4, t4, csi] at g4
      have g5 := hf 5 f5 rfl
      rw [o5, t5, csi] at g5
      have g6 := hf 6 f6 rfl
      rw [o6, t6, csi] at g6
      have g7 := hf 7 f7 rfl
      rw [o7, t7, csi] at g7
      obtain ⟨m0, e0, -, w0⟩ := DataW.trod_int Try.underlying3 g0
      obtain ⟨m1, e1, -, w1⟩ := DataW.trod_int Try.underlying3 g1
      obtain ⟨m2, e2, -, w2⟩ := DataW.trod_int Try.underlying3 g2
      obtain ⟨m3, e3, -, w3⟩ := DataW.trod_int Try.underlying3 g3
      obtain ⟨m4, e4, -, w4⟩ := DataW.trod_int Try.underlying3 g4
      obtain ⟨m5, e5, -, w5⟩ := DataW.trod_int Try.underlying3 g5
      obtain ⟨m6, e6, -, w6⟩ := DataW.trod_int Try.underlying3 g6
      obtain ⟨m7, e7, -, w7⟩ := DataW.trod_int Try.underlying3 g7
      simp at e0 e1 e2 e3 e4 e5 e6 e7
      subst e0 e1 e2 e3 e4 e5 e6 e7
      refine ⟨⟨m0, m1, m2, m3, m4, m5, m6, m7⟩, rfl, ?_⟩
      intro n hn
      simp only [Wd.unums, List.mem_cons, List.not_mem_nil, or_false] at hn
      rcases hn with rfl | rfl | rfl | rfl | rfl | rfl | rfl | rfl
      · exact in64_of_wf w0
      · exact in64_of_wf w1
      · exact in64_of_wf w2
      · exact in64_of_wf w3
      · exact in64_of_wf w4
      · exact in64_of_wf w5
      · exact in64_of_wf w6
      · exact in64_of_wf w7
theorem open_uns64 {H : Type} {enc : TypeId × Value → H} {W : World} {base : Nat} {held : Bool} {fuel : Nat} {v : Value} {y : DataW H × List MemPlace} (h : DataW.trod enc Try.prog W base (fun _ => true) held fuel 26 [v] = some y) :
    ∃ ks : List UnV, Unl W v ks ∧ (∀ k ∈ ks, ∀ n ∈ Wd.unums k, Wd.In64 n) ∧ ks.length ≤ Rows.uptoBulk y.1 := by
  have csk : Try.prog.cellsOf 38 = 8 := by kernel_rfl
  rcases Go.Deep.open_slice Try.underlying26 h with ⟨hcs, -⟩ | ⟨a, len, cap, m, q, D, Pl, hcs, hb, hl, hm, hmm, rfl, hx⟩
  · simp at hcs
    subst hcs
    exact ⟨[], ⟨none, 0, rfl, Nat.le_refl _, by omega, fun h => absurd rfl h⟩, by simp, by simp⟩
  · simp at hcs
    subst hcs
    have hlm : len ≤ m := by rw [hmm]; simp; exact hl
    have each : ∀ i, i < len → ∃ k : UnV, Unc W (a.add (i * 8)) k ∧ (∀ n ∈ Wd.unums k, Wd.In64 n) := by
      intro i hi
      obtain ⟨cs', h1, h2⟩ := hx i (by omega)
      obtain ⟨k, rfl, hk⟩ := open_un64 h2
      rw [csk] at h1
      obtain ⟨-, -, hcell⟩ := World.cells?_some h1
      refine ⟨k, ?_, hk⟩
      generalize a.add (i * 8) = y at *
      exact ⟨hcell 0 (by decide), hcell 1 (by decide), hcell 2 (by decide), hcell 3 (by decide), hcell 4 (by decide), hcell 5 (by decide), hcell 6 (by decide), hcell 7 (by decide)⟩
    have inh : Inhabited UnV := ⟨⟨0, 0, 0, 0, 0, 0, 0, 0⟩⟩
    obtain ⟨q, hq⟩ := Go.Deep.choose_lt each
    refine ⟨(List.range len).map q, ⟨some a, cap, by simp, by simpa using hl, by unfold maxLen at hm; omega, fun hn => ⟨a, rfl, ?_, fun i k hk => ?_⟩⟩, ?_, ?_⟩
    · have h0 : 0 < len := by
        rcases Nat.eq_zero_or_pos len with h | h
        · subst h; simp at hn
        · exact h
      have := (hq 0 h0).1.lt
      rwa [add_block] at this
    · have hi : i < len := by
        have := (List.getElem?_eq_some_iff.1 hk).1
        simpa using this
      rw [List.getElem?_map, List.getElem?_range hi] at hk
      injection hk with hk
      subst hk
      exact (hq i hi).1
    · intro k hk
      obtain ⟨i, hi, rfl⟩ := List.mem_map.1 hk
      exact (hq i (List.mem_range.1 hi)).2
    · have := bulk_slice ((List.range len).map D) ((List.range (m - len)).map fun j => D (len + j))
      simpa using this
theorem jb_flds : ∃ f0 f1 f2 f3 : Field, Try.prog.underlying 72 = some (.struct #[f0, f1, f2, f3]) ∧ f0.offset = 0 ∧ f0.type = 3 ∧ f1.offset = 1 ∧ f1.type = 3 ∧ f2.offset = 2 ∧ f2.type = 3 ∧ f3.offset = 3 ∧ f3.type = 3 := ⟨_, _, _, _, Try.underlying72, rfl, rfl, rfl, rfl, rfl, rfl, rfl, rfl⟩
set_option maxRecDepth 100000 in
theorem open_jb64 {H : Type} {enc : TypeId × Value → H} {W : World} {base : Nat} {held : Bool} {fuel : Nat} {cs : List Value} {y : DataW H × List MemPlace} (h : DataW.trod enc Try.prog W base (fun _ => true) held fuel 72 cs = some y) :
    ∃ k : JbV, cs = [.int .i64 k.player, .int .i64 k.unit, .int .i64 k.kind, .int .i64 k.left] ∧ ∀ n ∈ Wd.jnums k, Wd.In64 n := by
  obtain ⟨f0, f1, f2, f3, he, o0, t0, o1, t1, o2, t2, o3, t3⟩ := jb_flds
  obtain ⟨xs, m, -, -, hlen, hxl, hf⟩ := DataW.trod_struct he h
  have csi : Try.prog.cellsOf 3 = 1 := by kernel_rfl
  have csk : Try.prog.cellsOf 72 = 4 := by kernel_rfl
  rw [csk] at hlen
  match cs, hlen with
  | [v0, v1, v2, v3], _ =>
    have hx : xs.length = 4 := hxl
    match xs, hx with
    | [x0, x1, x2, x3], _ =>
      have g0 := hf 0 f0 rfl
      rw [o0, t0, csi] at g0
      have g1 := hf 1 f1 rfl
      rw [o1, t1, csi] at g1
      have g2 := hf 2 f2 rfl
      rw [o2, t2, csi] at g2
      have g3 := hf 3 f3 rfl
      rw [o3, t3, csi] at g3
      obtain ⟨m0, e0, -, w0⟩ := DataW.trod_int Try.underlying3 g0
      obtain ⟨m1, e1, -, w1⟩ := DataW.trod_int Try.underlying3 g1
      obtain ⟨m2, e2, -, w2⟩ := DataW.trod_int Try.underlying3 g2
      obtain ⟨m3, e3, -, w3⟩ := DataW.trod_int Try.underlying3 g3
      simp at e0 e1 e2 e3
      subst e0 e1 e2 e3
      refine ⟨⟨m0, m1, m2, m3⟩, rfl, ?_⟩
      intro n hn
      simp only [Wd.jnums, List.mem_cons, List.not_mem_nil, or_false] at hn
      rcases hn with rfl | rfl | rfl | rfl
      · exact in64_of_wf w0
      · exact in64_of_wf w1
      · exact in64_of_wf w2
      · exact in64_of_wf w3
theorem open_jbs64 {H : Type} {enc : TypeId × Value → H} {W : World} {base : Nat} {held : Bool} {fuel : Nat} {v : Value} {y : DataW H × List MemPlace} (h : DataW.trod enc Try.prog W base (fun _ => true) held fuel 27 [v] = some y) :
    ∃ ks : List JbV, Jbl W v ks ∧ (∀ k ∈ ks, ∀ n ∈ Wd.jnums k, Wd.In64 n) ∧ ks.length ≤ Rows.uptoBulk y.1 := by
  have csk : Try.prog.cellsOf 72 = 4 := by kernel_rfl
  rcases Go.Deep.open_slice Try.underlying27 h with ⟨hcs, -⟩ | ⟨a, len, cap, m, q, D, Pl, hcs, hb, hl, hm, hmm, rfl, hx⟩
  · simp at hcs
    subst hcs
    exact ⟨[], ⟨none, 0, rfl, Nat.le_refl _, by omega, fun h => absurd rfl h⟩, by simp, by simp⟩
  · simp at hcs
    subst hcs
    have hlm : len ≤ m := by rw [hmm]; simp; exact hl
    have each : ∀ i, i < len → ∃ k : JbV, Jbc W (a.add (i * 4)) k ∧ (∀ n ∈ Wd.jnums k, Wd.In64 n) := by
      intro i hi
      obtain ⟨cs', h1, h2⟩ := hx i (by omega)
      obtain ⟨k, rfl, hk⟩ := open_jb64 h2
      rw [csk] at h1
      obtain ⟨-, -, hcell⟩ := World.cells?_some h1
      refine ⟨k, ?_, hk⟩
      generalize a.add (i * 4) = y at *
      exact ⟨hcell 0 (by decide), hcell 1 (by decide), hcell 2 (by decide), hcell 3 (by decide)⟩
    have inh : Inhabited JbV := ⟨⟨0, 0, 0, 0⟩⟩
    obtain ⟨q, hq⟩ := Go.Deep.choose_lt each
    refine ⟨(List.range len).map q, ⟨some a, cap, by simp, by simpa using hl, by unfold maxLen at hm; omega, fun hn => ⟨a, rfl, ?_, fun i k hk => ?_⟩⟩, ?_, ?_⟩
    · have h0 : 0 < len := by
        rcases Nat.eq_zero_or_pos len with h | h
        · subst h; simp at hn
        · exact h
      have := (hq 0 h0).1.lt
      rwa [add_block] at this
    · have hi : i < len := by
        have := (List.getElem?_eq_some_iff.1 hk).1
        simpa using this
      rw [List.getElem?_map, List.getElem?_range hi] at hk
      injection hk with hk
      subst hk
      exact (hq i hi).1
    · intro k hk
      obtain ⟨i, hi, rfl⟩ := List.mem_map.1 hk
      exact (hq i (List.mem_range.1 hi)).2
    · have := bulk_slice ((List.range len).map D) ((List.range (m - len)).map fun j => D (len + j))
      simpa using this
theorem world_flds : ∃ f0 f1 f2 f3 f4 f5 : Field, Try.prog.underlying 29 = some (.struct #[f0, f1, f2, f3, f4, f5]) ∧ f0.offset = 0 ∧ f0.type = 3 ∧ f1.offset = 1 ∧ f1.type = 3 ∧ f2.offset = 2 ∧ f2.type = 25 ∧ f3.offset = 6 ∧ f3.type = 23 ∧ f4.offset = 7 ∧ f4.type = 26 ∧ f5.offset = 8 ∧ f5.type = 27 := ⟨_, _, _, _, _, _, Try.underlying29, rfl, rfl, rfl, rfl, rfl, rfl, rfl, rfl, rfl, rfl, rfl, rfl⟩
theorem field_flds : ∃ f0 f1 f2 f3 : Field, Try.prog.underlying 25 = some (.struct #[f0, f1, f2, f3]) ∧ f0.offset = 0 ∧ f0.type = 3 ∧ f1.offset = 1 ∧ f1.type = 3 ∧ f2.offset = 2 ∧ f2.type = 23 ∧ f3.offset = 3 ∧ f3.type = 23 := ⟨_, _, _, _, Try.underlying25, rfl, rfl, rfl, rfl, rfl, rfl, rfl, rfl⟩
theorem ro_len {w : World} {v : Value} {xs : List Int} (h : Ro w v xs) : Wd.In64 (xs.length : Int) := by
  obtain ⟨a, c, -, h1, h2, -⟩ := h
  unfold Wd.In64; omega
set_option maxRecDepth 100000 in
theorem open_world64 {H : Type} {enc : TypeId × Value → H} {W : World} {base : Nat} {held : Bool} {fuel : Nat} {cs : List Value} {y : DataW H × List MemPlace} (h : DataW.trod enc Try.prog W base (fun _ => true) held fuel 29 cs = some y) :
    ∃ X : WV, Wl W (.agg cs.toArray) X ∧ (∀ n ∈ Wd.nums X, Wd.In64 n) ∧ (Rows.uptoBulk y.1 ≤ 1048576 → WSmall X) := by
  obtain ⟨f0, f1, f2, f3, f4, f5, he, o0, t0, o1, t1, o2, t2, o3, t3, o4, t4, o5, t5⟩ := world_flds
  obtain ⟨xs, m, -, rfl, hlen, hxl, hf⟩ := DataW.trod_struct he h
  have csi : Try.prog.cellsOf 3 = 1 := by kernel_rfl
  have csf : Try.prog.cellsOf 25 = 4 := by kernel_rfl
  have csl : Try.prog.cellsOf 23 = 1 := by kernel_rfl
  have csu : Try.prog.cellsOf 26 = 1 := by kernel_rfl
  have csj : Try.prog.cellsOf 27 = 1 := by kernel_rfl
  have csk : Try.prog.cellsOf 29 = 9 := by kernel_rfl
  rw [csk] at hlen
  match cs, hlen with
  | [v0, v1, v2, v3, v4, v5, v6, v7, v8], _ =>
    have hx : xs.length = 6 := hxl
    match xs, hx with
    | [x0, x1, x2, x3, x4, x5], _ =>
      have g0 := hf 0 f0 rfl
      rw [o0, t0, csi] at g0
      have g1 := hf 1 f1 rfl
      rw [o1, t1, csi] at g1
      have g2 := hf 2 f2 rfl
      rw [o2, t2, csf] at g2
      have g3 := hf 3 f3 rfl
      rw [o3, t3, csl] at g3
      have g4 := hf 4 f4 rfl
      rw [o4, t4, csu] at g4
      have g5 := hf 5 f5 rfl
      rw [o5, t5, csj] at g5
      obtain ⟨m0, e0, -, w0⟩ := DataW.trod_int Try.underlying3 g0
      obtain ⟨m1, e1, -, w1⟩ := DataW.trod_int Try.underlying3 g1
      obtain ⟨r0, r1, r2, r3, he', p0, s0, p1, s1, p2, s2, p3, s3⟩ := field_flds
      obtain ⟨ys, m', -, rfl, hlen', hyl, hg⟩ := DataW.trod_struct he' g2
      have hy : ys.length = 4 := hyl
      match ys, hy with
      | [y0, y1, y2, y3], _ =>
        have k0 := hg 0 r0 rfl
        rw [p0, s0, csi] at k0
        have k1 := hg 1 r1 rfl
        rw [p1, s1, csi] at k1
        have k2 := hg 2 r2 rfl
        rw [p2, s2, csl] at k2
        have k3 := hg 3 r3 rfl
        rw [p3, s3, csl] at k3
        obtain ⟨m2, e2, -, w2⟩ := DataW.trod_int Try.underlying3 k0
        obtain ⟨m3, e3, -, w3⟩ := DataW.trod_int Try.underlying3 k1
        simp at e0 e1 e2 e3
        subst e0 e1 e2 e3
        obtain ⟨gs, hgs, igs, bgs⟩ := open_row64 k2
        obtain ⟨os, hos, ios, bos⟩ := open_row64 k3
        obtain ⟨gold, hgold, igold, bgold⟩ := open_row64 g3
        obtain ⟨us, hus, ius, bus⟩ := open_uns64 g4
        obtain ⟨qs, hqs, iqs, bqs⟩ := open_jbs64 g5
        have lu : Wd.In64 (us.length : Int) := by
          obtain ⟨a, c, -, h1, h2, -⟩ := hus
          unfold Wd.In64; omega
        have lq : Wd.In64 (qs.length : Int) := by
          obtain ⟨a, c, -, h1, h2, -⟩ := hqs
          unfold Wd.In64; omega
        refine ⟨⟨m0, m1, m2, m3, gs, os, gold, us, qs⟩, ⟨_, _, _, _, _, rfl, hgs, hos, hgold, hus, hqs⟩, ?_, ?_⟩
        · intro n hn
          simp only [Wd.nums, List.mem_append, List.mem_cons, List.not_mem_nil, or_false, List.mem_flatMap] at hn
          rcases hn with (((((rfl | rfl | rfl | rfl) | (rfl | hn)) | (rfl | hn)) | (rfl | hn)) | (rfl | ⟨u, hu, hn⟩)) | (rfl | ⟨u, hu, hn⟩)
          · exact in64_of_wf w0
          · exact in64_of_wf w1
          · exact in64_of_wf w2
          · exact in64_of_wf w3
          · exact ro_len hgs
          · exact igs _ hn
          · exact ro_len hos
          · exact ios _ hn
          · exact ro_len hgold
          · exact igold _ hn
          · exact lu
          · exact ius u hu n hn
          · exact lq
          · exact iqs u hu n hn
        · intro hb
          simp only [Rows.uptoBulk, Rows.uptoBulkAll, List.map_cons, List.map_nil] at hb
          exact ⟨by simp only; omega, by simp only; omega, by simp only; omega, by simp only; omega, by simp only; omega⟩
set_option maxRecDepth 100000 in
theorem world_in {H : Type} {enc : TypeId × Value → H} {W : World} {base b0 : Nat} {held : Bool} {v : Value} {d : DataW H} {p : List MemPlace} (hv : Value.okWide Try.prog W .any b0 29 v) (h : DataW.Trod enc Try.prog W base (fun _ => true) held 29 v d p) :
    ∃ X : WV, Wl W v X ∧ (∀ n ∈ Wd.nums X, Wd.In64 n) ∧ (Rows.uptoBulk d ≤ 1048576 → WSmall X) := by
  obtain ⟨cs, rfl, hsz⟩ := okWide_struct Try.underlying29 hv
  obtain ⟨fuel, hf⟩ := h
  have := open_world64 hf
  simpa [Value.cells] using this
end Go.Proofs.Ytplnhgllbhdfjaa

namespace Go.Proofs.Ytplnhgllbhdfjaa
open Go.ChangeShapes Go.WideShapes Go.ChangeAt Go.RowKit
set_option linter.unusedVariables false

theorem kind_fields : ∃ f0 f1 f2 f3 f4 f5 f6 f7 f8 f9 f10 : Field, Try.prog.underlying 41 = some (.struct #[f0, f1, f2, f3, f4, f5, f6, f7, f8, f9, f10]) ∧
    f0.offset = 0 ∧ f0.type = 9 ∧ f1.offset = 1 ∧ f1.type = 3 ∧ f2.offset = 2 ∧ f2.type = 3 ∧ f3.offset = 3 ∧ f3.type = 3 ∧ f4.offset = 4 ∧ f4.type = 3 ∧ f5.offset = 5 ∧ f5.type = 3 ∧ f6.offset = 6 ∧ f6.type = 3 ∧ f7.offset = 7 ∧ f7.type = 3 ∧ f8.offset = 8 ∧ f8.type = 3 ∧ f9.offset = 9 ∧ f9.type = 4 ∧ f10.offset = 10 ∧ f10.type = 4 := ⟨_, _, _, _, _, _, _, _, _, _, _, Try.underlying41, rfl, rfl, rfl, rfl, rfl, rfl, rfl, rfl, rfl, rfl, rfl, rfl, rfl, rfl, rfl, rfl, rfl, rfl, rfl, rfl, rfl, rfl⟩


set_option maxRecDepth 100000 in
theorem open_kind {H : Type} {enc : TypeId × Value → H} {W : World} {base : Nat} {held : Bool} {fuel : Nat} {cs : List Value} {y : DataW H × List MemPlace} (h : DataW.trod enc Try.prog W base (fun _ => true) held fuel 41 cs = some y) :
    ∃ k : KV, cs = [.string k.b, .int .i64 k.n0, .int .i64 k.n1, .int .i64 k.n2, .int .i64 k.n3, .int .i64 k.n4, .int .i64 k.n5, .int .i64 k.n6, .int .i64 k.n7, .bool k.f, .bool k.t] ∧ k.b.size ≤ maxLen := by
  obtain ⟨f0, f1, f2, f3, f4, f5, f6, f7, f8, f9, f10, he, o0, t0, o1, t1, o2, t2, o3, t3, o4, t4, o5, t5, o6, t6, o7, t7, o8, t8, o9, t9, o10, t10⟩ := kind_fields
  obtain ⟨xs, n, -, -, hlen, hxl, hf⟩ := DataW.trod_struct he h
  have cs9 : Try.prog.cellsOf 9 = 1 := by kernel_rfl
  have cs3 : Try.prog.cellsOf 3 = 1 := by kernel_rfl
  have cs4 : Try.prog.cellsOf 4 = 1 := by kernel_rfl
  have csk : Try.prog.cellsOf 41 = 11 := by kernel_rfl
  rw [csk] at hlen
  match cs, hlen with
  | [v0, v1, v2, v3, v4, v5, v6, v7, v8, v9, v10], _ =>
    have hx11 : xs.length = 11 := hxl
    match xs, hx11 with
    | [x0, x1, x2, x3, x4, x5, x6, x7, x8, x9, x10], _ =>
      have g0 := hf 0 f0 rfl
      rw [o0, t0, cs9] at g0
      have g1 := hf 1 f1 rfl
      rw [o1, t1, cs3] at g1
      have g2 := hf 2 f2 rfl
      rw [o2, t2, cs3] at g2
      have g3 := hf 3 f3 rfl
      rw [o3, t3, cs3] at g3
      have g4 := hf 4 f4 rfl
      rw [o4, t4, cs3] at g4
      have g5 := hf 5 f5 rfl
      rw [o5, t5, cs3] at g5
      have g6 := hf 6 f6 rfl
      rw [o6, t6, cs3] at g6
      have g7 := hf 7 f7 rfl
      rw [o7, t7, cs3] at g7
      have g8 := hf 8 f8 rfl
      rw [o8, t8, cs3] at g8
      have g9 := hf 9 f9 rfl
      rw [o9, t9, cs4] at g9
      have g10 := hf 10 f10 rfl
      rw [o10, t10, cs4] at g10
      obtain ⟨b, e0, -, hb⟩ := DataW.trod_string Try.underlying9 g0
      obtain ⟨m1, e1, -, -⟩ := DataW.trod_int Try.underlying3 g1
      obtain ⟨m2, e2, -, -⟩ := DataW.trod_int Try.underlying3 g2
      obtain ⟨m3, e3, -, -⟩ := DataW.trod_int Try.underlying3 g3
      obtain ⟨m4, e4, -, -⟩ := DataW.trod_int Try.underlying3 g4
      obtain ⟨m5, e5, -, -⟩ := DataW.trod_int Try.underlying3 g5
      obtain ⟨m6, e6, -, -⟩ := DataW.trod_int Try.underlying3 g6
      obtain ⟨m7, e7, -, -⟩ := DataW.trod_int Try.underlying3 g7
      obtain ⟨m8, e8, -, -⟩ := DataW.trod_int Try.underlying3 g8
      obtain ⟨bf, e9, -⟩ := DataW.trod_bool Try.underlying4 g9
      obtain ⟨bt, e10, -⟩ := DataW.trod_bool Try.underlying4 g10
      simp at e0 e1 e2 e3 e4 e5 e6 e7 e8 e9 e10
      subst e0 e1 e2 e3 e4 e5 e6 e7 e8 e9 e10
      exact ⟨⟨b, m1, m2, m3, m4, m5, m6, m7, m8, bf, bt⟩, rfl, hb⟩

/-- kinds that came in. -/
theorem open_kinds {H : Type} {enc : TypeId × Value → H} {W : World} {base : Nat} {held : Bool} {fuel : Nat} {v : Value} {y : DataW H × List MemPlace} (h : DataW.trod enc Try.prog W base (fun _ => true) held fuel 22 [v] = some y) :
    ∃ ks : List KV, Kl W v ks ∧ ∀ k ∈ ks, k.b.size ≤ maxLen := by
  have csk : Try.prog.cellsOf 41 = 11 := by kernel_rfl
  rcases Go.Deep.open_slice Try.underlying22 h with ⟨hcs, -⟩ | ⟨a, len, cap, m, n, D, Pl, hcs, hb, hl, hm, hmm, -, hx⟩
  · simp at hcs
    subst hcs
    exact ⟨[], ⟨none, 0, rfl, Nat.le_refl _, by omega, fun h => absurd rfl h⟩, by simp⟩
  · simp at hcs
    subst hcs
    have hlm : len ≤ m := by rw [hmm]; simp; exact hl
    have each : ∀ i, i < len → ∃ k : KV, Kc W (a.add (i * 11)) k ∧ k.b.size ≤ maxLen := by
      intro i hi
      obtain ⟨cs', h1, h2⟩ := hx i (by omega)
      obtain ⟨k, rfl, hk⟩ := open_kind h2
      rw [csk] at h1
      obtain ⟨-, -, hcell⟩ := World.cells?_some h1
      refine ⟨k, ?_, hk⟩
      generalize a.add (i * 11) = y at *
      exact ⟨hcell 0 (by decide), hcell 1 (by decide), hcell 2 (by decide), hcell 3 (by decide), hcell 4 (by decide), hcell 5 (by decide), hcell 6 (by decide), hcell 7 (by decide), hcell 8 (by decide), hcell 9 (by decide), hcell 10 (by decide)⟩
    have inh : Inhabited KV := ⟨⟨ByteArray.empty, 0, 0, 0, 0, 0, 0, 0, 0, false, false⟩⟩
    obtain ⟨q, hq⟩ := Go.Deep.choose_lt each
    refine ⟨(List.range len).map q, ⟨some a, cap, by simp, by simpa using hl, by unfold maxLen at hm; omega, fun hn => ⟨a, rfl, ?_, fun i k hk => ?_⟩⟩, ?_⟩
    · have h0 : 0 < len := by
        rcases Nat.eq_zero_or_pos len with h | h
        · subst h; simp at hn
        · exact h
      have := (hq 0 h0).1.lt
      rwa [add_block] at this
    · have hi : i < len := by
        have := (List.getElem?_eq_some_iff.1 hk).1
        simpa using this
      rw [List.getElem?_map, List.getElem?_range hi] at hk
      injection hk with hk
      subst hk
      exact (hq i hi).1
    · intro k hk
      obtain ⟨i, hi, rfl⟩ := List.mem_map.1 hk
      exact (hq i (List.mem_range.1 hi)).2
set_option maxRecDepth 100000 in
theorem kinds_in {H : Type} {enc : TypeId × Value → H} {W : World} {base b0 : Nat} {held : Bool} {v : Value} {d : DataW H} {p : List MemPlace} (hv : Value.okWide Try.prog W .any b0 22 v) (h : DataW.Trod enc Try.prog W base (fun _ => true) held 22 v d p) :
    ∃ ks : List KV, Kl W v ks ∧ ∀ k ∈ ks, k.b.size ≤ maxLen := by
  obtain ⟨a, len, cap, rfl⟩ := okWide_slice Try.underlying22 hv
  obtain ⟨fuel, hf⟩ := h
  exact open_kinds hf
end Go.Proofs.Ytplnhgllbhdfjaa

namespace Go.Proofs.Ytplnhgllbhdfjaa.fightNear
open Go.RowKit
set_option linter.unusedVariables false

theorem s3_fault : Wd.wfault SK S3 = 0 := by decide +kernel
theorem s3_foes : foesU 4 ⟨3, 1, 2, 3, 20, 0, 0, 0⟩ 1 S3.us = [] := by decide +kernel
/-- the fact: nobody is near. -/
theorem sm_target {t F : Int} (h : TarSays SK S3 2 t F) : t = -1 ∧ F = 0 := by
  rcases h with ⟨h, -⟩ | ⟨-, h, -⟩ | ⟨-, rfl, n, Wn, u, k, hn, hu, hw, -, -, hk, ht⟩
  · exact absurd s3_fault h
  · exact absurd (by decide) h
  · obtain rfl : n = 2 := by omega
    have hu' : (⟨3, 1, 2, 3, 20, 0, 0, 0⟩ : UnV) = u := Option.some.inj hu
    subst hu'
    obtain rfl : Wn = 4 := by
      have : (4 : Int) = (Wn : Nat) := hw
      omega
    have hk' : (⟨⟨#[102, 105, 103, 104, 116, 101, 114]⟩, 20, 4, 1, 4, 2, 20, 3, 0, false, false⟩ : KV) = k := Option.some.inj hk
    subst hk'
    rcases ht with ⟨-, h⟩ | ⟨-, -, h⟩ | ⟨-, x0, tl, h, -⟩
    · exact ⟨h, rfl⟩
    · exact ⟨h, rfl⟩
    · have h9 : foesU 4 ⟨3, 1, 2, 3, 20, 0, 0, 0⟩ 1 S3.us = x0 :: tl := h
      rw [s3_foes] at h9; cases h9
theorem far_cells (Wn a b ca ra cb rb : Nat) (h1 : 0 < Wn) (h2 : Wn ≤ 12) (ha : a ≤ 144) (hb : b ≤ 144) (hca : a % Wn = ca) (hra : a / Wn = ra) (hcb : b % Wn = cb) (hrb : b / Wn = rb) (W : World) :
    Calls Try.prog 9 #[.int .i64 (ca : Nat), .int .i64 (ra : Nat), .int .i64 (cb : Nat), .int .i64 (rb : Nat)] W fun e w' => e = .returned (.tuple #[.int .i64 (farN Wn a b), .nilIface]) ∧ w' = W := by
  have l1 : ra ≤ 144 := by rw [← hra]; exact Nat.le_trans (Nat.div_le_self _ _) ha
  have l2 : rb ≤ 144 := by rw [← hrb]; exact Nat.le_trans (Nat.div_le_self _ _) hb
  have l3 : ca ≤ 144 := by rw [← hca]; exact Nat.le_trans (Nat.mod_le _ _) ha
  have l4 : cb ≤ 144 := by rw [← hcb]; exact Nat.le_trans (Nat.mod_le _ _) hb
  refine (far_ok _ _ _ _ W (small_in6 l3) (small_in6 l1) (small_in6 l4) (small_in6 l2)).mono ?_
  rintro e w' ⟨r, hr, rfl, rfl⟩
  have : farN Wn a b = r := by
    refine farN_eq h2 ha hb h1 ?_
    rw [hca, hra, hcb, hrb]
    exact hr
  rw [this]
  exact ⟨rfl, rfl⟩

set_option maxRecDepth 100000 in
set_option maxHeartbeats 50000000 in
theorem walk (vk : Value) (ks : List KV) (vw : Value) (X : WV) (i : Int) (w : World)
    (h0 : Kl w vk ks ∧ ∀ k ∈ ks, k.b.size ≤ maxLen) (h1 : Wl w vw X ∧ ∀ n ∈ Wd.nums X, Wd.In64 n) (h2 : (Lit.int .i64 i).wf = true) :
    Calls Try.prog 3 #[vk, vw, .int .i64 i] w fun e w' => e = .returned (.bool true) ∧ Below w.heap.size w w' := by
  have K : Hid (Kl w vk ks ∧ ∀ k ∈ ks, k.b.size ≤ 9223372036854775807) := ⟨h0.1, fun k hk => by have := h0.2 k hk; unfold maxLen at this; omega⟩
  have H : Hid (Wl w vw X) := h1.1
  obtain ⟨p1, q1, p2, q2, p3, q3, p4, q4, p5, q5, rfl⟩ := wl_shape9 h1.1
  obtain ⟨pk, qk, rfl, ck1, ck2, kc⟩ := h0.1
  have KC : Hid (ks ≠ [] → ∃ x, pk = some x ∧ x.block < w.heap.size ∧ ∀ (i : Nat) k, ks[i]? = some k → Kc w (x.add (i * 11)) k) := kc
  clear h0 h1 h2 kc
  go_enter Try.func3, Try.ntmps3
  go_upto_region 1 with fail
  have B0 : Hid (Below w.heap.size w (w.alloc (Obj.cells #[.int .i64 X.turn, .int .i64 X.next, .int .i64 X.wide, .int .i64 X.high, .slice p1 X.gs.length q1, .slice p2 X.os.length q2, .slice p3 X.gold.length q3, .slice p4 X.us.length q4, .slice p5 X.qs.length q5] 29))) := (Below.refl _ _).alloc (Nat.le_refl _) _
  have X0 : Hid (Bw (w.alloc (Obj.cells #[.int .i64 X.turn, .int .i64 X.next, .int .i64 X.wide, .int .i64 X.high, .slice p1 X.gs.length q1, .slice p2 X.os.length q2, .slice p3 X.gold.length q3, .slice p4 X.us.length q4, .slice p5 X.qs.length q5] 29)) w.heap.size X (.slice p1 X.gs.length q1) (.slice p2 X.os.length q2) (.slice p3 X.gold.length q3) (.slice p4 X.us.length q4) (.slice p5 X.qs.length q5)) := Bw.mk' X _ _ _ _ _ rfl
  generalize (w.alloc (Obj.cells #[.int .i64 X.turn, .int .i64 X.next, .int .i64 X.wide, .int .i64 X.high, .slice p1 X.gs.length q1, .slice p2 X.os.length q2, .slice p3 X.gold.length q3, .slice p4 X.us.length q4, .slice p5 X.qs.length q5] 29)) = w0 at *
  go_wp2_with fail
  refine (small_any w0).mono ?_
  rintro e w1 ⟨u, rfl, ho, hb⟩
  have B1 : Hid (Below w.heap.size w w1) := B0.out.trans (hb.mono B0.out.size)
  have X1 : Hid (Bw w1 w.heap.size X (.slice p1 X.gs.length q1) (.slice p2 X.os.length q2) (.slice p3 X.gold.length q3) (.slice p4 X.us.length q4) (.slice p5 X.qs.length q5)) := X0.out.below hb X0.out.lt
  have LS0 := ho.l
  obtain ⟨y1, y2, y3, y4, y5, rfl, o1, o2, o3, o4, o5⟩ := ho
  obtain ⟨m1, n1, rfl⟩ := o1.len
  obtain ⟨m2, n2, rfl⟩ := o2.len
  obtain ⟨m3, n3, rfl⟩ := o3.len
  obtain ⟨m4, n4, rfl⟩ := o4.len
  obtain ⟨m5, n5, rfl⟩ := o5.len
  have LS : Hid (Wl w1 (.agg #[.int .i64 0, .int .i64 4, .int .i64 4, .int .i64 2, .slice m1 8 n1, .slice m2 8 n2, .slice m3 2 n3, .slice m4 3 n4, .slice m5 0 n5]) S3) := LS0
  obtain ⟨g1, g2, g3, g4, g5, g6, g7, g8, g9⟩ := s3_eqs
  simp only [g1, g2, g3, g4, g5, g6, g7, g8, g9]
  clear g1 g2 g3 g4 g5 g6 g7 g8 g9 hb o1 o2 o3 o4 o5 X0 B0 LS0
  go_upto_region 2 with fail
  have BA : Hid (Below w1.heap.size w1 (w1.alloc (Obj.cells #[.int .i64 0, .int .i64 4, .int .i64 4, .int .i64 2, .slice m1 8 n1, .slice m2 8 n2, .slice m3 2 n3, .slice m4 3 n4, .slice m5 0 n5] 29))) := (Below.refl _ _).alloc (Nat.le_refl _) _
  obtain ⟨z, hz⟩ : ∃ z, w1.heap.size = z := ⟨_, rfl⟩
  have C2 : Hid ((fun V : World => V.cell? ⟨z, 0, none⟩ = some (.int .i64 0) ∧ V.cell? ⟨z, 1, none⟩ = some (.int .i64 4) ∧ V.cell? ⟨z, 2, none⟩ = some (.int .i64 4) ∧ V.cell? ⟨z, 3, none⟩ = some (.int .i64 2) ∧ V.cell? ⟨z, 4, none⟩ = some (.slice m1 8 n1) ∧ V.cell? ⟨z, 5, none⟩ = some (.slice m2 8 n2) ∧ V.cell? ⟨z, 6, none⟩ = some (.slice m3 2 n3) ∧ V.cell? ⟨z, 7, none⟩ = some (.slice m4 3 n4) ∧ V.cell? ⟨z, 8, none⟩ = some (.slice m5 0 n5)) (w1.alloc (Obj.cells #[.int .i64 0, .int .i64 4, .int .i64 4, .int .i64 2, .slice m1 8 n1, .slice m2 8 n2, .slice m3 2 n3, .slice m4 3 n4, .slice m5 0 n5] 29))) := by
    subst hz
    exact ⟨by simp, by simp, by simp, by simp, by simp, by simp, by simp, by simp, by simp⟩
  have ZL : Hid (z < (w1.alloc (Obj.cells #[.int .i64 0, .int .i64 4, .int .i64 4, .int .i64 2, .slice m1 8 n1, .slice m2 8 n2, .slice m3 2 n3, .slice m4 3 n4, .slice m5 0 n5] 29)).heap.size) := by unfold Hid; rw [← hz]; simp
  generalize (w1.alloc (Obj.cells #[.int .i64 0, .int .i64 4, .int .i64 4, .int .i64 2, .slice m1 8 n1, .slice m2 8 n2, .slice m3 2 n3, .slice m4 3 n4, .slice m5 0 n5] 29)) = w2 at *
  have B2 : Hid (Below w.heap.size w w2) := B1.out.trans (BA.out.mono B1.out.size)
  have X2 : Hid (Bw w2 w.heap.size X (.slice p1 X.gs.length q1) (.slice p2 X.os.length q2) (.slice p3 X.gold.length q3) (.slice p4 X.us.length q4) (.slice p5 X.qs.length q5)) := X1.out.below BA.out X1.out.lt
  have L2 : Hid (Wl w2 (.agg #[.int .i64 0, .int .i64 4, .int .i64 4, .int .i64 2, .slice m1 8 n1, .slice m2 8 n2, .slice m3 2 n3, .slice m4 3 n4, .slice m5 0 n5]) S3) := LS.out.below BA.out
  rw [hz]
  clear X1 B1 BA LS hz
  go_upto_region 4 with fail
  refine wp_region_two [(true, 1), (false, 0), (false, 2), (true, 3)] [(true, 4), (true, 5), (false, 6), (false, 7)] (fun V => V.cell? ⟨z, 0, none⟩ = some (.int .i64 0) ∧ V.cell? ⟨z, 1, none⟩ = some (.int .i64 4) ∧ V.cell? ⟨z, 2, none⟩ = some (.int .i64 4) ∧ V.cell? ⟨z, 3, none⟩ = some (.int .i64 2) ∧ V.cell? ⟨z, 4, none⟩ = some (.slice m1 8 n1) ∧ V.cell? ⟨z, 5, none⟩ = some (.slice m2 8 n2) ∧ V.cell? ⟨z, 6, none⟩ = some (.slice m3 2 n3) ∧ V.cell? ⟨z, 7, none⟩ = some (.slice m4 3 n4) ∧ V.cell? ⟨z, 8, none⟩ = some (.slice m5 0 n5)) (by kernel_rfl) (by kernel_rfl) (by kernel_rfl) (by decide +kernel) (by decide +kernel) C2.out ?_
  have CB : Hid (∀ (A B : World) (n : Nat), z < n → Below n A B → (fun V : World => V.cell? ⟨z, 0, none⟩ = some (.int .i64 0) ∧ V.cell? ⟨z, 1, none⟩ = some (.int .i64 4) ∧ V.cell? ⟨z, 2, none⟩ = some (.int .i64 4) ∧ V.cell? ⟨z, 3, none⟩ = some (.int .i64 2) ∧ V.cell? ⟨z, 4, none⟩ = some (.slice m1 8 n1) ∧ V.cell? ⟨z, 5, none⟩ = some (.slice m2 8 n2) ∧ V.cell? ⟨z, 6, none⟩ = some (.slice m3 2 n3) ∧ V.cell? ⟨z, 7, none⟩ = some (.slice m4 3 n4) ∧ V.cell? ⟨z, 8, none⟩ = some (.slice m5 0 n5)) A → (fun V : World => V.cell? ⟨z, 0, none⟩ = some (.int .i64 0) ∧ V.cell? ⟨z, 1, none⟩ = some (.int .i64 4) ∧ V.cell? ⟨z, 2, none⟩ = some (.int .i64 4) ∧ V.cell? ⟨z, 3, none⟩ = some (.int .i64 2) ∧ V.cell? ⟨z, 4, none⟩ = some (.slice m1 8 n1) ∧ V.cell? ⟨z, 5, none⟩ = some (.slice m2 8 n2) ∧ V.cell? ⟨z, 6, none⟩ = some (.slice m3 2 n3) ∧ V.cell? ⟨z, 7, none⟩ = some (.slice m4 3 n4) ∧ V.cell? ⟨z, 8, none⟩ = some (.slice m5 0 n5)) B) := fun A B n hn hb h => by
    obtain ⟨f0, f1, f2, f3, f4, f5, f6, f7, f8⟩ := h
    exact ⟨by rw [hb.cell (p := ⟨z, 0, none⟩) hn]; exact f0, by rw [hb.cell (p := ⟨z, 1, none⟩) hn]; exact f1, by rw [hb.cell (p := ⟨z, 2, none⟩) hn]; exact f2, by rw [hb.cell (p := ⟨z, 3, none⟩) hn]; exact f3, by rw [hb.cell (p := ⟨z, 4, none⟩) hn]; exact f4, by rw [hb.cell (p := ⟨z, 5, none⟩) hn]; exact f5, by rw [hb.cell (p := ⟨z, 6, none⟩) hn]; exact f6, by rw [hb.cell (p := ⟨z, 7, none⟩) hn]; exact f7, by rw [hb.cell (p := ⟨z, 8, none⟩) hn]; exact f8⟩
  have D3 : Hid (Below w2.heap.size w2 { w2 with drawn := w2.drawn + 1 }) := (Below.refl _ _).drew
  have C3 : Hid ((fun V : World => V.cell? ⟨z, 0, none⟩ = some (.int .i64 0) ∧ V.cell? ⟨z, 1, none⟩ = some (.int .i64 4) ∧ V.cell? ⟨z, 2, none⟩ = some (.int .i64 4) ∧ V.cell? ⟨z, 3, none⟩ = some (.int .i64 2) ∧ V.cell? ⟨z, 4, none⟩ = some (.slice m1 8 n1) ∧ V.cell? ⟨z, 5, none⟩ = some (.slice m2 8 n2) ∧ V.cell? ⟨z, 6, none⟩ = some (.slice m3 2 n3) ∧ V.cell? ⟨z, 7, none⟩ = some (.slice m4 3 n4) ∧ V.cell? ⟨z, 8, none⟩ = some (.slice m5 0 n5)) { w2 with drawn := w2.drawn + 1 }) := C2.out
  generalize ({ w2 with drawn := w2.drawn + 1 } : World) = w3 at *
  have B3 : Hid (Below w.heap.size w w3) := B2.out.trans (D3.out.mono B2.out.size)
  have X3 : Hid (Bw w3 w.heap.size X (.slice p1 X.gs.length q1) (.slice p2 X.os.length q2) (.slice p3 X.gold.length q3) (.slice p4 X.us.length q4) (.slice p5 X.qs.length q5)) := X2.out.below D3.out X2.out.lt
  have L3 : Hid (Wl w3 (.agg #[.int .i64 0, .int .i64 4, .int .i64 4, .int .i64 2, .slice m1 8 n1, .slice m2 8 n2, .slice m3 2 n3, .slice m4 3 n4, .slice m5 0 n5]) S3) := L2.out.below D3.out
  have Z3 : Hid (z < w3.heap.size) := Nat.lt_of_lt_of_le ZL.out D3.out.size
  clear X2 B2 L2 C2 D3 ZL
  refine headT_read rfl (.agg #[.int .i64 0, .int .i64 4, .int .i64 4, .int .i64 2, .slice m1 8 n1, .slice m2 8 n2, .slice m3 2 n3, .slice m4 3 n4, .slice m5 0 n5]) (by go_simp) (fun V hV => by obtain ⟨f0, f1, f2, f3, f4, f5, f6, f7, f8⟩ := hV; go_simp) ?_
  go_simp
  refine headT_call rfl 8 #[] (by go_simp) (by go_simp) ?_
  refine (sorts_any w3).mono ?_
  rintro e w4 ⟨ku, rfl, hk, hb⟩
  have K4 : Hid (Kl w4 ku SK) := hk
  have C4 : Hid ((fun V : World => V.cell? ⟨z, 0, none⟩ = some (.int .i64 0) ∧ V.cell? ⟨z, 1, none⟩ = some (.int .i64 4) ∧ V.cell? ⟨z, 2, none⟩ = some (.int .i64 4) ∧ V.cell? ⟨z, 3, none⟩ = some (.int .i64 2) ∧ V.cell? ⟨z, 4, none⟩ = some (.slice m1 8 n1) ∧ V.cell? ⟨z, 5, none⟩ = some (.slice m2 8 n2) ∧ V.cell? ⟨z, 6, none⟩ = some (.slice m3 2 n3) ∧ V.cell? ⟨z, 7, none⟩ = some (.slice m4 3 n4) ∧ V.cell? ⟨z, 8, none⟩ = some (.slice m5 0 n5)) w4) := CB.out w3 w4 _ Z3.out hb C3.out
  have B4 : Hid (Below w.heap.size w w4) := B3.out.trans (hb.mono B3.out.size)
  have X4 : Hid (Bw w4 w.heap.size X (.slice p1 X.gs.length q1) (.slice p2 X.os.length q2) (.slice p3 X.gold.length q3) (.slice p4 X.us.length q4) (.slice p5 X.qs.length q5)) := X3.out.below hb X3.out.lt
  have L4 : Hid (Wl w4 (.agg #[.int .i64 0, .int .i64 4, .int .i64 4, .int .i64 2, .slice m1 8 n1, .slice m2 8 n2, .slice m3 2 n3, .slice m4 3 n4, .slice m5 0 n5]) S3) := L3.out.below hb
  have Z4 : Hid (z < w4.heap.size) := Nat.lt_of_lt_of_le Z3.out hb.size
  clear hk hb X3 B3 L3 C3 Z3
  refine ⟨_, rfl, C4.out, ?_⟩
  go_simp
  refine headT_call rfl 7 #[ku, .agg #[.int .i64 0, .int .i64 4, .int .i64 4, .int .i64 2, .slice m1 8 n1, .slice m2 8 n2, .slice m3 2 n3, .slice m4 3 n4, .slice m5 0 n5], .int .i64 2] (by go_simp) (by go_simp) ?_
  refine (Target_any ku _ SK S3 2 w4 K4.out sm_names L4.out).mono ?_
  rintro e w5 ⟨c, r, F, rfl, hr, hy, hb⟩
  obtain ⟨rfl, rfl⟩ := sm_target hy
  obtain rfl := er_zero hr
  have C5 : Hid ((fun V : World => V.cell? ⟨z, 0, none⟩ = some (.int .i64 0) ∧ V.cell? ⟨z, 1, none⟩ = some (.int .i64 4) ∧ V.cell? ⟨z, 2, none⟩ = some (.int .i64 4) ∧ V.cell? ⟨z, 3, none⟩ = some (.int .i64 2) ∧ V.cell? ⟨z, 4, none⟩ = some (.slice m1 8 n1) ∧ V.cell? ⟨z, 5, none⟩ = some (.slice m2 8 n2) ∧ V.cell? ⟨z, 6, none⟩ = some (.slice m3 2 n3) ∧ V.cell? ⟨z, 7, none⟩ = some (.slice m4 3 n4) ∧ V.cell? ⟨z, 8, none⟩ = some (.slice m5 0 n5)) w5) := CB.out w4 w5 _ Z4.out hb C4.out
  have B5 : Hid (Below w.heap.size w w5) := B4.out.trans (hb.mono B4.out.size)
  have X5 : Hid (Bw w5 w.heap.size X (.slice p1 X.gs.length q1) (.slice p2 X.os.length q2) (.slice p3 X.gold.length q3) (.slice p4 X.us.length q4) (.slice p5 X.qs.length q5)) := X4.out.below hb X4.out.lt
  clear hb hr hy X4 B4 L4 C4 Z4 K4
  refine ⟨_, rfl, C5.out, ?_⟩
  clear C5 CB
  go_simp
  refine headT_read rfl (.tuple #[.int .i64 (-1), .nilIface]) (by go_simp) (fun V hV => by go_simp) ?_
  go_simp
  refine sched_read rfl (.int .i64 (-1)) (by go_simp) (fun V hV => by go_simp) ?_
  go_simp
  refine sched_read rfl .nilIface (by go_simp) (fun V hV => by go_simp) ?_
  go_simp
  refine sched_value rfl (.int .i64 (-1)) w5 (by go_simp) (by go_simp) trivial ?_
  go_simp
  refine sched_value rfl .nilIface w5 (by go_simp) (by go_simp) trivial ?_
  go_simp
  unfold wpSched
  obtain ⟨x0, x1, x2, x3, x4, x5, x6, x7, x8⟩ := X5.out
  go_wp2_with fail
  refine (Target_any _ _ ks X i w5 (K.out.1.below B5.out) K.out.2 (H.out.below B5.out)).mono ?_
  rintro e w6 ⟨c, r, F, rfl, hr, hy, hb⟩
  have B6 : Hid (Below w.heap.size w w6) := B5.out.trans (hb.mono B5.out.size)
  have X6 : Hid (Bw w6 w.heap.size X (.slice p1 X.gs.length q1) (.slice p2 X.os.length q2) (.slice p3 X.gold.length q3) (.slice p4 X.us.length q4) (.slice p5 X.qs.length q5)) := X5.out.below hb X5.out.lt
  have SY : Hid (TarSays ks X i c F) := hy
  clear hb hy x0 x1 x2 x3 x4 x5 x6 x7 x8 X5 B5
  rcases hr with ⟨rfl, rfl⟩ | ⟨hf, rfl⟩
  case inr =>
    go_wp2
    go_ret
    exact ⟨rfl, B6.out⟩
  obtain ⟨WZ, n0, Wn, u, k, rfl, hui, hwd, hW1, hW2, hkk, ht⟩ : Wd.wfault ks X = 0 ∧ ∃ (n Wn : Nat) (u : UnV) (k : KV), i = n ∧ X.us[n]? = some u ∧ X.wide = (Wn : Nat) ∧ 0 < Wn ∧ Wn ≤ 12 ∧ ks[u.kind.toNat]? = some k ∧ TgSays Wn u k X.us c := by
    rcases SY.out with ⟨h, h', -⟩ | ⟨-, -, h, -⟩ | ⟨h1, -, h2⟩
    · exact absurd h'.symm h
    · cases h
    · exact ⟨h1, h2⟩
  have WR : Hid (WRight ks X) := wright_of WZ
  have TW : Hid ((c = -1 ∧ (k.n1 = 0 ∨ foesU Wn u k.n2 X.us = [])) ∨ (k.n1 ≠ 0 ∧ ∃ (tn : Nat) (x : UnV) (x0 : UnV) (tl : List UnV), c = tn ∧ X.us[tn]? = some x ∧ foesU Wn u k.n2 X.us = x0 :: tl ∧ x = minU (keyU Wn u) x0 tl)) := tg_who WR.out ht
  have FT : Hid (∀ h ∈ X.us, InF h ∧ 0 ≤ h.life ∧ h.life ≤ 1000000) := right_fit WR.out
  have UF := (FT.out u (List.mem_of_getElem? hui)).1
  obtain ⟨k0, fu⟩ := WR.out.fine hui
  have KF : Hid (0 ≤ k.n1) := (kind_nums WR.out.kinds (List.mem_of_getElem? hkk)).2.2.2.2.1
  obtain ⟨an, han⟩ : ∃ n : Nat, u.at_ = n := ⟨u.at_.toNat, by have := UF.1; omega⟩
  obtain ⟨kn, hkn⟩ : ∃ n : Nat, u.kind = n := ⟨u.kind.toNat, by have := fu.k0.1; omega⟩
  have hk2 : ks[kn]? = some k := by rw [hkn, Int.toNat_natCast] at hkk; exact hkk
  have hkl : kn < ks.length := (List.getElem?_eq_some_iff.1 hk2).1
  have hil : n0 < X.us.length := (List.getElem?_eq_some_iff.1 hui).1
  have GD : Hid (X.wide = (Wn : Nat) ∧ 0 < Wn ∧ Wn ≤ 12 ∧ u.at_ = (an : Nat) ∧ an ≤ 144 ∧ u.kind = (kn : Nat)) := ⟨hwd, hW1, hW2, han, by have := UF.2; omega, hkn⟩
  obtain ⟨pa, pc, he, -, -, hu⟩ := H.out.slices.2.2.2.1
  obtain ⟨xu, hxu, hxul, hxuc⟩ := hu (by intro h; rw [h] at hil; simp at hil)
  injection he with he1 he2 he3
  subst he1
  subst hxu
  obtain ⟨xk, hxk, hxl, hxc⟩ := KC.out (by intro h; subst h; simp at hkl)
  subst hxk
  have UC : Hid (∀ (i : Nat) k, X.us[i]? = some k → Unc w (xu.add (i * 8)) k) := hxuc
  have UL : Hid (xu.block < w.heap.size) := hxul
  have KK : Hid (Kc w (xk.add (kn * 11)) k ∧ (xk.add (kn * 11)).block < w.heap.size) := ⟨hxc kn k hk2, by rw [add_block]; exact hxl⟩
  obtain ⟨y0, y1, y2, y3, y4, y5, y6, y7⟩ := (UC.out n0 u hui).below B6.out (by rw [add_block]; exact hxul)
  obtain ⟨x0, x1, x2, x3, x4, x5, x6, x7, x8⟩ := X6.out
  have hul : X.us.length ≤ 40 := WR.out.ul
  clear hu he2 he3 hxul hxuc hxl hxc hwd hkk hk2 KC han hkn fu UF ht SY WZ hui
  go_upto_region 11 with fail
  have BA : Hid (Below w6.heap.size w6 (w6.alloc (Obj.cells #[.int .i64 u.id, .int .i64 u.player, .int .i64 u.kind, .int .i64 u.at_, .int .i64 u.life, .int .i64 u.load, .int .i64 u.task, .int .i64 u.goal] 38))) := (Below.refl _ _).alloc (Nat.le_refl _) _
  obtain ⟨bu, hbu⟩ : ∃ z, w6.heap.size = z := ⟨_, rfl⟩
  have U7 : Hid (Unc (w6.alloc (Obj.cells #[.int .i64 u.id, .int .i64 u.player, .int .i64 u.kind, .int .i64 u.at_, .int .i64 u.life, .int .i64 u.load, .int .i64 u.task, .int .i64 u.goal] 38)) ⟨bu, 0, none⟩ u) := Unc.mk' u hbu
  rw [hbu]
  generalize (w6.alloc (Obj.cells #[.int .i64 u.id, .int .i64 u.player, .int .i64 u.kind, .int .i64 u.at_, .int .i64 u.life, .int .i64 u.load, .int .i64 u.task, .int .i64 u.goal] 38)) = w7 at *
  have B7 : Hid (Below w.heap.size w w7) := B6.out.trans (BA.out.mono B6.out.size)
  have X7 : Hid (Bw w7 w.heap.size X (.slice p1 X.gs.length q1) (.slice p2 X.os.length q2) (.slice p3 X.gold.length q3) (.slice (some xu) X.us.length q4) (.slice p5 X.qs.length q5)) := X6.out.below BA.out X6.out.lt
  clear y0 y1 y2 y3 y4 y5 y6 y7 x0 x1 x2 x3 x4 x5 x6 x7 x8 hbu BA B6 X6
  have x2 := X7.out.c2
  rw [GD.out.1] at x2
  go_upto_region 14 with fail
  clear x2
  go_loopw [15, 16] (fun v15 v16 V => ∃ (n : Nat) (least : Int), v16 = .int .i64 (n : Nat) ∧ v15 = .int .i64 least ∧ n ≤ X.us.length ∧ LeastU Wn u (X.us.take n) least ∧ Below w7.heap.size w7 V) (fun _ v16 _ => X.us.length - (intOf v16).toNat)
  case atStart => exact ⟨0, -1, rfl, rfl, Nat.zero_le _, .inl ⟨rfl, by simp⟩, Below.refl _ _⟩
  case round =>
    obtain ⟨n, least, rfl, rfl, hn, hL, hB⟩ := hrel
    have LS : Hid (LeastU Wn u (X.us.take n) least) := hL
    have BR : Hid (Below w7.heap.size w7 wr) := hB
    have BB : Hid (Below w.heap.size w wr) := B7.out.trans (hB.mono B7.out.size)
    have XR : Hid (Bw wr w.heap.size X (.slice p1 X.gs.length q1) (.slice p2 X.os.length q2) (.slice p3 X.gold.length q3) (.slice (some xu) X.us.length q4) (.slice p5 X.qs.length q5)) := X7.out.below hB X7.out.lt
    have UR : Hid (Unc wr ⟨bu, 0, none⟩ u) := U7.out.below hB U7.out.lt
    obtain ⟨lm, lM⟩ := hL.ge
    clear hL hB
    have x7 := XR.out.c7
    have z2 := (KK.out.1.below BB.out KK.out.2).c2
    have z3 := (KK.out.1.below BB.out KK.out.2).c3
    have u2 : wr.cell? ⟨bu, 2, none⟩ = some (.int .i64 (kn : Nat)) := by have := UR.out.c2; rw [Nat.zero_add, GD.out.2.2.2.2.2] at this; exact this
    by_cases h0 : n = X.us.length
    · subst h0
      have LA : Hid (LeastU Wn u X.us least) := by have := LS.out; rw [List.take_of_length_le (Nat.le_refl _)] at this; exact this
      clear LS
      have hnl : ¬ (((X.us.length : Nat) : Int) < (X.us.length : Nat)) := by omega
      rcases TW.out with ⟨rfl, hno⟩ | ⟨hn1, tn, x, f0, tl, rfl, hx, hfo, hm⟩
      · have ND := near_none LA.out hno
        clear hno
        by_cases a1 : k.n1 = 0
        · rw [a1] at z2
          go_wp2
          go_ret
          exact ⟨rfl, BB.out⟩
        have a1' : (k.n1 == 0) = false := by rw [beq_eq_false_iff_ne]; exact a1
        by_cases a2 : least < 0
        · go_wp2
          go_ret
          exact ⟨rfl, BB.out⟩
        have a3 : k.n2 < least := by omega
        go_wp2
        go_ret
        exact ⟨rfl, BB.out⟩
      · have LL : Hid (∀ x ∈ X.us, 0 ≤ x.life ∧ x.life ≤ 1000000) := fun x hx => (FT.out x hx).2
        have FE := near_some LA.out LL.out hfo
        rw [← hm] at FE
        have XF := (FT.out x (List.mem_of_getElem? hx)).1
        obtain ⟨cn, hcn⟩ : ∃ n : Nat, x.at_ = n := ⟨x.at_.toNat, by have := XF.1; omega⟩
        have FN : Hid (farN Wn an cn = least) := by unfold Hid; rw [← FE]; unfold farU; rw [GD.out.2.2.2.1, hcn]; rfl
        have hcl : cn ≤ 144 := by have := XF.2; omega
        have hk1 : 0 < k.n1 := by have := KF.out; omega
        have htl : tn < X.us.length := (List.getElem?_eq_some_iff.1 hx).1
        have CN : Hid (x.at_ = (cn : Nat)) := hcn
        obtain ⟨y0, y1, y2, y3, y4, y5, y6, y7⟩ := (UC.out tn x hx).below BB.out (by rw [add_block]; exact UL.out)
        clear hfo hm hx FE XF hcn
        go_upto_region 27 with fail
        have BA : Hid (Below wr.heap.size wr (wr.alloc (Obj.cells #[.int .i64 x.id, .int .i64 x.player, .int .i64 x.kind, .int .i64 x.at_, .int .i64 x.life, .int .i64 x.load, .int .i64 x.task, .int .i64 x.goal] 38))) := (Below.refl _ _).alloc (Nat.le_refl _) _
        obtain ⟨bx, hbx⟩ : ∃ z, wr.heap.size = z := ⟨_, rfl⟩
        have Q8 : Hid (Unc (wr.alloc (Obj.cells #[.int .i64 x.id, .int .i64 x.player, .int .i64 x.kind, .int .i64 x.at_, .int .i64 x.life, .int .i64 x.load, .int .i64 x.task, .int .i64 x.goal] 38)) ⟨bx, 0, none⟩ x) := Unc.mk' x hbx
        rw [hbx]
        generalize (wr.alloc (Obj.cells #[.int .i64 x.id, .int .i64 x.player, .int .i64 x.kind, .int .i64 x.at_, .int .i64 x.life, .int .i64 x.load, .int .i64 x.task, .int .i64 x.goal] 38)) = w8 at *
        have B8 : Hid (Below w.heap.size w w8) := BB.out.trans (BA.out.mono BB.out.size)
        have U8 : Hid (Unc w8 ⟨bu, 0, none⟩ u) := UR.out.below BA.out UR.out.lt
        clear y0 y1 y2 y3 y4 y5 y6 y7 x7 z2 z3 u2 hbx BA
        have q3 : w8.cell? ⟨bx, 3, none⟩ = some (.int .i64 (cn : Nat)) := by have := Q8.out.c3; rw [Nat.zero_add, CN.out] at this; exact this
        have u3 : w8.cell? ⟨bu, 3, none⟩ = some (.int .i64 (an : Nat)) := by have := U8.out.c3; rw [Nat.zero_add, GD.out.2.2.2.1] at this; exact this
        have hal : an ≤ 144 := GD.out.2.2.2.2.1
        have hw : ¬ (Wn : Int) = 0 := by have := GD.out.2.1; omega
        obtain ⟨ca, hca⟩ : ∃ m, an % Wn = m := ⟨_, rfl⟩
        obtain ⟨ra, hra⟩ : ∃ m, an / Wn = m := ⟨_, rfl⟩
        have eca : ((an : Nat) : Int) % (Wn : Int) = (ca : Nat) := by rw [← hca]; rfl
        have era : ((an : Nat) : Int) / (Wn : Int) = (ra : Nat) := by rw [← hra]; rfl
        have lra : ra ≤ 144 := by rw [← hra]; exact Nat.le_trans (Nat.div_le_self _ _) (by omega)
        obtain ⟨cb, hcb⟩ : ∃ m, cn % Wn = m := ⟨_, rfl⟩
        obtain ⟨rb, hrb⟩ : ∃ m, cn / Wn = m := ⟨_, rfl⟩
        have ecb : ((cn : Nat) : Int) % (Wn : Int) = (cb : Nat) := by rw [← hcb]; rfl
        have erb : ((cn : Nat) : Int) / (Wn : Int) = (rb : Nat) := by rw [← hrb]; rfl
        have lrb : rb ≤ 144 := by rw [← hrb]; exact Nat.le_trans (Nat.div_le_self _ _) (by omega)
        have FO : Hid (∀ W, Calls Try.prog 9 #[.int .i64 (ca : Nat), .int .i64 (ra : Nat), .int .i64 (cb : Nat), .int .i64 (rb : Nat)] W fun e w' => e = .returned (.tuple #[.int .i64 least, .nilIface]) ∧ w' = W) := fun W => by
          have := far_cells Wn an cn ca ra cb rb GD.out.2.1 GD.out.2.2.1 hal hcl hca hra hcb hrb W
          rw [FN.out] at this
          exact this
        clear hca hra hcb hrb
        have z2 := (KK.out.1.below B8.out KK.out.2).c2
        have u2 : w8.cell? ⟨bu, 2, none⟩ = some (.int .i64 (kn : Nat)) := by have := U8.out.c2; rw [Nat.zero_add, GD.out.2.2.2.2.2] at this; exact this
        go_quiet ((go_at_call 9; exact Calls.quiet_of_same (FO.out _)))
        clear q3 u3 eca era ecb erb
        go_wp2
        go_ret
        exact ⟨rfl, ⟨B8.out.os, B8.out.tape, B8.out.output, B8.out.size, B8.out.block⟩⟩
    · have hnl : n < X.us.length := by omega
      have hni : ((n : Nat) : Int) < (X.us.length : Nat) := by omega
      obtain ⟨x, hx⟩ : ∃ x, X.us[n]? = some x := ⟨_, List.getElem?_eq_getElem hnl⟩
      have HX : Hid (X.us[n]? = some x) := hx
      have XF := (FT.out x (List.mem_of_getElem? hx)).1
      obtain ⟨cn, hcn⟩ : ∃ n : Nat, x.at_ = n := ⟨x.at_.toNat, by have := XF.1; omega⟩
      have hcl : cn ≤ 144 := by have := XF.2; omega
      have CN : Hid (x.at_ = (cn : Nat)) := hcn
      obtain ⟨f, hf⟩ : ∃ f, farN Wn an cn = f := ⟨_, rfl⟩
      have FU : Hid (farU Wn u x = f) := by unfold Hid farU; rw [GD.out.2.2.2.1, hcn]; exact hf
      have TK : Hid (X.us.take (n + 1) = X.us.take n ++ [x]) := by
        unfold Hid
        rw [List.take_succ_eq_append_getElem hnl]
        rw [(List.getElem?_eq_some_iff.1 hx).2]
      have WN : IntKind.i64.wrap ((n : Nat) + 1 : Int) = ((n : Nat) : Int) + 1 := by rw [IntKind.wrap_i64]; omega
      -- who is struck is no friend, and near
      have TN : Hid ((n : Int) = c → x.player ≠ u.player ∧ f ≤ k.n2) := fun hc => by
        rcases TW.out with ⟨rfl, -⟩ | ⟨-, tn, y, f0, tl, rfl, hy, hfo, hm⟩
        · omega
        · obtain rfl : n = tn := by omega
          rw [HX.out] at hy
          injection hy with hy
          have hm' := minU_mem (keyU Wn u) tl f0
          rw [← hfo, ← hm, ← hy] at hm'
          have := (foe_iff.1 hm').2
          rw [FU.out] at this
          exact this
      obtain ⟨y0, y1, y2, y3, y4, y5, y6, y7⟩ := (UC.out n x hx).below BB.out (by rw [add_block]; exact UL.out)
      clear hx XF hcn
      go_upto_region 17 with fail
      have BA : Hid (Below wr.heap.size wr (wr.alloc (Obj.cells #[.int .i64 x.id, .int .i64 x.player, .int .i64 x.kind, .int .i64 x.at_, .int .i64 x.life, .int .i64 x.load, .int .i64 x.task, .int .i64 x.goal] 38))) := (Below.refl _ _).alloc (Nat.le_refl _) _
      obtain ⟨bx, hbx⟩ : ∃ z, wr.heap.size = z := ⟨_, rfl⟩
      have Q8 : Hid (Unc (wr.alloc (Obj.cells #[.int .i64 x.id, .int .i64 x.player, .int .i64 x.kind, .int .i64 x.at_, .int .i64 x.life, .int .i64 x.load, .int .i64 x.task, .int .i64 x.goal] 38)) ⟨bx, 0, none⟩ x) := Unc.mk' x hbx
      rw [hbx]
      generalize (wr.alloc (Obj.cells #[.int .i64 x.id, .int .i64 x.player, .int .i64 x.kind, .int .i64 x.at_, .int .i64 x.life, .int .i64 x.load, .int .i64 x.task, .int .i64 x.goal] 38)) = w8 at *
      have B8 : Hid (Below w.heap.size w w8) := BB.out.trans (BA.out.mono BB.out.size)
      have R8 : Hid (Below w7.heap.size w7 w8) := BR.out.trans (BA.out.mono BR.out.size)
      have U8 : Hid (Unc w8 ⟨bu, 0, none⟩ u) := UR.out.below BA.out UR.out.lt
      clear y0 y1 y2 y3 y4 y5 y6 y7 x7 z2 z3 u2 hbx BA BR BB UR XR
      have q3 : w8.cell? ⟨bx, 3, none⟩ = some (.int .i64 (cn : Nat)) := by have := Q8.out.c3; rw [Nat.zero_add, CN.out] at this; exact this
      have u3 : w8.cell? ⟨bu, 3, none⟩ = some (.int .i64 (an : Nat)) := by have := U8.out.c3; rw [Nat.zero_add, GD.out.2.2.2.1] at this; exact this
      have hal : an ≤ 144 := GD.out.2.2.2.2.1
      have hw : ¬ (Wn : Int) = 0 := by have := GD.out.2.1; omega
      obtain ⟨ca, hca⟩ : ∃ m, an % Wn = m := ⟨_, rfl⟩
      obtain ⟨ra, hra⟩ : ∃ m, an / Wn = m := ⟨_, rfl⟩
      have eca : ((an : Nat) : Int) % (Wn : Int) = (ca : Nat) := by rw [← hca]; rfl
      have era : ((an : Nat) : Int) / (Wn : Int) = (ra : Nat) := by rw [← hra]; rfl
      have lra : ra ≤ 144 := by rw [← hra]; exact Nat.le_trans (Nat.div_le_self _ _) (by omega)
      obtain ⟨cb, hcb⟩ : ∃ m, cn % Wn = m := ⟨_, rfl⟩
      obtain ⟨rb, hrb⟩ : ∃ m, cn / Wn = m := ⟨_, rfl⟩
      have ecb : ((cn : Nat) : Int) % (Wn : Int) = (cb : Nat) := by rw [← hcb]; rfl
      have erb : ((cn : Nat) : Int) / (Wn : Int) = (rb : Nat) := by rw [← hrb]; rfl
      have lrb : rb ≤ 144 := by rw [← hrb]; exact Nat.le_trans (Nat.div_le_self _ _) (by omega)
      have FO : Hid (∀ W, Calls Try.prog 9 #[.int .i64 (ca : Nat), .int .i64 (ra : Nat), .int .i64 (cb : Nat), .int .i64 (rb : Nat)] W fun e w' => e = .returned (.tuple #[.int .i64 f, .nilIface]) ∧ w' = W) := fun W => by
        have := far_cells Wn an cn ca ra cb rb GD.out.2.1 GD.out.2.2.1 hal hcl hca hra hcb hrb W
        rw [hf] at this
        exact this
      clear hca hra hcb hrb hf
      have z3 := (KK.out.1.below B8.out KK.out.2).c3
      have u2 : w8.cell? ⟨bu, 2, none⟩ = some (.int .i64 (kn : Nat)) := by have := U8.out.c2; rw [Nat.zero_add, GD.out.2.2.2.2.2] at this; exact this
      have u1 : w8.cell? ⟨bu, 1, none⟩ = some (.int .i64 u.player) := by have := U8.out.c1; rw [Nat.zero_add] at this; exact this
      have q1 : w8.cell? ⟨bx, 1, none⟩ = some (.int .i64 x.player) := by have := Q8.out.c1; rw [Nat.zero_add] at this; exact this
      go_quiet ((go_at_call 9; exact Calls.quiet_of_same (FO.out _)))
      clear q3 u3 eca era ecb erb FO
      obtain ⟨px, hpx⟩ : ∃ p, x.player = p := ⟨_, rfl⟩
      obtain ⟨pu, hpu⟩ : ∃ p, u.player = p := ⟨_, rfl⟩
      have PP : Hid (x.player = px ∧ u.player = pu) := ⟨hpx, hpu⟩
      rw [hpx] at q1
      rw [hpu] at u1
      clear hpx hpu
      have ST : Hid (px = pu → LeastU Wn u (X.us.take (n + 1)) least) := fun h => by rw [TK.out]; exact LS.out.own (by rw [PP.out.1, PP.out.2]; exact h)
      have SN : Hid (px ≠ pu → (least < 0 ∨ f < least) → LeastU Wn u (X.us.take (n + 1)) f) := fun h h' => by rw [TK.out, ← FU.out]; exact LS.out.new (by rw [PP.out.1, PP.out.2]; exact h) (by rw [FU.out]; exact h')
      have SK' : Hid (¬ least < 0 → ¬ f < least → LeastU Wn u (X.us.take (n + 1)) least) := fun h h' => by rw [TK.out]; exact LS.out.keep h (by rw [FU.out]; exact h')
      have TM : Hid ((n : Int) = c → px ≠ pu ∧ f ≤ k.n2) := fun h => by have := TN.out h; rw [PP.out.1, PP.out.2] at this; exact this
      clear TN TK FU CN HX PP
      by_cases hp : px = pu
      · subst hp
        have hnc : (((n : Nat) : Int) == c) = false := by rw [beq_eq_false_iff_ne]; intro h; exact (TM.out h).1 rfl
        go_wp2
        go_round
        case rel => exact ⟨n + 1, least, by go_num, rfl, by omega, ST.out rfl, ⟨R8.out.os, R8.out.tape, R8.out.output, R8.out.size, R8.out.block⟩⟩
        case measure => simp [intOf]; omega
      · have hp' : (px == pu) = false := by rw [beq_eq_false_iff_ne]; exact hp
        by_cases hc : (n : Int) = c
        · have hfk : ¬ k.n2 < f := by have := (TM.out hc).2; omega
          subst hc
          by_cases hl0 : least < 0
          · go_wp2
            go_round
            case rel => exact ⟨n + 1, f, by go_num, rfl, by omega, SN.out hp (.inl hl0), ⟨R8.out.os, R8.out.tape, R8.out.output, R8.out.size, R8.out.block⟩⟩
            case measure => simp [intOf]; omega
          · by_cases hl1 : f < least
            · go_wp2
              go_round
              case rel => exact ⟨n + 1, f, by go_num, rfl, by omega, SN.out hp (.inr hl1), ⟨R8.out.os, R8.out.tape, R8.out.output, R8.out.size, R8.out.block⟩⟩
              case measure => simp [intOf]; omega
            · go_wp2
              go_round
              case rel => exact ⟨n + 1, least, by go_num, rfl, by omega, SK'.out hl0 hl1, ⟨R8.out.os, R8.out.tape, R8.out.output, R8.out.size, R8.out.block⟩⟩
              case measure => simp [intOf]; omega
        · have hnc : (((n : Nat) : Int) == c) = false := by rw [beq_eq_false_iff_ne]; exact hc
          by_cases hl0 : least < 0
          · go_wp2
            go_round
            case rel => exact ⟨n + 1, f, by go_num, rfl, by omega, SN.out hp (.inl hl0), ⟨R8.out.os, R8.out.tape, R8.out.output, R8.out.size, R8.out.block⟩⟩
            case measure => simp [intOf]; omega
          · by_cases hl1 : f < least
            · go_wp2
              go_round
              case rel => exact ⟨n + 1, f, by go_num, rfl, by omega, SN.out hp (.inr hl1), ⟨R8.out.os, R8.out.tape, R8.out.output, R8.out.size, R8.out.block⟩⟩
              case measure => simp [intOf]; omega
            · go_wp2
              go_round
              case rel => exact ⟨n + 1, least, by go_num, rfl, by omega, SK'.out hl0 hl1, ⟨R8.out.os, R8.out.tape, R8.out.output, R8.out.size, R8.out.block⟩⟩
              case measure => simp [intOf]; omega
end Go.Proofs.Ytplnhgllbhdfjaa.fightNear

