/- What a walk is told of worlds and bytes that came in. · What a walk is told of kinds that came in. · SightSees: the walk. -/
import Derived.Test.YtagnjmellcibhaaZSightSees3
import Derived.Test.YtagnjmellcibhaaZSightSees1
import Derived.Deep.SlicePairs
import Derived.ChangeArms
import Derived.ProofKit
import Derived.OpenShut
import Derived.Test.YtagnjmellcibhaaZSightSees5
import Derived.Test.YtagnjmellcibhaaZSightSees7
namespace Go.Proofs.Ytagnjmellcibhaa
open Go.ChangeShapes Go.WideShapes Go.ChangeAt Go.RowKit
set_option linter.unusedVariables false

theorem in64_of_wf {n : Int} (h : (Lit.int .i64 n).wf = true) : Wd.In64 n := by
  unfold Wd.In64
  simp only [Lit.wf, Bool.and_eq_true, decide_eq_true_eq] at h
  have h1 : IntKind.i64.min = -9223372036854775808 := by decide
  have h2 : IntKind.i64.max = 9223372036854775807 := by decide
  omega
theorem byte_of_wf {n : Int} (h : (Lit.int .u8 n).wf = true) : 0 ≤ n ∧ n < 256 := by
  simp only [Lit.wf, Bool.and_eq_true, decide_eq_true_eq] at h
  have h1 : IntKind.u8.min = 0 := by decide
  have h2 : IntKind.u8.max = 255 := by decide
  omega
theorem bulk_pos {H : Type} : ∀ d : DataW H, 1 ≤ Rows.uptoBulk d
  | .lit (.string bytes) => by simp [Rows.uptoBulk]
  | .lit (.int _ _) => by simp [Rows.uptoBulk]
  | .lit (.bool _) => by simp [Rows.uptoBulk]
  | .lit (.float .f32 _) => by simp [Rows.uptoBulk]
  | .lit (.float .f64 _) => by simp [Rows.uptoBulk]
  | .lit .nil => by simp [Rows.uptoBulk]
  | .nil => by simp [Rows.uptoBulk]
  | .ptr d => by simp [Rows.uptoBulk]
  | .slice _ _ => by simp [Rows.uptoBulk]
  | .agg _ => by simp [Rows.uptoBulk]
  | .iface _ _ => by simp [Rows.uptoBulk]
  | .map _ => by simp [Rows.uptoBulk]
  | .held _ => by simp [Rows.uptoBulk]
theorem bulk_len {H : Type} : ∀ ds : List (DataW H), ds.length ≤ Rows.uptoBulkAll ds
  | [] => by simp
  | d :: ds => by
    have h1 := bulk_pos d
    have h2 := bulk_len ds
    simp only [Rows.uptoBulkAll, List.length_cons]
    omega
theorem bulk_slice {H : Type} (es sp : List (DataW H)) : es.length ≤ Rows.uptoBulk (.slice es sp) := by
  have := bulk_len es
  simp only [Rows.uptoBulk]
  omega

set_option maxRecDepth 100000 in
theorem open_row64 {H : Type} {enc : TypeId × Value → H} {W : World} {base : Nat} {held : Bool} {fuel : Nat} {v : Value} {y : DataW H × List MemPlace} (h : DataW.trod enc Try.prog W base (fun _ => true) held fuel 23 [v] = some y) :
    ∃ zs, Ro W v zs ∧ (∀ n ∈ zs, Wd.In64 n) ∧ zs.length ≤ Rows.uptoBulk y.1 := by
  rcases open_ints Try.underlying23 Try.underlying3 (by kernel_rfl) h with ⟨hcs, rfl⟩ | ⟨x, l, c, zs, hcs, _, hl, hm, hz, rfl, hcell, hwz⟩
  · simp at hcs
    subst hcs
    exact ⟨_, IsRow.ro (.inl ⟨rfl, rfl, rfl, rfl⟩), by simp, by simp⟩
  · simp at hcs
    subst hcs
    refine ⟨_, IsRow.ro (zs := zs) (.inr ⟨_, rfl, hl, hm, by simpa using hz, hcell, hwz⟩), fun n hn => in64_of_wf (hwz n (List.mem_of_mem_take hn)), ?_⟩
    have := bulk_slice (H := H) (lits .i64 (zs.take l)) (lits .i64 (zs.drop l))
    simpa [lits] using this
theorem un_flds : ∃ f0 f1 f2 f3 f4 f5 f6 f7 : Field, Try.prog.underlying 41 = some (.struct #[f0, f1, f2, f3, f4, f5, f6, f7]) ∧ f0.offset = 0 ∧ f0.type = 3 ∧ f1.offset = 1 ∧ f1.type = 3 ∧ f2.offset = 2 ∧ f2.type = 3 ∧ f3.offset = 3 ∧ f3.type = 3 ∧ f4.offset = 4 ∧ f4.type = 3 ∧ f5.offset = 5 ∧ f5.type = 3 ∧ f6.offset = 6 ∧ f6.type = 3 ∧ f7.offset = 7 ∧ f7.type = 3 := ⟨_, _, _, _, _, _, _, _, Try.underlying41, rfl, rfl, rfl, rfl, rfl, rfl, rfl, rfl, rfl, rfl, rfl, rfl, rfl, rfl, rfl, rfl⟩
set_option maxRecDepth 100000 in
theorem open_un64 {H : Type} {enc : TypeId × Value → H} {W : World} {base : Nat} {held : Bool} {fuel : Nat} {cs : List Value} {y : DataW H × List MemPlace} (h : DataW.trod enc Try.prog W base (fun _ => true) held fuel 41 cs = some y) :
    ∃ k : UnV, cs = [.int .i64 k.id, .int .i64 k.player, .int .i64 k.kind, .int .i64 k.at_, .int .i64 k.life, .int .i64 k.load, .int .i64 k.task, .int .i64 k.goal] ∧ ∀ n ∈ Wd.unums k, Wd.In64 n := by
  obtain ⟨f0, f1, f2, f3, f4, f5, f6, f7, he, o0, t0, o1, t1, o2, t2, o3, t3, o4, t4, o5, t5, o6, t6, o7, t7⟩ := un_flds
  obtain ⟨xs, m, -, -, hlen, hxl, hf⟩ := DataW.trod_struct he h
  have csi : Try.prog.cellsOf 3 = 1 := by kernel_rfl
  have csk : Try.prog.cellsOf 41 = 8 := by kernel_rfl
  rw [csk] at hlen
  match cs, hlen with
  | [v0, v1, v2, v3, v4, v5, v6, v7], _ =>
    have hx : xs.length = 8 := hxl
    match xs, hx with
    | [x0, x1, x2, x3, x4, x5, x6, x7], _ =>
      have g0 := hf 0 f0 rfl
      rw [o0, t0, csi] at g0
      have g1 := hf 1 f1 rfl
      rw [o1, t1, csi] at g1
      have g2 := hf 2 f2 rfl
      rw [o2, t2, csi] at g2
      have g3 := hf 3 f3 rfl
      rw [o3, t3, csi] at g3
      have g4 := hf 4 f4 rfl
      rw [o4, t4, csi] at g4
      have g5 := hf 5 f5 rfl
      rw [o5, t5, csi] at g5
      have g6 := hf 6 f6 rfl
      rw [o6, t6, csi] at g6
      have g7 := hf 7 f7 rfl
      rw [o7, t7, csi] at g7
      obtain ⟨m0, e0, -, w0⟩ := DataW.trod_int Try.underlying3 g0
      obtain ⟨m1, e1, -, w1⟩ := DataW.trod_int Try.underlying3 g1
      obtain ⟨m2, e2, -, w2⟩ := DataW.trod_int Try.underlying3 g2
      obtain ⟨m3, e3, -, w3⟩ := DataW.trod_int Try.underlying3 g3
      obtain ⟨m4, e4, -, w4⟩ := DataW.trod_int Try.underlying3 g4
      obtain ⟨m5, e5, -, w5⟩ := DataW.trod_int Try.underlying3 g5
      obtain ⟨m6, e6, -, w6⟩ := DataW.trod_int Try.underlying3 g6
      obtain ⟨m7, e7, -, w7⟩ := DataW.trod_int Try.underlying3 g7
      simp at e0 e1 e2 e3 e4 e5 e6 e7
      subst e0 e1 e2 e3 e4 e5 e6 e7
      refine ⟨⟨m0, m1, m2, m3, m4, m5, m6, m7⟩, rfl, ?_⟩
      intro n hn
      simp only [Wd.unums, List.mem_cons, List.not_mem_nil, or_false] at hn
      rcases hn with rfl | rfl | rfl | rfl | rfl | rfl | rfl | rfl
      · exact in64_of_wf w0
      · exact in64_of_wf w1
      · exact in64_of_wf w2
      · exact in64_of_wf w3
      · exact in64_of_wf w4
      · exact in64_of_wf w5
      · exact in64_of_wf w6
      · exact in64_of_wf w7
theorem open_uns64 {H : Type} {enc : TypeId × Value → H} {W : World} {base : Nat} {held : Bool} {fuel : Nat} {v : Value} {y : DataW H × List MemPlace} (h : DataW.trod enc Try.prog W base (fun _ => true) held fuel 26 [v] = some y) :
    ∃ ks : List UnV, Unl W v ks ∧ (∀ k ∈ ks, ∀ n ∈ Wd.unums k, Wd.In64 n) ∧ ks.length ≤ Rows.uptoBulk y.1 := by
  have csk : Try.prog.cellsOf 41 = 8 := by kernel_rfl
  rcases Go.Deep.open_slice Try.underlying26 h with ⟨hcs, -⟩ | ⟨a, len, cap, m, q, D, Pl, hcs, hb, hl, hm, hmm, rfl, hx⟩
  · simp at hcs
    subst hcs
    exact ⟨[], ⟨none, 0, rfl, Nat.le_refl _, by omega, fun h => absurd rfl h⟩, by simp, by simp⟩
  · simp at hcs
    subst hcs
    have hlm : len ≤ m := by rw [hmm]; simp; exact hl
    have each : ∀ i, i < len → ∃ k : UnV, Unc W (a.add (i * 8)) k ∧ (∀ n ∈ Wd.unums k, Wd.In64 n) := by
      intro i hi
      obtain ⟨cs', h1, h2⟩ := hx i (by omega)
      obtain ⟨k, rfl, hk⟩ := open_un64 h2
      rw [csk] at h1
      obtain ⟨-, -, hcell⟩ := World.cells?_some h1
      refine ⟨k, ?_, hk⟩
      generalize a.add (i * 8) = y at *
      exact ⟨hcell 0 (by decide), hcell 1 (by decide), hcell 2 (by decide), hcell 3 (by decide), hcell 4 (by decide), hcell 5 (by decide), hcell 6 (by decide), hcell 7 (by decide)⟩
    have inh : Inhabited UnV := ⟨⟨0, 0, 0, 0, 0, 0, 0, 0⟩⟩
    obtain ⟨q, hq⟩ := Go.Deep.choose_lt each
    refine ⟨(List.range len).map q, ⟨some a, cap, by simp, by simpa using hl, by unfold maxLen at hm; omega, fun hn => ⟨a, rfl, ?_, fun i k hk => ?_⟩⟩, ?_, ?_⟩
    · have h0 : 0 < len := by
        rcases Nat.eq_zero_or_pos len with h | h
        · subst h; simp at hn
        · exact h
      have := (hq 0 h0).1.lt
      rwa [add_block] at this
    · have hi : i < len := by
        have := (List.getElem?_eq_some_iff.1 hk).1
        simpa using this
      rw [List.getElem?_map, List.getElem?_range hi] at hk
      injection hk with hk
      subst hk
      exact (hq i hi).1
    · intro k hk
      obtain ⟨i, hi, rfl⟩ := List.mem_map.1 hk
      exact (hq i (List.mem_range.1 hi)).2
    · have := bulk_slice ((List.range len).map D) ((List.range (m - len)).map fun j => D (len + j))
      simpa using this
theorem jb_flds : ∃ f0 f1 f2 f3 : Field, Try.prog.underlying 64 = some (.struct #[f0, f1, f2, f3]) ∧ f0.offset = 0 ∧ f0.type = 3 ∧ f1.offset = 1 ∧ f1.type = 3 ∧ f2.offset = 2 ∧ f2.type = 3 ∧ f3.offset = 3 ∧ f3.type = 3 := ⟨_, _, _, _, Try.underlying64, rfl, rfl, rfl, rfl, rfl, rfl, rfl, rfl⟩
set_option maxRecDepth 100000 in
theorem open_jb64 {H : Type} {enc : TypeId × Value → H} {W : World} {base : Nat} {held : Bool} {fuel : Nat} {cs : List Value} {y : DataW H × List MemPlace} (h : DataW.trod enc Try.prog W base (fun _ => true) held fuel 64 cs = some y) :
    ∃ k : JbV, cs = [.int .i64 k.player, .int .i64 k.unit, .int .i64 k.kind, .int .i64 k.left] ∧ ∀ n ∈ Wd.jnums k, Wd.In64 n := by
  obtain ⟨f0, f1, f2, f3, he, o0, t0, o1, t1, o2, t2, o3, t3⟩ := jb_flds
  obtain ⟨xs, m, -, -, hlen, hxl, hf⟩ := DataW.trod_struct he h
  have csi : Try.prog.cellsOf 3 = 1 := by kernel_rfl
  have csk : Try.prog.cellsOf 64 = 4 := by kernel_rfl
  rw [csk] at hlen
  match cs, hlen with
  | [v0, v1, v2, v3], _ =>
    have hx : xs.length = 4 := hxl
    match xs, hx with
    | [x0, x1, x2, x3], _ =>
      have g0 := hf 0 f0 rfl
      rw [o0, t0, csi] at g0
      have g1 := hf 1 f1 rfl
      rw [o1, t1, csi] at g1
      have g2 := hf 2 f2 rfl
      rw [o2, t2, csi] at g2
      have g3 := hf 3 f3 rfl
      rw [o3, t3, csi] at g3
      obtain ⟨m0, e0, -, w0⟩ := DataW.trod_int Try.underlying3 g0
      obtain ⟨m1, e1, -, w1⟩ := DataW.trod_int Try.underlying3 g1
      obtain ⟨m2, e2, -, w2⟩ := DataW.trod_int Try.underlying3 g2
      obtain ⟨m3, e3, -, w3⟩ := DataW.trod_int Try.underlying3 g3
      simp at e0 e1 e2 e3
      subst e0 e1 e2 e3
      refine ⟨⟨m0, m1, m2, m3⟩, rfl, ?_⟩
      intro n hn
      simp only [Wd.jnums, List.mem_cons, List.not_mem_nil, or_false] at hn
      rcases hn with rfl | rfl | rfl | rfl
      · exact in64_of_wf w0
      · exact in64_of_wf w1
      · exact in64_of_wf w2
      · exact in64_of_wf w3
theorem open_jbs64 {H : Type} {enc : TypeId × Value → H} {W : World} {base : Nat} {held : Bool} {fuel : Nat} {v : Value} {y : DataW H × List MemPlace} (h : DataW.trod enc Try.prog W base (fun _ => true) held fuel 27 [v] = some y) :
    ∃ ks : List JbV, Jbl W v ks ∧ (∀ k ∈ ks, ∀ n ∈ Wd.jnums k, Wd.In64 n) ∧ ks.length ≤ Rows.uptoBulk y.1 := by
  have csk : Try.prog.cellsOf 64 = 4 := by kernel_rfl
  rcases Go.Deep.open_slice Try.underlying27 h with ⟨hcs, -⟩ | ⟨a, len, cap, m, q, D, Pl, hcs, hb, hl, hm, hmm, rfl, hx⟩
  · simp at hcs
    subst hcs
    exact ⟨[], ⟨none, 0, rfl, Nat.le_refl _, by omega, fun h => absurd rfl h⟩, by simp, by simp⟩
  · simp at hcs
    subst hcs
    have hlm : len ≤ m := by rw [hmm]; simp; exact hl
    have each : ∀ i, i < len → ∃ k : JbV, Jbc W (a.add (i * 4)) k ∧ (∀ n ∈ Wd.jnums k, Wd.In64 n) := by
      intro i hi
      obtain ⟨cs', h1, h2⟩ := hx i (by omega)
      obtain ⟨k, rfl, hk⟩ := open_jb64 h2
      rw [csk] at h1
      obtain ⟨-, -, hcell⟩ := World.cells?_some h1
      refine ⟨k, ?_, hk⟩
      generalize a.add (i * 4) = y at *
      exact ⟨hcell 0 (by decide), hcell 1 (by decide), hcell 2 (by decide), hcell 3 (by decide)⟩
    have inh : Inhabited JbV := ⟨⟨0, 0, 0, 0⟩⟩
    obtain ⟨q, hq⟩ := Go.Deep.choose_lt each
    refine ⟨(List.range len).map q, ⟨some a, cap, by simp, by simpa using hl, by unfold maxLen at hm; omega, fun hn => ⟨a, rfl, ?_, fun i k hk => ?_⟩⟩, ?_, ?_⟩
    · have h0 : 0 < len := by
        rcases Nat.eq_zero_or_pos len with h | h
        · subst h; simp at hn
        · exact h
      have := (hq 0 h0).1.lt
      rwa [add_block] at this
    · have hi : i < len := by
        have := (List.getElem?_eq_some_iff.1 hk).1
        simpa using this
      rw [List.getElem?_map, List.getElem?_range hi] at hk
      injection hk with hk
      subst hk
      exact (hq i hi).1
    · intro k hk
      obtain ⟨i, hi, rfl⟩ := List.mem_map.1 hk
      exact (hq i (List.mem_range.1 hi)).2
    · have := bulk_slice ((List.range len).map D) ((List.range (m - len)).map fun j => D (len + j))
      simpa using this
theorem world_flds : ∃ f0 f1 f2 f3 f4 f5 : Field, Try.prog.underlying 29 = some (.struct #[f0, f1, f2, f3, f4, f5]) ∧ f0.offset = 0 ∧ f0.type = 3 ∧ f1.offset = 1 ∧ f1.type = 3 ∧ f2.offset = 2 ∧ f2.type = 25 ∧ f3.offset = 6 ∧ f3.type = 23 ∧ f4.offset = 7 ∧ f4.type = 26 ∧ f5.offset = 8 ∧ f5.type = 27 := ⟨_, _, _, _, _, _, Try.underlying29, rfl, rfl, rfl, rfl, rfl, rfl, rfl, rfl, rfl, rfl, rfl, rfl⟩
theorem field_flds : ∃ f0 f1 f2 f3 : Field, Try.prog.underlying 25 = some (.struct #[f0, f1, f2, f3]) ∧ f0.offset = 0 ∧ f0.type = 3 ∧ f1.offset = 1 ∧ f1.type = 3 ∧ f2.offset = 2 ∧ f2.type = 23 ∧ f3.offset = 3 ∧ f3.type = 23 := ⟨_, _, _, _, Try.underlying25, rfl, rfl, rfl, rfl, rfl, rfl, rfl, rfl⟩
theorem ro_len {w : World} {v : Value} {xs : List Int} (h : Ro w v xs) : Wd.In64 (xs.length : Int) := by
  obtain ⟨a, c, -, h1, h2, -⟩ := h
  unfold Wd.In64; omega
set_option maxRecDepth 100000 in
theorem open_world64 {H : Type} {enc : TypeId × Value → H} {W : World} {base : Nat} {held : Bool} {fuel : Nat} {cs : List Value} {y : DataW H × List MemPlace} (h : DataW.trod enc Try.prog W base (fun _ => true) held fuel 29 cs = some y) :
    ∃ X : WV, Wl W (.agg cs.toArray) X ∧ (∀ n ∈ Wd.nums X, Wd.In64 n) ∧ (Rows.uptoBulk y.1 ≤ 1048576 → WSmall X) := by
  obtain ⟨f0, f1, f2, f3, f4, f5, he, o0, t0, o1, t1, o2, t2, o3, t3, o4, t4, o5, t5⟩ := world_flds
  obtain ⟨xs, m, -, rfl, hlen, hxl, hf⟩ := DataW.trod_struct he h
  have csi : Try.prog.cellsOf 3 = 1 := by kernel_rfl
  have csf : Try.prog.cellsOf 25 = 4 := by kernel_rfl
  have csl : Try.prog.cellsOf 23 = 1 := by kernel_rfl
  have csu : Try.prog.cellsOf 26 = 1 := by kernel_rfl
  have csj : Try.prog.cellsOf 27 = 1 := by kernel_rfl
  have csk : Try.prog.cellsOf 29 = 9 := by kernel_rfl
  rw [csk] at hlen
  match cs, hlen with
  | [v0, v1, v2, v3, v4, v5, v6, v7, v8], _ =>
    have hx : xs.length = 6 := hxl
    match xs, hx with
    | [x0, x1, x2, x3, x4, x5], _ =>
      have g0 := hf 0 f0 rfl
      rw [o0, t0, csi] at g0
      have g1 := hf 1 f1 rfl
      rw [o1, t1, csi] at g1
      have g2 := hf 2 f2 rfl
      rw [o2, t2, csf] at g2
      have g3 := hf 3 f3 rfl
      rw [o3, t3, csl] at g3
      have g4 := hf 4 f4 rfl
      rw [o4, t4, csu] at g4
      have g5 := hf 5 f5 rfl
      rw [o5, t5, csj] at g5
      obtain ⟨m0, e0, -, w0⟩ := DataW.trod_int Try.underlying3 g0
      obtain ⟨m1, e1, -, w1⟩ := DataW.trod_int Try.underlying3 g1
      obtain ⟨r0, r1, r2, r3, he', p0, s0, p1, s1, p2, s2, p3, s3⟩ := field_flds
      obtain ⟨ys, m', -, rfl, hlen', hyl, hg⟩ := DataW.trod_struct he' g2
      have hy : ys.length = 4 := hyl
      match ys, hy with
      | [y0, y1, y2, y3], _ =>
        have k0 := hg 0 r0 rfl
        rw [p0, s0, csi] at k0
        have k1 := hg 1 r1 rfl
        rw [p1, s1, csi] at k1
        have k2 := hg 2 r2 rfl
        rw [p2, s2, csl] at k2
        have k3 := hg 3 r3 rfl
        rw [p3, s3, csl] at k3
        obtain ⟨m2, e2, -, w2⟩ := DataW.trod_int Try.underlying3 k0
        obtain ⟨m3, e3, -, w3⟩ := DataW.trod_int Try.underlying3 k1
        simp at e0 e1 e2 e3
        subst e0 e1 e2 e3
        obtain ⟨gs, hgs, igs, bgs⟩ := open_row64 k2
        obtain ⟨os, hos, ios, bos⟩ := open_row64 k3
        obtain ⟨gold, hgold, igold, bgold⟩ := open_row64 g3
        obtain ⟨us, hus, ius, bus⟩ := open_uns64 g4
        obtain ⟨qs, hqs, iqs, bqs⟩ := open_jbs64 g5
        have lu : Wd.In64 (us.length : Int) := by
          obtain ⟨a, c, -, h1, h2, -⟩ := hus
          unfold Wd.In64; omega
        have lq : Wd.In64 (qs.length : Int) := by
          obtain ⟨a, c, -, h1, h2, -⟩ := hqs
          unfold Wd.In64; omega
        refine ⟨⟨m0, m1, m2, m3, gs, os, gold, us, qs⟩, ⟨_, _, _, _, _, rfl, hgs, hos, hgold, hus, hqs⟩, ?_, ?_⟩
        · intro n hn
          simp only [Wd.nums, List.mem_append, List.mem_cons, List.not_mem_nil, or_false, List.mem_flatMap] at hn
          rcases hn with (((((rfl | rfl | rfl | rfl) | (rfl | hn)) | (rfl | hn)) | (rfl | hn)) | (rfl | ⟨u, hu, hn⟩)) | (rfl | ⟨u, hu, hn⟩)
          · exact in64_of_wf w0
          · exact in64_of_wf w1
          · exact in64_of_wf w2
          · exact in64_of_wf w3
          · exact ro_len hgs
          · exact igs _ hn
          · exact ro_len hos
          · exact ios _ hn
          · exact ro_len hgold
          · exact igold _ hn
          · exact lu
          · exact ius u hu n hn
          · exact lq
          · exact iqs u hu n hn
        · intro hb
          simp only [Rows.uptoBulk, Rows.uptoBulkAll, List.map_cons, List.map_nil] at hb
          exact ⟨by simp only; omega, by simp only; omega, by simp only; omega, by simp only; omega, by simp only; omega⟩
set_option maxRecDepth 100000 in
theorem world_in {H : Type} {enc : TypeId × Value → H} {W : World} {base b0 : Nat} {held : Bool} {v : Value} {d : DataW H} {p : List MemPlace} (hv : Value.okWide Try.prog W .any b0 29 v) (h : DataW.Trod enc Try.prog W base (fun _ => true) held 29 v d p) :
    ∃ X : WV, Wl W v X ∧ (∀ n ∈ Wd.nums X, Wd.In64 n) ∧ (Rows.uptoBulk d ≤ 1048576 → WSmall X) := by
  obtain ⟨cs, rfl, hsz⟩ := okWide_struct Try.underlying29 hv
  obtain ⟨fuel, hf⟩ := h
  have := open_world64 hf
  simpa [Value.cells] using this
end Go.Proofs.Ytagnjmellcibhaa

namespace Go.Proofs.Ytagnjmellcibhaa
open Go.ChangeShapes Go.WideShapes Go.ChangeAt Go.RowKit
set_option linter.unusedVariables false

theorem kind_fields : ∃ f0 f1 f2 f3 f4 f5 f6 f7 f8 f9 f10 : Field, Try.prog.underlying 56 = some (.struct #[f0, f1, f2, f3, f4, f5, f6, f7, f8, f9, f10]) ∧
    f0.offset = 0 ∧ f0.type = 9 ∧ f1.offset = 1 ∧ f1.type = 3 ∧ f2.offset = 2 ∧ f2.type = 3 ∧ f3.offset = 3 ∧ f3.type = 3 ∧ f4.offset = 4 ∧ f4.type = 3 ∧ f5.offset = 5 ∧ f5.type = 3 ∧ f6.offset = 6 ∧ f6.type = 3 ∧ f7.offset = 7 ∧ f7.type = 3 ∧ f8.offset = 8 ∧ f8.type = 3 ∧ f9.offset = 9 ∧ f9.type = 4 ∧ f10.offset = 10 ∧ f10.type = 4 := ⟨_, _, _, _, _, _, _, _, _, _, _, Try.underlying56, rfl, rfl, rfl, rfl, rfl, rfl, rfl, rfl, rfl, rfl, rfl, rfl, rfl, rfl, rfl, rfl, rfl, rfl, rfl, rfl, rfl, rfl⟩


set_option maxRecDepth 100000 in
theorem open_kind {H : Type} {enc : TypeId × Value → H} {W : World} {base : Nat} {held : Bool} {fuel : Nat} {cs : List Value} {y : DataW H × List MemPlace} (h : DataW.trod enc Try.prog W base (fun _ => true) held fuel 56 cs = some y) :
    ∃ k : KV, cs = [.string k.b, .int .i64 k.n0, .int .i64 k.n1, .int .i64 k.n2, .int .i64 k.n3, .int .i64 k.n4, .int .i64 k.n5, .int .i64 k.n6, .int .i64 k.n7, .bool k.f, .bool k.t] ∧ k.b.size ≤ maxLen := by
  obtain ⟨f0, f1, f2, f3, f4, f5, f6, f7, f8, f9, f10, he, o0, t0, o1, t1, o2, t2, o3, t3, o4, t4, o5, t5, o6, t6, o7, t7, o8, t8, o9, t9, o10, t10⟩ := kind_fields
  obtain ⟨xs, n, -, -, hlen, hxl, hf⟩ := DataW.trod_struct he h
  have cs9 : Try.prog.cellsOf 9 = 1 := by kernel_rfl
  have cs3 : Try.prog.cellsOf 3 = 1 := by kernel_rfl
  have cs4 : Try.prog.cellsOf 4 = 1 := by kernel_rfl
  have csk : Try.prog.cellsOf 56 = 11 := by kernel_rfl
  rw [csk] at hlen
  match cs, hlen with
  | [v0, v1, v2, v3, v4, v5, v6, v7, v8, v9, v10], _ =>
    have hx11 : xs.length = 11 := hxl
    match xs, hx11 with
    | [x0, x1, x2, x3, x4, x5, x6, x7, x8, x9, x10], _ =>
      have g0 := hf 0 f0 rfl
      rw [o0, t0, cs9] at g0
      have g1 := hf 1 f1 rfl
      rw [o1, t1, cs3] at g1
      have g2 := hf 2 f2 rfl
      rw [o2, t2, cs3] at g2
      have g3 := hf 3 f3 rfl
      rw [o3, t3, cs3] at g3
      have g4 := hf 4 f4 rfl
      rw [o4, t4, cs3] at g4
      have g5 := hf 5 f5 rfl
      rw [o5, t5, cs3] at g5
      have g6 := hf 6 f6 rfl
      rw [o6, t6, cs3] at g6
      have g7 := hf 7 f7 rfl
      rw [o7, t7, cs3] at g7
      have g8 := hf 8 f8 rfl
      rw [o8, t8, cs3] at g8
      have g9 := hf 9 f9 rfl
      rw [o9, t9, cs4] at g9
      have g10 := hf 10 f10 rfl
      rw [o10, t10, cs4] at g10
      obtain ⟨b, e0, -, hb⟩ := DataW.trod_string Try.underlying9 g0
      obtain ⟨m1, e1, -, -⟩ := DataW.trod_int Try.underlying3 g1
      obtain ⟨m2, e2, -, -⟩ := DataW.trod_int Try.underlying3 g2
      obtain ⟨m3, e3, -, -⟩ := DataW.trod_int Try.underlying3 g3
      obtain ⟨m4, e4, -, -⟩ := DataW.trod_int Try.underlying3 g4
      obtain ⟨m5, e5, -, -⟩ := DataW.trod_int Try.underlying3 g5
      obtain ⟨m6, e6, -, -⟩ := DataW.trod_int Try.underlying3 g6
      obtain ⟨m7, e7, -, -⟩ := DataW.trod_int Try.underlying3 g7
      obtain ⟨m8, e8, -, -⟩ := DataW.trod_int Try.underlying3 g8
      obtain ⟨bf, e9, -⟩ := DataW.trod_bool Try.underlying4 g9
      obtain ⟨bt, e10, -⟩ := DataW.trod_bool Try.underlying4 g10
      simp at e0 e1 e2 e3 e4 e5 e6 e7 e8 e9 e10
      subst e0 e1 e2 e3 e4 e5 e6 e7 e8 e9 e10
      exact ⟨⟨b, m1, m2, m3, m4, m5, m6, m7, m8, bf, bt⟩, rfl, hb⟩

/-- kinds that came in. -/
theorem open_kinds {H : Type} {enc : TypeId × Value → H} {W : World} {base : Nat} {held : Bool} {fuel : Nat} {v : Value} {y : DataW H × List MemPlace} (h : DataW.trod enc Try.prog W base (fun _ => true) held fuel 22 [v] = some y) :
    ∃ ks : List KV, Kl W v ks ∧ ∀ k ∈ ks, k.b.size ≤ maxLen := by
  have csk : Try.prog.cellsOf 56 = 11 := by kernel_rfl
  rcases Go.Deep.open_slice Try.underlying22 h with ⟨hcs, -⟩ | ⟨a, len, cap, m, n, D, Pl, hcs, hb, hl, hm, hmm, -, hx⟩
  · simp at hcs
    subst hcs
    exact ⟨[], ⟨none, 0, rfl, Nat.le_refl _, by omega, fun h => absurd rfl h⟩, by simp⟩
  · simp at hcs
    subst hcs
    have hlm : len ≤ m := by rw [hmm]; simp; exact hl
    have each : ∀ i, i < len → ∃ k : KV, Kc W (a.add (i * 11)) k ∧ k.b.size ≤ maxLen := by
      intro i hi
      obtain ⟨cs', h1, h2⟩ := hx i (by omega)
      obtain ⟨k, rfl, hk⟩ := open_kind h2
      rw [csk] at h1
      obtain ⟨-, -, hcell⟩ := World.cells?_some h1
      refine ⟨k, ?_, hk⟩
      generalize a.add (i * 11) = y at *
      exact ⟨hcell 0 (by decide), hcell 1 (by decide), hcell 2 (by decide), hcell 3 (by decide), hcell 4 (by decide), hcell 5 (by decide), hcell 6 (by decide), hcell 7 (by decide), hcell 8 (by decide), hcell 9 (by decide), hcell 10 (by decide)⟩
    have inh : Inhabited KV := ⟨⟨ByteArray.empty, 0, 0, 0, 0, 0, 0, 0, 0, false, false⟩⟩
    obtain ⟨q, hq⟩ := Go.Deep.choose_lt each
    refine ⟨(List.range len).map q, ⟨some a, cap, by simp, by simpa using hl, by unfold maxLen at hm; omega, fun hn => ⟨a, rfl, ?_, fun i k hk => ?_⟩⟩, ?_⟩
    · have h0 : 0 < len := by
        rcases Nat.eq_zero_or_pos len with h | h
        · subst h; simp at hn
        · exact h
      have := (hq 0 h0).1.lt
      rwa [add_block] at this
    · have hi : i < len := by
        have := (List.getElem?_eq_some_iff.1 hk).1
        simpa using this
      rw [List.getElem?_map, List.getElem?_range hi] at hk
      injection hk with hk
      subst hk
      exact (hq i hi).1
    · intro k hk
      obtain ⟨i, hi, rfl⟩ := List.mem_map.1 hk
      exact (hq i (List.mem_range.1 hi)).2
set_option maxRecDepth 100000 in
theorem kinds_in {H : Type} {enc : TypeId × Value → H} {W : World} {base b0 : Nat} {held : Bool} {v : Value} {d : DataW H} {p : List MemPlace} (hv : Value.okWide Try.prog W .any b0 22 v) (h : DataW.Trod enc Try.prog W base (fun _ => true) held 22 v d p) :
    ∃ ks : List KV, Kl W v ks ∧ ∀ k ∈ ks, k.b.size ≤ maxLen := by
  obtain ⟨a, len, cap, rfl⟩ := okWide_slice Try.underlying22 hv
  obtain ⟨fuel, hf⟩ := h
  exact open_kinds hf
end Go.Proofs.Ytagnjmellcibhaa

namespace Go.Proofs.Ytagnjmellcibhaa.sightSees
open Go.RowKit
set_option linter.unusedVariables false

theorem sm_zero : cfault SK S3 0 = 0 := by decide +kernel
theorem sm_two : (seersL SK 4 S3 0).length = 2 := by decide +kernel
/-- the fact: both see the first cell. -/
theorem sm_seers {w : World} {v : Value} (h : SeersSays SK S3 0 w v) : ∃ a c, v = .slice a 2 c := by
  rcases h with ⟨h, -⟩ | ⟨-, Wn, h1, a, c, rfl, -⟩
  · exact absurd sm_zero h
  · obtain rfl : Wn = 4 := by
      have : (4 : Int) = (Wn : Nat) := h1
      omega
    exact ⟨a, c, by rw [show (seersL SK 4 S3 (0 : Int).toNat).length = 2 from sm_two]⟩
set_option maxRecDepth 100000 in
set_option maxHeartbeats 50000000 in
theorem walk (vk : Value) (ks : List KV) (vw : Value) (X : WV) (i : Int) (w : World)
    (h0 : Kl w vk ks ∧ ∀ k ∈ ks, k.b.size ≤ maxLen) (h1 : Wl w vw X ∧ ∀ n ∈ Wd.nums X, Wd.In64 n) (h2 : (Lit.int .i64 i).wf = true) :
    Calls Try.prog 3 #[vk, vw, .int .i64 i] w fun e w' => e = .returned (.bool true) ∧ Below w.heap.size w w' := by
  have K : Hid (Kl w vk ks ∧ ∀ k ∈ ks, k.b.size ≤ 9223372036854775807) := ⟨h0.1, fun k hk => by have := h0.2 k hk; unfold maxLen at this; omega⟩
  have H : Hid (Wl w vw X) := h1.1
  obtain ⟨p1, q1, p2, q2, p3, q3, p4, q4, p5, q5, rfl⟩ := wl_shape9 h1.1
  obtain ⟨pk, qk, rfl, ck1, ck2, kc⟩ := h0.1
  have KC : Hid (ks ≠ [] → ∃ x, pk = some x ∧ x.block < w.heap.size ∧ ∀ (i : Nat) k, ks[i]? = some k → Kc w (x.add (i * 11)) k) := kc
  clear h0 h1 h2 kc
  go_enter Try.func3, Try.ntmps3
  go_upto_region 1 with fail
  have B0 : Hid (Below w.heap.size w (w.alloc (Obj.cells #[.int .i64 X.turn, .int .i64 X.next, .int .i64 X.wide, .int .i64 X.high, .slice p1 X.gs.length q1, .slice p2 X.os.length q2, .slice p3 X.gold.length q3, .slice p4 X.us.length q4, .slice p5 X.qs.length q5] 29))) := (Below.refl _ _).alloc (Nat.le_refl _) _
  have X0 : Hid (Bw (w.alloc (Obj.cells #[.int .i64 X.turn, .int .i64 X.next, .int .i64 X.wide, .int .i64 X.high, .slice p1 X.gs.length q1, .slice p2 X.os.length q2, .slice p3 X.gold.length q3, .slice p4 X.us.length q4, .slice p5 X.qs.length q5] 29)) w.heap.size X (.slice p1 X.gs.length q1) (.slice p2 X.os.length q2) (.slice p3 X.gold.length q3) (.slice p4 X.us.length q4) (.slice p5 X.qs.length q5)) := Bw.mk' X _ _ _ _ _ rfl
  generalize (w.alloc (Obj.cells #[.int .i64 X.turn, .int .i64 X.next, .int .i64 X.wide, .int .i64 X.high, .slice p1 X.gs.length q1, .slice p2 X.os.length q2, .slice p3 X.gold.length q3, .slice p4 X.us.length q4, .slice p5 X.qs.length q5] 29)) = w0 at *
  go_wp2_with fail
  refine (small_any w0).mono ?_
  rintro e w1 ⟨u, rfl, ho, hb⟩
  have B1 : Hid (Below w.heap.size w w1) := B0.out.trans (hb.mono B0.out.size)
  have X1 : Hid (Bw w1 w.heap.size X (.slice p1 X.gs.length q1) (.slice p2 X.os.length q2) (.slice p3 X.gold.length q3) (.slice p4 X.us.length q4) (.slice p5 X.qs.length q5)) := X0.out.below hb X0.out.lt
  have LS0 := ho.l
  obtain ⟨y1, y2, y3, y4, y5, rfl, o1, o2, o3, o4, o5⟩ := ho
  obtain ⟨m1, n1, rfl⟩ := o1.len
  obtain ⟨m2, n2, rfl⟩ := o2.len
  obtain ⟨m3, n3, rfl⟩ := o3.len
  obtain ⟨m4, n4, rfl⟩ := o4.len
  obtain ⟨m5, n5, rfl⟩ := o5.len
  have LS : Hid (Wl w1 (.agg #[.int .i64 0, .int .i64 4, .int .i64 4, .int .i64 2, .slice m1 8 n1, .slice m2 8 n2, .slice m3 2 n3, .slice m4 3 n4, .slice m5 0 n5]) S3) := LS0
  obtain ⟨g1, g2, g3, g4, g5, g6, g7, g8, g9⟩ := s3_eqs
  simp only [g1, g2, g3, g4, g5, g6, g7, g8, g9]
  clear g1 g2 g3 g4 g5 g6 g7 g8 g9 hb o1 o2 o3 o4 o5 X0 B0 LS0
  go_upto_region 2 with fail
  have BA : Hid (Below w1.heap.size w1 (w1.alloc (Obj.cells #[.int .i64 0, .int .i64 4, .int .i64 4, .int .i64 2, .slice m1 8 n1, .slice m2 8 n2, .slice m3 2 n3, .slice m4 3 n4, .slice m5 0 n5] 29))) := (Below.refl _ _).alloc (Nat.le_refl _) _
  obtain ⟨z, hz⟩ : ∃ z, w1.heap.size = z := ⟨_, rfl⟩
  have C2 : Hid ((fun V : World => V.cell? ⟨z, 0, none⟩ = some (.int .i64 0) ∧ V.cell? ⟨z, 1, none⟩ = some (.int .i64 4) ∧ V.cell? ⟨z, 2, none⟩ = some (.int .i64 4) ∧ V.cell? ⟨z, 3, none⟩ = some (.int .i64 2) ∧ V.cell? ⟨z, 4, none⟩ = some (.slice m1 8 n1) ∧ V.cell? ⟨z, 5, none⟩ = some (.slice m2 8 n2) ∧ V.cell? ⟨z, 6, none⟩ = some (.slice m3 2 n3) ∧ V.cell? ⟨z, 7, none⟩ = some (.slice m4 3 n4) ∧ V.cell? ⟨z, 8, none⟩ = some (.slice m5 0 n5)) (w1.alloc (Obj.cells #[.int .i64 0, .int .i64 4, .int .i64 4, .int .i64 2, .slice m1 8 n1, .slice m2 8 n2, .slice m3 2 n3, .slice m4 3 n4, .slice m5 0 n5] 29))) := by
    subst hz
    exact ⟨by simp, by simp, by simp, by simp, by simp, by simp, by simp, by simp, by simp⟩
  have ZL : Hid (z < (w1.alloc (Obj.cells #[.int .i64 0, .int .i64 4, .int .i64 4, .int .i64 2, .slice m1 8 n1, .slice m2 8 n2, .slice m3 2 n3, .slice m4 3 n4, .slice m5 0 n5] 29)).heap.size) := by unfold Hid; rw [← hz]; simp
  generalize (w1.alloc (Obj.cells #[.int .i64 0, .int .i64 4, .int .i64 4, .int .i64 2, .slice m1 8 n1, .slice m2 8 n2, .slice m3 2 n3, .slice m4 3 n4, .slice m5 0 n5] 29)) = w2 at *
  have B2 : Hid (Below w.heap.size w w2) := B1.out.trans (BA.out.mono B1.out.size)
  have X2 : Hid (Bw w2 w.heap.size X (.slice p1 X.gs.length q1) (.slice p2 X.os.length q2) (.slice p3 X.gold.length q3) (.slice p4 X.us.length q4) (.slice p5 X.qs.length q5)) := X1.out.below BA.out X1.out.lt
  have L2 : Hid (Wl w2 (.agg #[.int .i64 0, .int .i64 4, .int .i64 4, .int .i64 2, .slice m1 8 n1, .slice m2 8 n2, .slice m3 2 n3, .slice m4 3 n4, .slice m5 0 n5]) S3) := LS.out.below BA.out
  rw [hz]
  clear X1 B1 BA LS hz
  go_upto_region 4 with fail
  refine wp_region_two [(true, 1), (false, 0), (false, 2), (true, 3)] [(true, 4), (true, 5), (false, 6), (false, 7)] (fun V => V.cell? ⟨z, 0, none⟩ = some (.int .i64 0) ∧ V.cell? ⟨z, 1, none⟩ = some (.int .i64 4) ∧ V.cell? ⟨z, 2, none⟩ = some (.int .i64 4) ∧ V.cell? ⟨z, 3, none⟩ = some (.int .i64 2) ∧ V.cell? ⟨z, 4, none⟩ = some (.slice m1 8 n1) ∧ V.cell? ⟨z, 5, none⟩ = some (.slice m2 8 n2) ∧ V.cell? ⟨z, 6, none⟩ = some (.slice m3 2 n3) ∧ V.cell? ⟨z, 7, none⟩ = some (.slice m4 3 n4) ∧ V.cell? ⟨z, 8, none⟩ = some (.slice m5 0 n5)) (by kernel_rfl) (by kernel_rfl) (by kernel_rfl) (by decide +kernel) (by decide +kernel) C2.out ?_
  have CB : Hid (∀ (A B : World) (n : Nat), z < n → Below n A B → (fun V : World => V.cell? ⟨z, 0, none⟩ = some (.int .i64 0) ∧ V.cell? ⟨z, 1, none⟩ = some (.int .i64 4) ∧ V.cell? ⟨z, 2, none⟩ = some (.int .i64 4) ∧ V.cell? ⟨z, 3, none⟩ = some (.int .i64 2) ∧ V.cell? ⟨z, 4, none⟩ = some (.slice m1 8 n1) ∧ V.cell? ⟨z, 5, none⟩ = some (.slice m2 8 n2) ∧ V.cell? ⟨z, 6, none⟩ = some (.slice m3 2 n3) ∧ V.cell? ⟨z, 7, none⟩ = some (.slice m4 3 n4) ∧ V.cell? ⟨z, 8, none⟩ = some (.slice m5 0 n5)) A → (fun V : World => V.cell? ⟨z, 0, none⟩ = some (.int .i64 0) ∧ V.cell? ⟨z, 1, none⟩ = some (.int .i64 4) ∧ V.cell? ⟨z, 2, none⟩ = some (.int .i64 4) ∧ V.cell? ⟨z, 3, none⟩ = some (.int .i64 2) ∧ V.cell? ⟨z, 4, none⟩ = some (.slice m1 8 n1) ∧ V.cell? ⟨z, 5, none⟩ = some (.slice m2 8 n2) ∧ V.cell? ⟨z, 6, none⟩ = some (.slice m3 2 n3) ∧ V.cell? ⟨z, 7, none⟩ = some (.slice m4 3 n4) ∧ V.cell? ⟨z, 8, none⟩ = some (.slice m5 0 n5)) B) := fun A B n hn hb h => by
    obtain ⟨f0, f1, f2, f3, f4, f5, f6, f7, f8⟩ := h
    exact ⟨by rw [hb.cell (p := ⟨z, 0, none⟩) hn]; exact f0, by rw [hb.cell (p := ⟨z, 1, none⟩) hn]; exact f1, by rw [hb.cell (p := ⟨z, 2, none⟩) hn]; exact f2, by rw [hb.cell (p := ⟨z, 3, none⟩) hn]; exact f3, by rw [hb.cell (p := ⟨z, 4, none⟩) hn]; exact f4, by rw [hb.cell (p := ⟨z, 5, none⟩) hn]; exact f5, by rw [hb.cell (p := ⟨z, 6, none⟩) hn]; exact f6, by rw [hb.cell (p := ⟨z, 7, none⟩) hn]; exact f7, by rw [hb.cell (p := ⟨z, 8, none⟩) hn]; exact f8⟩
  have D3 : Hid (Below w2.heap.size w2 { w2 with drawn := w2.drawn + 1 }) := (Below.refl _ _).drew
  have C3 : Hid ((fun V : World => V.cell? ⟨z, 0, none⟩ = some (.int .i64 0) ∧ V.cell? ⟨z, 1, none⟩ = some (.int .i64 4) ∧ V.cell? ⟨z, 2, none⟩ = some (.int .i64 4) ∧ V.cell? ⟨z, 3, none⟩ = some (.int .i64 2) ∧ V.cell? ⟨z, 4, none⟩ = some (.slice m1 8 n1) ∧ V.cell? ⟨z, 5, none⟩ = some (.slice m2 8 n2) ∧ V.cell? ⟨z, 6, none⟩ = some (.slice m3 2 n3) ∧ V.cell? ⟨z, 7, none⟩ = some (.slice m4 3 n4) ∧ V.cell? ⟨z, 8, none⟩ = some (.slice m5 0 n5)) { w2 with drawn := w2.drawn + 1 }) := C2.out
  generalize ({ w2 with drawn := w2.drawn + 1 } : World) = w3 at *
  have B3 : Hid (Below w.heap.size w w3) := B2.out.trans (D3.out.mono B2.out.size)
  have X3 : Hid (Bw w3 w.heap.size X (.slice p1 X.gs.length q1) (.slice p2 X.os.length q2) (.slice p3 X.gold.length q3) (.slice p4 X.us.length q4) (.slice p5 X.qs.length q5)) := X2.out.below D3.out X2.out.lt
  have L3 : Hid (Wl w3 (.agg #[.int .i64 0, .int .i64 4, .int .i64 4, .int .i64 2, .slice m1 8 n1, .slice m2 8 n2, .slice m3 2 n3, .slice m4 3 n4, .slice m5 0 n5]) S3) := L2.out.below D3.out
  have Z3 : Hid (z < w3.heap.size) := Nat.lt_of_lt_of_le ZL.out D3.out.size
  clear X2 B2 L2 C2 D3 ZL
  refine headT_read rfl (.agg #[.int .i64 0, .int .i64 4, .int .i64 4, .int .i64 2, .slice m1 8 n1, .slice m2 8 n2, .slice m3 2 n3, .slice m4 3 n4, .slice m5 0 n5]) (by go_simp) (fun V hV => by obtain ⟨f0, f1, f2, f3, f4, f5, f6, f7, f8⟩ := hV; go_simp) ?_
  go_simp
  refine headT_call rfl 7 #[] (by go_simp) (by go_simp) ?_
  refine (sorts_any w3).mono ?_
  rintro e w4 ⟨ku, rfl, hk, hb⟩
  have K4 : Hid (Kl w4 ku SK) := hk
  have C4 : Hid ((fun V : World => V.cell? ⟨z, 0, none⟩ = some (.int .i64 0) ∧ V.cell? ⟨z, 1, none⟩ = some (.int .i64 4) ∧ V.cell? ⟨z, 2, none⟩ = some (.int .i64 4) ∧ V.cell? ⟨z, 3, none⟩ = some (.int .i64 2) ∧ V.cell? ⟨z, 4, none⟩ = some (.slice m1 8 n1) ∧ V.cell? ⟨z, 5, none⟩ = some (.slice m2 8 n2) ∧ V.cell? ⟨z, 6, none⟩ = some (.slice m3 2 n3) ∧ V.cell? ⟨z, 7, none⟩ = some (.slice m4 3 n4) ∧ V.cell? ⟨z, 8, none⟩ = some (.slice m5 0 n5)) w4) := CB.out w3 w4 _ Z3.out hb C3.out
  have B4 : Hid (Below w.heap.size w w4) := B3.out.trans (hb.mono B3.out.size)
  have X4 : Hid (Bw w4 w.heap.size X (.slice p1 X.gs.length q1) (.slice p2 X.os.length q2) (.slice p3 X.gold.length q3) (.slice p4 X.us.length q4) (.slice p5 X.qs.length q5)) := X3.out.below hb X3.out.lt
  have L4 : Hid (Wl w4 (.agg #[.int .i64 0, .int .i64 4, .int .i64 4, .int .i64 2, .slice m1 8 n1, .slice m2 8 n2, .slice m3 2 n3, .slice m4 3 n4, .slice m5 0 n5]) S3) := L3.out.below hb
  have Z4 : Hid (z < w4.heap.size) := Nat.lt_of_lt_of_le Z3.out hb.size
  clear hk hb X3 B3 L3 C3 Z3
  refine ⟨_, rfl, C4.out, ?_⟩
  go_simp
  refine headT_call rfl 6 #[ku, .agg #[.int .i64 0, .int .i64 4, .int .i64 4, .int .i64 2, .slice m1 8 n1, .slice m2 8 n2, .slice m3 2 n3, .slice m4 3 n4, .slice m5 0 n5], .int .i64 0] (by go_simp) (by go_simp) ?_
  refine (Seers_any ku _ SK S3 0 w4 K4.out sm_names L4.out).mono ?_
  rintro e w5 ⟨c, r, rfl, hr, hy, hb⟩
  obtain ⟨sa, sc, rfl⟩ := sm_seers hy
  rw [sm_zero] at hr
  obtain rfl := er_zero hr
  have C5 : Hid ((fun V : World => V.cell? ⟨z, 0, none⟩ = some (.int .i64 0) ∧ V.cell? ⟨z, 1, none⟩ = some (.int .i64 4) ∧ V.cell? ⟨z, 2, none⟩ = some (.int .i64 4) ∧ V.cell? ⟨z, 3, none⟩ = some (.int .i64 2) ∧ V.cell? ⟨z, 4, none⟩ = some (.slice m1 8 n1) ∧ V.cell? ⟨z, 5, none⟩ = some (.slice m2 8 n2) ∧ V.cell? ⟨z, 6, none⟩ = some (.slice m3 2 n3) ∧ V.cell? ⟨z, 7, none⟩ = some (.slice m4 3 n4) ∧ V.cell? ⟨z, 8, none⟩ = some (.slice m5 0 n5)) w5) := CB.out w4 w5 _ Z4.out hb C4.out
  have B5 : Hid (Below w.heap.size w w5) := B4.out.trans (hb.mono B4.out.size)
  have X5 : Hid (Bw w5 w.heap.size X (.slice p1 X.gs.length q1) (.slice p2 X.os.length q2) (.slice p3 X.gold.length q3) (.slice p4 X.us.length q4) (.slice p5 X.qs.length q5)) := X4.out.below hb X4.out.lt
  clear hb hr hy X4 B4 L4 C4 Z4 K4
  refine ⟨_, rfl, C5.out, ?_⟩
  clear C5 CB
  go_simp
  refine headT_read rfl (.tuple #[.slice sa 2 sc, .nilIface]) (by go_simp) (fun V hV => by go_simp) ?_
  go_simp
  refine sched_read rfl (.slice sa 2 sc) (by go_simp) (fun V hV => by go_simp) ?_
  go_simp
  refine sched_read rfl .nilIface (by go_simp) (fun V hV => by go_simp) ?_
  go_simp
  refine sched_value rfl (.slice sa 2 sc) w5 (by go_simp) (by go_simp) trivial ?_
  go_simp
  refine sched_value rfl .nilIface w5 (by go_simp) (by go_simp) trivial ?_
  go_simp
  unfold wpSched
  obtain ⟨x0, x1, x2, x3, x4, x5, x6, x7, x8⟩ := X5.out
  go_wp2_with fail
  refine (Seers_any _ _ ks X i w5 (K.out.1.below B5.out) K.out.2 (H.out.below B5.out)).mono ?_
  rintro e w6 ⟨c, r, rfl, hr, hy, hb⟩
  obtain ⟨fw, hfw⟩ : ∃ f, cfault ks X i = f := ⟨_, rfl⟩
  have FW : Hid (cfault ks X i = fw) := hfw
  rw [hfw] at hr
  have B6 : Hid (Below w.heap.size w w6) := B5.out.trans (hb.mono B5.out.size)
  have X6 : Hid (Bw w6 w.heap.size X (.slice p1 X.gs.length q1) (.slice p2 X.os.length q2) (.slice p3 X.gold.length q3) (.slice p4 X.us.length q4) (.slice p5 X.qs.length q5)) := X5.out.below hb X5.out.lt
  have SY : Hid (SeersSays ks X i w6 c) := hy
  clear hfw hb hy x0 x1 x2 x3 x4 x5 x6 x7 x8 X5 B5
  rcases hr with ⟨rfl, rfl⟩ | ⟨hf, rfl⟩
  case inr =>
    go_wp2
    go_ret
    exact ⟨rfl, B6.out⟩
  obtain ⟨WZ, hc0, hc1⟩ := cfault_zero FW.out
  obtain ⟨c0, rfl⟩ : ∃ n : Nat, i = n := ⟨i.toNat, by omega⟩
  have CL : Hid (c0 < X.gs.length) := by unfold Hid; omega
  have WR : Hid (WRight ks X ∧ Wd.wfault ks X = 0) := ⟨wright_of WZ, WZ⟩
  obtain ⟨Wn, Hn, hwn, -, G⟩ := WR.out.1.good
  have GD : Hid (X.wide = (Wn : Nat) ∧ X.gs.length ≤ 144 ∧ X.gold.length ≤ 4 ∧ X.us.length ≤ 40) := ⟨hwn, by rw [G.gl]; exact G.pos.2, by have := (nums_ok WR.out.1.nums).2; omega, WR.out.1.ul⟩
  have SR : Hid (Ro w6 c (seersL ks Wn X c0)) := by
    rcases SY.out with ⟨h, -⟩ | ⟨-, Wm, h1, h2⟩
    · exact absurd FW.out h
    · obtain rfl : Wm = Wn := by omega
      exact h2
  obtain ⟨ls, hls⟩ : ∃ l, seersL ks Wn X c0 = l := ⟨_, rfl⟩
  have LS : Hid (seersL ks Wn X c0 = ls) := hls
  rw [hls] at SR
  obtain ⟨la, lc, rfl, -, -, lcc⟩ := SR.out
  have LC : Hid (∀ (j : Nat) (d : Int), ls[j]? = some d → ∃ x, la = some x ∧ x.block < w6.heap.size ∧ w6.cell? (x.add j) = some (.int .i64 d)) := fun j d hd => by
    have hne : ls ≠ [] := by intro h; rw [h] at hd; simp at hd
    obtain ⟨x, h1, h2, h3⟩ := lcc hne
    exact ⟨x, h1, h2, h3 j d hd⟩
  have UC : Hid (∀ (j : Nat) (u : UnV), X.us[j]? = some u → ∃ x, p4 = some x ∧ x.block < w.heap.size ∧ Unc w (x.add (j * 8)) u) := fun j u hu => by
    obtain ⟨pa, pc, he, -, -, h⟩ := H.out.slices.2.2.2.1
    have hne : X.us ≠ [] := by intro h; rw [h] at hu; simp at hu
    obtain ⟨x, h1, h2, h3⟩ := h hne
    injection he with he1 he2 he3
    exact ⟨x, by rw [he1, h1], h2, h3 j u hu⟩
  clear hwn G SY SR hls lcc WZ hc0 hc1
  go_upto_region 12 with fail
  go_loopw [13, 14] (fun v13 v14 V => ∃ (n : Nat), v14 = .int .i64 (n : Nat) ∧ n ≤ X.gold.length ∧ v13 = .int .i64 ((seersUp ks Wn X c0 n).length : Nat) ∧ Below w6.heap.size w6 V) (fun _ v14 _ => X.gold.length - (intOf v14).toNat)
  case atStart => exact ⟨0, rfl, Nat.zero_le _, rfl, Below.refl _ _⟩
  case round =>
    obtain ⟨n, rfl, hn, rfl, hB⟩ := hrel
    have BR : Hid (Below w6.heap.size w6 wr) := hB
    have BB : Hid (Below w.heap.size w wr) := B6.out.trans (hB.mono B6.out.size)
    have XR : Hid (Bw wr w.heap.size X (.slice p1 X.gs.length q1) (.slice p2 X.os.length q2) (.slice p3 X.gold.length q3) (.slice p4 X.us.length q4) (.slice p5 X.qs.length q5)) := X6.out.below hB X6.out.lt
    clear hB
    obtain ⟨x0, x1, x2, x3, x4, x5, x6, x7, x8⟩ := XR.out
    by_cases h0 : n = X.gold.length
    · subst h0
      have LE : Hid ((seersUp ks Wn X c0 X.gold.length).length = ls.length) := by unfold Hid; rw [← LS.out]; rfl
      rw [LE.out]
      go_wp2
      go_ret
      exact ⟨by simp, BB.out⟩
    · have hnl : n < X.gold.length := by omega
      have hni : ((n : Nat) : Int) < (X.gold.length : Nat) := by omega
      have HN : Hid (n < X.gold.length) := hnl
      have PF : Hid (pfault ks X (n : Nat) = 0) := pfault_ok WR.out.2 (by omega) (by omega)
      obtain ⟨sl, hsl⟩ : ∃ l, (seersUp ks Wn X c0 n).length = l := ⟨_, rfl⟩
      have SL : Hid ((seersUp ks Wn X c0 n).length = sl ∧ sl ≤ 4) := ⟨hsl, by have h1 := seersUp_len ks Wn X c0 n; have := GD.out.2.2.1; omega⟩
      rw [hsl]
      clear hsl
      have WN : IntKind.i64.wrap ((n : Nat) + 1 : Int) = ((n : Nat) : Int) + 1 := by have := GD.out.2.2.1; rw [IntKind.wrap_i64]; omega
      go_upto_region 14 with fail
      go_wp2_with fail
      refine (Seen_any _ _ ks X (n : Nat) wr (K.out.1.below BB.out) K.out.2 (H.out.below BB.out)).mono ?_
      rintro e w7 ⟨v, r, rfl, hr, hy, hb⟩
      rw [PF.out] at hr
      obtain rfl := er_zero hr
      have BL : Hid (Bl w7 v (seenL ks Wn X (n : Nat))) := seen_of hy PF.out GD.out.1
      have BR7 : Hid (Below w6.heap.size w6 w7) := BR.out.trans (hb.mono BR.out.size)
      have BB7 : Hid (Below w.heap.size w w7) := BB.out.trans (hb.mono BB.out.size)
      have X7 : Hid (Bw w7 w.heap.size X (.slice p1 X.gs.length q1) (.slice p2 X.os.length q2) (.slice p3 X.gold.length q3) (.slice p4 X.us.length q4) (.slice p5 X.qs.length q5)) := XR.out.below hb XR.out.lt
      clear hr hy hb x0 x1 x2 x3 x4 x5 x6 x7 x8 BR BB XR
      obtain ⟨ba, bc, hv, -, -, bcc⟩ := BL.out
      rw [seen_len] at hv
      subst hv
      have BC : Hid (∀ j : Nat, j < X.gs.length → ∃ x, ba = some x ∧ w7.cell? (x.add j) = some (.bool (seesP ks Wn X.gs X.us (n : Nat) j))) := fun j hj => by
        have hd := seen_at ks Wn X (n : Nat) hj
        have hne : seenL ks Wn X (n : Nat) ≠ [] := by intro h; rw [h] at hd; simp at hd
        obtain ⟨x, h1, h2, h3⟩ := bcc hne
        exact ⟨x, h1, h3 j _ hd⟩
      clear bcc BL
      obtain ⟨x0, x1, x2, x3, x4, x5, x6, x7, x8⟩ := X7.out
      go_upto_region 19 with fail
      go_loopw [17, 18] (fun v17 v18 V => ∃ (m : Nat), v18 = .int .i64 (m : Nat) ∧ m ≤ X.us.length ∧ v17 = .bool ((X.us.take m).any (fun u => u.player == ((n : Nat) : Int))) ∧ V = w7) (fun _ v18 _ => X.us.length - (intOf v18).toNat)
      case atStart => exact ⟨0, rfl, Nat.zero_le _, by simp, rfl⟩
      case round =>
        obtain ⟨m, rfl, hm, rfl, hV⟩ := hrel
        rw [hV]
        clear hV
        by_cases h0 : m = X.us.length
        case neg =>
          have hml : m < X.us.length := by omega
          have hmi : ((m : Nat) : Int) < (X.us.length : Nat) := by omega
          have HM : Hid (m < X.us.length) := hml
          have WM : IntKind.i64.wrap ((m : Nat) + 1 : Int) = ((m : Nat) : Int) + 1 := by have := GD.out.2.2.2; rw [IntKind.wrap_i64]; omega
          obtain ⟨u, hu⟩ : ∃ u, X.us[m]? = some u := ⟨_, List.getElem?_eq_getElem hml⟩
          have NX := anyu_next (p := fun u : UnV => u.player == ((n : Nat) : Int)) hu
          obtain ⟨xu, rfl, hxl, hxc⟩ := UC.out m u hu
          obtain ⟨k, fu⟩ := WR.out.1.fine hu
          obtain ⟨an, han⟩ : ∃ a : Nat, u.at_ = a := ⟨u.at_.toNat, by have := fu.at_.1; omega⟩
          have hal : an < X.gs.length := by have := fu.at_.2; omega
          obtain ⟨y0, y1, y2, y3, y4, y5, y6, y7⟩ := hxc.below BB7.out (by rw [add_block]; exact hxl)
          obtain ⟨xb, hxb, hbc⟩ := BC.out an hal
          subst hxb
          have OS : Hid (u.player = ((n : Nat) : Int) → seesP ks Wn X.gs X.us (n : Nat) an = true) := fun hp => by have := own_sees (W := Wn) WR.out.1 hu hp; rw [han] at this; exact this
          rw [han] at y3
          obtain ⟨t, ht⟩ : ∃ b, (X.us.take m).any (fun u => u.player == ((n : Nat) : Int)) = b := ⟨_, rfl⟩
          rw [ht] at NX ⊢
          clear hu fu han hxc hxl ht
          by_cases hp : u.player = ((n : Nat) : Int)
          · have NY : Hid ((X.us.take (m + 1)).any (fun u => u.player == ((n : Nat) : Int)) = true) := by unfold Hid; rw [NX, hp]; simp
            rw [OS.out hp] at hbc
            rw [hp] at y1
            clear NX hp OS
            go_wp2
            go_round
            case rel => exact ⟨m + 1, by go_num, by have := HM.out; omega, by rw [NY.out], by trivial⟩
            case measure => simp [intOf]; omega
          · have hp' : (u.player == ((n : Nat) : Int)) = false := by rw [beq_eq_false_iff_ne]; exact hp
            have NY : Hid ((X.us.take (m + 1)).any (fun u => u.player == ((n : Nat) : Int)) = t) := by unfold Hid; rw [NX, hp']; simp
            clear NX hp OS
            go_wp2
            go_round
            case rel => exact ⟨m + 1, by go_num, by have := HM.out; omega, by rw [NY.out], by trivial⟩
            case measure => simp [intOf]; omega
        subst h0
        obtain ⟨av, hav⟩ : ∃ b, (X.us.take X.us.length).any (fun u => u.player == ((n : Nat) : Int)) = b := ⟨_, rfl⟩
        have AV : Hid (∀ j : Nat, seesP ks Wn X.gs X.us (n : Nat) j = true → av = true) := fun j hj => by
          rw [← hav, List.take_of_length_le (Nat.le_refl _)]
          exact sees_has hj
        rw [hav]
        clear hav
        go_upto_region 26 with fail
        clear x0 x1 x2 x3 x4 x5 x6 x7 x8
        go_loopw [19] (fun v19 V => ∃ (m : Nat), v19 = .int .i64 (m : Nat) ∧ m ≤ X.gs.length ∧ V = w7) (fun v19 _ => X.gs.length - (intOf v19).toNat)
        case atStart => exact ⟨0, rfl, Nat.zero_le _, rfl⟩
        case round =>
          obtain ⟨m, rfl, hm, hV⟩ := hrel
          rw [hV]
          clear hV
          by_cases h0 : m = X.gs.length
          case neg =>
            have hml : m < X.gs.length := by omega
            have hmi : ((m : Nat) : Int) < (X.gs.length : Nat) := by omega
            have HM : Hid (m < X.gs.length) := hml
            have WM : IntKind.i64.wrap ((m : Nat) + 1 : Int) = ((m : Nat) : Int) + 1 := by have := GD.out.2.1; rw [IntKind.wrap_i64]; omega
            obtain ⟨xb, hxb, hbc⟩ := BC.out m hml
            subst hxb
            have AW := AV.out m
            obtain ⟨t, ht⟩ : ∃ b, seesP ks Wn X.gs X.us (n : Nat) m = b := ⟨_, rfl⟩
            rw [ht] at hbc AW
            clear ht
            cases t with
            | true =>
              obtain rfl : av = true := AW rfl
              clear AW
              go_wp2
              go_round
              case rel => exact ⟨m + 1, by go_num, by have := HM.out; omega, by trivial⟩
              case measure => simp [intOf]; omega
            | false =>
              clear AW
              go_wp2
              go_round
              case rel => exact ⟨m + 1, by go_num, by have := HM.out; omega, by trivial⟩
              case measure => simp [intOf]; omega
          subst h0
          have hci : ((c0 : Nat) : Int) < (X.gs.length : Nat) := by have := CL.out; omega
          obtain ⟨xb, hxb, hbc⟩ := BC.out c0 CL.out
          subst hxb
          have SN := fun h => seers_at (ks := ks) (W := Wn) (c := c0) HN.out h
          have SS := fun h => seers_some (ks := ks) (W := Wn) (X := X) (c := c0) (p := n) h
          have S0' := fun h => seers_none (ks := ks) (W := Wn) (X := X) (c := c0) (p := n) h
          rw [SL.out.1, LS.out] at SN
          rw [SL.out.1] at SS S0'
          obtain ⟨t, ht⟩ : ∃ b, seesP ks Wn X.gs X.us (n : Nat) c0 = b := ⟨_, rfl⟩
          rw [ht] at hbc SN SS S0'
          clear ht
          cases t with
          | false =>
            have NY : Hid ((seersUp ks Wn X c0 (n + 1)).length = sl) := S0' rfl
            clear SN SS S0'
            go_wp2
            go_round
            case rel => exact ⟨n + 1, by go_num, by have := HN.out; omega, by rw [NY.out], BR7.out⟩
            case measure => simp [intOf]; omega
          | true =>
            have NY : Hid ((seersUp ks Wn X c0 (n + 1)).length = sl + 1) := SS rfl
            have hat := SN rfl
            have hsl : sl < ls.length := (List.getElem?_eq_some_iff.1 hat).1
            obtain ⟨xl, rfl, hxl, hxc⟩ := LC.out sl _ hat
            have hcl : _ = some (Value.int .i64 ((n : Nat) : Int)) := (BR7.out.cell (p := xl.add sl) (by rw [add_block]; exact hxl)).trans hxc
            have hsd : decide ((ls.length : Int) ≤ ((sl : Nat) : Int)) = false := decide_eq_false (by omega)
            have hse : decide (ls.length ≤ sl) = false := decide_eq_false (by omega)
            have WS : IntKind.i64.wrap ((sl : Nat) + 1 : Int) = ((sl : Nat) : Int) + 1 := by have := SL.out.2; rw [IntKind.wrap_i64]; omega
            clear SN SS S0' hat hxl hxc
            go_wp2
            go_round
            case rel => exact ⟨n + 1, by go_num, by have := HN.out; omega, by rw [NY.out]; go_num, BR7.out⟩
            case measure => simp [intOf]; omega
end Go.Proofs.Ytagnjmellcibhaa.sightSees

