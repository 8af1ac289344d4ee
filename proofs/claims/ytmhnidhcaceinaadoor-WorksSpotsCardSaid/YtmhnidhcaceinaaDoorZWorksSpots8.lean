/- Worlds: the reference's On and number. · What a walk is told of worlds and bytes that came in. · What a walk is told of kinds that came in. · The package variable of the four sides, as it is laid. · WorksSpots: the walk. -/
import Derived.Test.YtmhnidhcaceinaaDoorZWorksSpots3
import Derived.Test.YtmhnidhcaceinaaDoorZWorksSpots1
import Derived.Deep.SlicePairs
import Derived.ChangeArms
import Derived.ProofKit
import Derived.OpenShut
import Derived.ChangeSame
import Derived.FnData
import Derived.LaidLaws
import Derived.Test.YtmhnidhcaceinaaDoorZWorksSpots6
import Derived.Test.YtmhnidhcaceinaaDoorZWorksSpots7
namespace Go.Proofs.YtmhnidhcaceinaaDoor
open Go.RowKit
set_option linter.unusedVariables false

set_option maxHeartbeats 1000000 in
theorem rnumber_q (n : Int) (q : Bool) (w : World) (hq : Hid (decide (0 ≤ n ∧ n ≤ 1000000) = q)) :
    Calls Tryd.prog 38 #[.int .i64 n] w fun e w' => e = .returned (.bool q) ∧ w' = w := by
  go_enter Tryd.func38, Tryd.ntmps38
  by_cases h0 : 0 ≤ n
  · by_cases h1 : n ≤ 1000000
    · have E : Hid (q = true) := by unfold Hid; rw [← hq.out]; simp [h0, h1]
      go_wp2
      go_ret
      exact ⟨by rw [E.out]; rfl, rfl⟩
    · have E : Hid (q = false) := by unfold Hid; rw [← hq.out]; simp [h1]
      go_wp2
      go_ret
      exact ⟨by rw [E.out]; rfl, rfl⟩
  · have E : Hid (q = false) := by unfold Hid; rw [← hq.out]; simp [h0]
    go_wp2
    go_ret
    exact ⟨by rw [E.out]; rfl, rfl⟩
set_option maxRecDepth 100000 in
set_option maxHeartbeats 2000000 in
theorem ron_any (v : Value) (W : WV) (at_ : Int) (w : World) (h : Wl w v W) :
    Calls Tryd.prog 14 #[v, .int .i64 at_] w fun e w' => ∃ r : Int, e = .returned (.int .i64 r) ∧ FstU (fun u => u.at_ == at_) W.us r ∧ Below w.heap.size w w' := by
  obtain ⟨u1, u2, u3, u4, u5, rfl, -, -, -, ⟨a, c, rfl, c1, c2, ca⟩, -⟩ := h
  have Ca : Hid (W.us ≠ [] → ∃ x, a = some x ∧ x.block < w.heap.size ∧ ∀ (i : Nat) k, W.us[i]? = some k → Unc w (x.add (i * 8)) k) := ca
  clear ca
  go_enter Tryd.func14, Tryd.ntmps14
  go_wp2
  have B0 : Hid (Below w.heap.size w (w.alloc (Obj.cells #[.int .i64 W.turn, .int .i64 W.next, .int .i64 W.wide, .int .i64 W.high, u1, u2, u3, .slice a W.us.length c, u5] 29))) := (Below.refl _ _).alloc (Nat.le_refl _) _
  have X0 : Hid (Bw (w.alloc (Obj.cells #[.int .i64 W.turn, .int .i64 W.next, .int .i64 W.wide, .int .i64 W.high, u1, u2, u3, .slice a W.us.length c, u5] 29)) w.heap.size W u1 u2 u3 (.slice a W.us.length c) u5) := Bw.mk' W _ _ _ _ _ rfl
  generalize w.alloc (Obj.cells #[.int .i64 W.turn, .int .i64 W.next, .int .i64 W.wide, .int .i64 W.high, u1, u2, u3, .slice a W.us.length c, u5] 29) = w0 at *
  go_loopw [5] (fun iv V => ∃ k : Nat, k ≤ W.us.length ∧ iv = .int .i64 (k : Nat) ∧ (W.us.take k).any (fun u => u.at_ == at_) = false ∧ V = w0) (fun iv _ => W.us.length - (intOf iv).toNat)
  case atStart => exact ⟨0, Nat.zero_le _, rfl, rfl, rfl⟩
  case round =>
    obtain ⟨k, hk, rfl, hn, rfl⟩ := hrel
    have HN : Hid ((W.us.take k).any (fun u => u.at_ == at_) = false) := hn
    have c7 := X0.out.c7
    clear hn
    by_cases hkl : k = W.us.length
    · have F : Hid (FstU (fun u => u.at_ == at_) W.us (-1)) := .inl ⟨rfl, by have := HN.out; rwa [hkl, List.take_length] at this⟩
      subst hkl
      clear hk
      go_wp2
      go_ret
      exact ⟨-1, rfl, F.out, B0.out⟩
    · have hlt : k < W.us.length := by omega
      have hli : (k : Int) < (W.us.length : Int) := by omega
      obtain ⟨u, hu⟩ : ∃ u, W.us[k]? = some u := ⟨_, List.getElem?_eq_getElem hlt⟩
      obtain ⟨x, rfl, hx, hcell⟩ := Ca.out (by intro e; rw [e] at hlt; simp at hlt)
      obtain ⟨-, -, -, d3, -, -, -, -⟩ := (hcell k u hu).below B0.out (by rw [add_block]; exact hx)
      have HU : Hid (W.us[k]? = some u) := hu
      clear hcell hx hu hkl
      by_cases hid : u.at_ = at_
      · have F : Hid (FstU (fun u => u.at_ == at_) W.us (k : Nat)) := .inr ⟨k, u, rfl, HU.out, by simp [hid], HN.out⟩
        go_wp2
        go_ret
        exact ⟨_, rfl, F.out, B0.out⟩
      · have hidb : (u.at_ == at_) = false := by simpa using hid
        have N2 : Hid ((W.us.take (k + 1)).any (fun u => u.at_ == at_) = false) := by unfold Hid; rw [anyu_next HU.out, HN.out, hidb]; rfl
        clear hid
        go_wp2
        go_roundw
        case rel => exact ⟨k + 1, by omega, rfl, N2.out, trivial⟩
        case measure => simp [intOf]; omega
set_option maxRecDepth 100000 in
set_option maxHeartbeats 2000000 in
theorem rfind_any (v : Value) (W : WV) (id : Int) (w : World) (h : Wl w v W) :
    Calls Tryd.prog 25 #[v, .int .i64 id] w fun e w' => ∃ r : Int, e = .returned (.int .i64 r) ∧ FstU (fun u => u.id == id) W.us r ∧ Below w.heap.size w w' := by
  obtain ⟨u1, u2, u3, u4, u5, rfl, -, -, -, ⟨a, c, rfl, c1, c2, ca⟩, -⟩ := h
  have Ca : Hid (W.us ≠ [] → ∃ x, a = some x ∧ x.block < w.heap.size ∧ ∀ (i : Nat) k, W.us[i]? = some k → Unc w (x.add (i * 8)) k) := ca
  clear ca
  go_enter Tryd.func25, Tryd.ntmps25
  go_wp2
  have B0 : Hid (Below w.heap.size w (w.alloc (Obj.cells #[.int .i64 W.turn, .int .i64 W.next, .int .i64 W.wide, .int .i64 W.high, u1, u2, u3, .slice a W.us.length c, u5] 29))) := (Below.refl _ _).alloc (Nat.le_refl _) _
  have X0 : Hid (Bw (w.alloc (Obj.cells #[.int .i64 W.turn, .int .i64 W.next, .int .i64 W.wide, .int .i64 W.high, u1, u2, u3, .slice a W.us.length c, u5] 29)) w.heap.size W u1 u2 u3 (.slice a W.us.length c) u5) := Bw.mk' W _ _ _ _ _ rfl
  generalize w.alloc (Obj.cells #[.int .i64 W.turn, .int .i64 W.next, .int .i64 W.wide, .int .i64 W.high, u1, u2, u3, .slice a W.us.length c, u5] 29) = w0 at *
  go_loopw [5] (fun iv V => ∃ k : Nat, k ≤ W.us.length ∧ iv = .int .i64 (k : Nat) ∧ (W.us.take k).any (fun u => u.id == id) = false ∧ V = w0) (fun iv _ => W.us.length - (intOf iv).toNat)
  case atStart => exact ⟨0, Nat.zero_le _, rfl, rfl, rfl⟩
  case round =>
    obtain ⟨k, hk, rfl, hn, rfl⟩ := hrel
    have HN : Hid ((W.us.take k).any (fun u => u.id == id) = false) := hn
    have c7 := X0.out.c7
    clear hn
    by_cases hkl : k = W.us.length
    · have F : Hid (FstU (fun u => u.id == id) W.us (-1)) := .inl ⟨rfl, by have := HN.out; rwa [hkl, List.take_length] at this⟩
      subst hkl
      clear hk
      go_wp2
      go_ret
      exact ⟨-1, rfl, F.out, B0.out⟩
    · have hlt : k < W.us.length := by omega
      have hli : (k : Int) < (W.us.length : Int) := by omega
      obtain ⟨u, hu⟩ : ∃ u, W.us[k]? = some u := ⟨_, List.getElem?_eq_getElem hlt⟩
      obtain ⟨x, rfl, hx, hcell⟩ := Ca.out (by intro e; rw [e] at hlt; simp at hlt)
      obtain ⟨d0, -, -, -, -, -, -, -⟩ := (hcell k u hu).below B0.out (by rw [add_block]; exact hx)
      have HU : Hid (W.us[k]? = some u) := hu
      clear hcell hx hu hkl
      by_cases hid : u.id = id
      · have F : Hid (FstU (fun u => u.id == id) W.us (k : Nat)) := .inr ⟨k, u, rfl, HU.out, by simp [hid], HN.out⟩
        go_wp2
        go_ret
        exact ⟨_, rfl, F.out, B0.out⟩
      · have hidb : (u.id == id) = false := by simpa using hid
        have N2 : Hid ((W.us.take (k + 1)).any (fun u => u.id == id) = false) := by unfold Hid; rw [anyu_next HU.out, HN.out, hidb]; rfl
        clear hid
        go_wp2
        go_roundw
        case rel => exact ⟨k + 1, by omega, rfl, N2.out, trivial⟩
        case measure => simp [intOf]; omega
end Go.Proofs.YtmhnidhcaceinaaDoor

namespace Go.Proofs.YtmhnidhcaceinaaDoor
open Go.ChangeShapes Go.WideShapes Go.ChangeAt Go.RowKit
set_option linter.unusedVariables false

theorem in64_of_wf {n : Int} (h : (Lit.int .i64 n).wf = true) : Wd.In64 n := by
  unfold Wd.In64
  simp only [Lit.wf, Bool.and_eq_true, decide_eq_true_eq] at h
  have h1 : IntKind.i64.min = -9223372036854775808 := by decide
  have h2 : IntKind.i64.max = 9223372036854775807 := by decide
  omega
theorem byte_of_wf {n : Int} (h : (Lit.int .u8 n).wf = true) : 0 ≤ n ∧ n < 256 := by
  simp only [Lit.wf, Bool.and_eq_true, decide_eq_true_eq] at h
  have h1 : IntKind.u8.min = 0 := by decide
  have h2 : IntKind.u8.max = 255 := by decide
  omega
theorem bulk_pos {H : Type} : ∀ d : DataW H, 1 ≤ Rows.uptoBulk d
  | .lit (.string bytes) => by simp [Rows.uptoBulk]
  | .lit (.int _ _) => by simp [Rows.uptoBulk]
  | .lit (.bool _) => by simp [Rows.uptoBulk]
  | .lit (.float .f32 _) => by simp [Rows.uptoBulk]
  | .lit (.float .f64 _) => by simp [Rows.uptoBulk]
  | .lit .nil => by simp [Rows.uptoBulk]
  | .nil => by simp [Rows.uptoBulk]
  | .ptr d => by simp [Rows.uptoBulk]
  | .slice _ _ => by simp [Rows.uptoBulk]
  | .agg _ => by simp [Rows.uptoBulk]
  | .iface _ _ => by simp [Rows.uptoBulk]
  | .map _ => by simp [Rows.uptoBulk]
  | .held _ => by simp [Rows.uptoBulk]
theorem bulk_len {H : Type} : ∀ ds : List (DataW H), ds.length ≤ Rows.uptoBulkAll ds
  | [] => by simp
  | d :: ds => by
    have h1 := bulk_pos d
    have h2 := bulk_len ds
    simp only [Rows.uptoBulkAll, List.length_cons]
    omega
theorem bulk_slice {H : Type} (es sp : List (DataW H)) : es.length ≤ Rows.uptoBulk (.slice es sp) := by
  have := bulk_len es
  simp only [Rows.uptoBulk]
  omega

set_option maxRecDepth 100000 in
theorem open_row64 {H : Type} {enc : TypeId × Value → H} {W : World} {base : Nat} {held : Bool} {fuel : Nat} {v : Value} {y : DataW H × List MemPlace} (h : DataW.trod enc Tryd.prog W base (fun _ => true) held fuel 23 [v] = some y) :
    ∃ zs, Ro W v zs ∧ (∀ n ∈ zs, Wd.In64 n) ∧ zs.length ≤ Rows.uptoBulk y.1 := by
  rcases open_ints Tryd.underlying23 Tryd.underlying3 (by kernel_rfl) h with ⟨hcs, rfl⟩ | ⟨x, l, c, zs, hcs, _, hl, hm, hz, rfl, hcell, hwz⟩
  · simp at hcs
    subst hcs
    exact ⟨_, IsRow.ro (.inl ⟨rfl, rfl, rfl, rfl⟩), by simp, by simp⟩
  · simp at hcs
    subst hcs
    refine ⟨_, IsRow.ro (zs := zs) (.inr ⟨_, rfl, hl, hm, by simpa using hz, hcell, hwz⟩), fun n hn => in64_of_wf (hwz n (List.mem_of_mem_take hn)), ?_⟩
    have := bulk_slice (H := H) (lits .i64 (zs.take l)) (lits .i64 (zs.drop l))
    simpa [lits] using this
theorem un_flds : ∃ f0 f1 f2 f3 f4 f5 f6 f7 : Field, Tryd.prog.underlying 45 = some (.struct #[f0, f1, f2, f3, f4, f5, f6, f7]) ∧ f0.offset = 0 ∧ f0.type = 3 ∧ f1.offset = 1 ∧ f1.type = 3 ∧ f2.offset = 2 ∧ f2.type = 3 ∧ f3.offset = 3 ∧ f3.type = 3 ∧ f4.offset = 4 ∧ f4.type = 3 ∧ f5.offset = 5 ∧ f5.type = 3 ∧ f6.offset = 6 ∧ f6.type = 3 ∧ f7.offset = 7 ∧ f7.type = 3 := ⟨_, _, _, _, _, _, _, _, Tryd.underlying45, rfl, rfl, rfl, rfl, rfl, rfl, rfl, rfl, rfl, rfl, rfl, rfl, rfl, rfl, rfl, rfl⟩
set_option maxRecDepth 100000 in
theorem open_un64 {H : Type} {enc : TypeId × Value → H} {W : World} {base : Nat} {held : Bool} {fuel : Nat} {cs : List Value} {y : DataW H × List MemPlace} (h : DataW.trod enc Tryd.prog W base (fun _ => true) held fuel 45 cs = some y) :
    ∃ k : UnV, cs = [.int .i64 k.id, .int .i64 k.player, .int .i64 k.kind, .int .i64 k.at_, .int .i64 k.life, .int .i64 k.load, .int .i64 k.task, .int .i64 k.goal] ∧ ∀ n ∈ Wd.unums k, Wd.In64 n := by
  obtain ⟨f0, f1, f2, f3, f4, f5, f6, f7, he, o0, t0, o1, t1, o2, t2, o3, t3, o4, t4, o5, t5, o6, t6, o7, t7⟩ := un_flds
  obtain ⟨xs, m, -, -, hlen, hxl, hf⟩ := DataW.trod_struct he h
  have csi : Tryd.prog.cellsOf 3 = 1 := by kernel_rfl
  have csk : Tryd.prog.cellsOf 45 = 8 := by kernel_rfl
  rw [csk] at hlen
  match cs, hlen with
  | [v0, v1, v2, v3, v4, v5, v6, v7], _ =>
    have hx : xs.length = 8 := hxl
    match xs, hx with
    | [x0, x1, x2, x3, x4, x5, x6, x7], _ =>
      have g0 := hf 0 f0 rfl
      rw [o0, t0, csi] at g0
      have g1 := hf 1 f1 rfl
      rw [o1, t1, csi] at g1
      have g2 := hf 2 f2 rfl
      rw [o2, t2, csi] at g2
      have g3 := hf 3 f3 rfl
      rw [o3, t3, csi] at g3
      have g4 := hf 4 f4 rfl
      rw [o4, t4, csi] at g4
      have g5 := hf 5 f5 rfl
      rw [o5, t5, csi] at g5
      have g6 := hf 6 f6 rfl
      rw [o6, t6, csi] at g6
      have g7 := hf 7 f7 rfl
      rw [o7, t7, csi] at g7
      obtain ⟨m0, e0, -, w0⟩ := DataW.trod_int Tryd.underlying3 g0
      obtain ⟨m1, e1, -, w1⟩ := DataW.trod_int Tryd.underlying3 g1
      obtain ⟨m2, e2, -, w2⟩ := DataW.trod_int Tryd.underlying3 g2
      obtain ⟨m3, e3, -, w3⟩ := DataW.trod_int Tryd.underlying3 g3
      obtain ⟨m4, e4, -, w4⟩ := DataW.trod_int Tryd.underlying3 g4
      obtain ⟨m5, e5, -, w5⟩ := DataW.trod_int Tryd.underlying3 g5
      obtain ⟨m6, e6, -, w6⟩ := DataW.trod_int Tryd.underlying3 g6
      obtain ⟨m7, e7, -, w7⟩ := DataW.trod_int Tryd.underlying3 g7
      simp at e0 e1 e2 e3 e4 e5 e6 e7
      subst e0 e1 e2 e3 e4 e5 e6 e7
      refine ⟨⟨m0, m1, m2, m3, m4, m5, m6, m7⟩, rfl, ?_⟩
      intro n hn
      simp only [Wd.unums, List.mem_cons, List.not_mem_nil, or_false] at hn
      rcases hn with rfl | rfl | rfl | rfl | rfl | rfl | rfl | rfl
      · exact in64_of_wf w0
      · exact in64_of_wf w1
      · exact in64_of_wf w2
      · exact in64_of_wf w3
      · exact in64_of_wf w4
      · exact in64_of_wf w5
      · exact in64_of_wf w6
      · exact in64_of_wf w7
theorem open_uns64 {H : Type} {enc : TypeId × Value → H} {W : World} {base : Nat} {held : Bool} {fuel : Nat} {v : Value} {y : DataW H × List MemPlace} (h : DataW.trod enc Tryd.prog W base (fun _ => true) held fuel 26 [v] = some y) :
    ∃ ks : List UnV, Unl W v ks ∧ (∀ k ∈ ks, ∀ n ∈ Wd.unums k, Wd.In64 n) ∧ ks.length ≤ Rows.uptoBulk y.1 := by
  have csk : Tryd.prog.cellsOf 45 = 8 := by kernel_rfl
  rcases Go.Deep.open_slice Tryd.underlying26 h with ⟨hcs, -⟩ | ⟨a, len, cap, m, q, D, Pl, hcs, hb, hl, hm, hmm, rfl, hx⟩
  · simp at hcs
    subst hcs
    exact ⟨[], ⟨none, 0, rfl, Nat.le_refl _, by omega, fun h => absurd rfl h⟩, by simp, by simp⟩
  · simp at hcs
    subst hcs
    have hlm : len ≤ m := by rw [hmm]; simp; exact hl
    have each : ∀ i, i < len → ∃ k : UnV, Unc W (a.add (i * 8)) k ∧ (∀ n ∈ Wd.unums k, Wd.In64 n) := by
      intro i hi
      obtain ⟨cs', h1, h2⟩ := hx i (by omega)
      obtain ⟨k, rfl, hk⟩ := open_un64 h2
      rw [csk] at h1
      obtain ⟨-, -, hcell⟩ := World.cells?_some h1
      refine ⟨k, ?_, hk⟩
      generalize a.add (i * 8) = y at *
      exact ⟨hcell 0 (by decide), hcell 1 (by decide), hcell 2 (by decide), hcell 3 (by decide), hcell 4 (by decide), hcell 5 (by decide), hcell 6 (by decide), hcell 7 (by decide)⟩
    have inh : Inhabited UnV := ⟨⟨0, 0, 0, 0, 0, 0, 0, 0⟩⟩
    obtain ⟨q, hq⟩ := Go.Deep.choose_lt each
    refine ⟨(List.range len).map q, ⟨some a, cap, by simp, by simpa using hl, by unfold maxLen at hm; omega, fun hn => ⟨a, rfl, ?_, fun i k hk => ?_⟩⟩, ?_, ?_⟩
    · have h0 : 0 < len := by
        rcases Nat.eq_zero_or_pos len with h | h
        · subst h; simp at hn
        · exact h
      have := (hq 0 h0).1.lt
      rwa [add_block] at this
    · have hi : i < len := by
        have := (List.getElem?_eq_some_iff.1 hk).1
        simpa using this
      rw [List.getElem?_map, List.getElem?_range hi] at hk
      injection hk with hk
      subst hk
      exact (hq i hi).1
    · intro k hk
      obtain ⟨i, hi, rfl⟩ := List.mem_map.1 hk
      exact (hq i (List.mem_range.1 hi)).2
    · have := bulk_slice ((List.range len).map D) ((List.range (m - len)).map fun j => D (len + j))
      simpa using this
theorem jb_flds : ∃ f0 f1 f2 f3 : Field, Tryd.prog.underlying 75 = some (.struct #[f0, f1, f2, f3]) ∧ f0.offset = 0 ∧ f0.type = 3 ∧ f1.offset = 1 ∧ f1.type = 3 ∧ f2.offset = 2 ∧ f2.type = 3 ∧ f3.offset = 3 ∧ f3.type = 3 := ⟨_, _, _, _, Tryd.underlying75, rfl, rfl, rfl, rfl, rfl, rfl, rfl, rfl⟩
set_option maxRecDepth 100000 in
theorem open_jb64 {H : Type} {enc : TypeId × Value → H} {W : World} {base : Nat} {held : Bool} {fuel : Nat} {cs : List Value} {y : DataW H × List MemPlace} (h : DataW.trod enc Tryd.prog W base (fun _ => true) held fuel 75 cs = some y) :
    ∃ k : JbV, cs = [.int .i64 k.player, .int .i64 k.unit, .int .i64 k.kind, .int .i64 k.left] ∧ ∀ n ∈ Wd.jnums k, Wd.In64 n := by
  obtain ⟨f0, f1, f2, f3, he, o0, t0, o1, t1, o2, t2, o3, t3⟩ := jb_flds
  obtain ⟨xs, m, -, -, hlen, hxl, hf⟩ := DataW.trod_struct he h
  have csi : Tryd.prog.cellsOf 3 = 1 := by kernel_rfl
  have csk : Tryd.prog.cellsOf 75 = 4 := by kernel_rfl
  rw [csk] at hlen
  match cs, hlen with
  | [v0, v1, v2, v3], _ =>
    have hx : xs.length = 4 := hxl
    match xs, hx with
    | [x0, x1, x2, x3], _ =>
      have g0 := hf 0 f0 rfl
      rw [o0, t0, csi] at g0
      have g1 := hf 1 f1 rfl
      rw [o1, t1, csi] at g1
      have g2 := hf 2 f2 rfl
      rw [o2, t2, csi] at g2
      have g3 := hf 3 f3 rfl
      rw [o3, t3, csi] at g3
      obtain ⟨m0, e0, -, w0⟩ := DataW.trod_int Tryd.underlying3 g0
      obtain ⟨m1, e1, -, w1⟩ := DataW.trod_int Tryd.underlying3 g1
      obtain ⟨m2, e2, -, w2⟩ := DataW.trod_int Tryd.underlying3 g2
      obtain ⟨m3, e3, -, w3⟩ := DataW.trod_int Tryd.underlying3 g3
      simp at e0 e1 e2 e3
      subst e0 e1 e2 e3
      refine ⟨⟨m0, m1, m2, m3⟩, rfl, ?_⟩
      intro n hn
      simp only [Wd.jnums, List.mem_cons, List.not_mem_nil, or_false] at hn
      rcases hn with rfl | rfl | rfl | rfl
      · exact in64_of_wf w0
      · exact in64_of_wf w1
      · exact in64_of_wf w2
      · exact in64_of_wf w3
theorem open_jbs64 {H : Type} {enc : TypeId × Value → H} {W : World} {base : Nat} {held : Bool} {fuel : Nat} {v : Value} {y : DataW H × List MemPlace} (h : DataW.trod enc Tryd.prog W base (fun _ => true) held fuel 27 [v] = some y) :
    ∃ ks : List JbV, Jbl W v ks ∧ (∀ k ∈ ks, ∀ n ∈ Wd.jnums k, Wd.In64 n) ∧ ks.length ≤ Rows.uptoBulk y.1 := by
  have csk : Tryd.prog.cellsOf 75 = 4 := by kernel_rfl
  rcases Go.Deep.open_slice Tryd.underlying27 h with ⟨hcs, -⟩ | ⟨a, len, cap, m, q, D, Pl, hcs, hb, hl, hm, hmm, rfl, hx⟩
  · simp at hcs
    subst hcs
    exact ⟨[], ⟨none, 0, rfl, Nat.le_refl _, by omega, fun h => absurd rfl h⟩, by simp, by simp⟩
  · simp at hcs
    subst hcs
    have hlm : len ≤ m := by rw [hmm]; simp; exact hl
    have each : ∀ i, i < len → ∃ k : JbV, Jbc W (a.add (i * 4)) k ∧ (∀ n ∈ Wd.jnums k, Wd.In64 n) := by
      intro i hi
      obtain ⟨cs', h1, h2⟩ := hx i (by omega)
      obtain ⟨k, rfl, hk⟩ := open_jb64 h2
      rw [csk] at h1
      obtain ⟨-, -, hcell⟩ := World.cells?_some h1
      refine ⟨k, ?_, hk⟩
      generalize a.add (i * 4) = y at *
      exact ⟨hcell 0 (by decide), hcell 1 (by decide), hcell 2 (by decide), hcell 3 (by decide)⟩
    have inh : Inhabited JbV := ⟨⟨0, 0, 0, 0⟩⟩
    obtain ⟨q, hq⟩ := Go.Deep.choose_lt each
    refine ⟨(List.range len).map q, ⟨some a, cap, by simp, by simpa using hl, by unfold maxLen at hm; omega, fun hn => ⟨a, rfl, ?_, fun i k hk => ?_⟩⟩, ?_, ?_⟩
    · have h0 : 0 < len := by
        rcases Nat.eq_zero_or_pos len with h | h
        · subst h; simp at hn
        · exact h
      have := (hq 0 h0).1.lt
      rwa [add_block] at this
    · have hi : i < len := by
        have := (List.getElem?_eq_some_iff.1 hk).1
        simpa using this
      rw [List.getElem?_map, List.getElem?_range hi] at hk
      injection hk with hk
      subst hk
      exact (hq i hi).1
    · intro k hk
      obtain ⟨i, hi, rfl⟩ := List.mem_map.1 hk
      exact (hq i (List.mem_range.1 hi)).2
    · have := bulk_slice ((List.range len).map D) ((List.range (m - len)).map fun j => D (len + j))
      simpa using this
theorem world_flds : ∃ f0 f1 f2 f3 f4 f5 : Field, Tryd.prog.underlying 29 = some (.struct #[f0, f1, f2, f3, f4, f5]) ∧ f0.offset = 0 ∧ f0.type = 3 ∧ f1.offset = 1 ∧ f1.type = 3 ∧ f2.offset = 2 ∧ f2.type = 25 ∧ f3.offset = 6 ∧ f3.type = 23 ∧ f4.offset = 7 ∧ f4.type = 26 ∧ f5.offset = 8 ∧ f5.type = 27 := ⟨_, _, _, _, _, _, Tryd.underlying29, rfl, rfl, rfl, rfl, rfl, rfl, rfl, rfl, rfl, rfl, rfl, rfl⟩
theorem field_flds : ∃ f0 f1 f2 f3 : Field, Tryd.prog.underlying 25 = some (.struct #[f0, f1, f2, f3]) ∧ f0.offset = 0 ∧ f0.type = 3 ∧ f1.offset = 1 ∧ f1.type = 3 ∧ f2.offset = 2 ∧ f2.type = 23 ∧ f3.offset = 3 ∧ f3.type = 23 := ⟨_, _, _, _, Tryd.underlying25, rfl, rfl, rfl, rfl, rfl, rfl, rfl, rfl⟩
theorem ro_len {w : World} {v : Value} {xs : List Int} (h : Ro w v xs) : Wd.In64 (xs.length : Int) := by
  obtain ⟨a, c, -, h1, h2, -⟩ := h
  unfold Wd.In64; omega
set_option maxRecDepth 100000 in
theorem open_world64 {H : Type} {enc : TypeId × Value → H} {W : World} {base : Nat} {held : Bool} {fuel : Nat} {cs : List Value} {y : DataW H × List MemPlace} (h : DataW.trod enc Tryd.prog W base (fun _ => true) held fuel 29 cs = some y) :
    ∃ X : WV, Wl W (.agg cs.toArray) X ∧ (∀ n ∈ Wd.nums X, Wd.In64 n) ∧ (Rows.uptoBulk y.1 ≤ 1048576 → WSmall X) := by
  obtain ⟨f0, f1, f2, f3, f4, f5, he, o0, t0, o1, t1, o2, t2, o3, t3, o4, t4, o5, t5⟩ := world_flds
  obtain ⟨xs, m, -, rfl, hlen, hxl, hf⟩ := DataW.trod_struct he h
  have csi : Tryd.prog.cellsOf 3 = 1 := by kernel_rfl
  have csf : Tryd.prog.cellsOf 25 = 4 := by kernel_rfl
  have csl : Tryd.prog.cellsOf 23 = 1 := by kernel_rfl
  have csu : Tryd.prog.cellsOf 26 = 1 := by kernel_rfl
  have csj : Tryd.prog.cellsOf 27 = 1 := by kernel_rfl
  have csk : Tryd.prog.cellsOf 29 = 9 := by kernel_rfl
  rw [csk] at hlen
  match cs, hlen with
  | [v0, v1, v2, v3, v4, v5, v6, v7, v8], _ =>
    have hx : xs.length = 6 := hxl
    match xs, hx with
    | [x0, x1, x2, x3, x4, x5], _ =>
      have g0 := hf 0 f0 rfl
      rw [o0, t0, csi] at g0
      have g1 := hf 1 f1 rfl
      rw [o1, t1, csi] at g1
      have g2 := hf 2 f2 rfl
      rw [o2, t2, csf] at g2
      have g3 := hf 3 f3 rfl
      rw [o3, t3, csl] at g3
      have g4 := hf 4 f4 rfl
      rw [o4, t4, csu] at g4
      have g5 := hf 5 f5 rfl
      rw [o5, t5, csj] at g5
      obtain ⟨m0, e0, -, w0⟩ := DataW.trod_int Tryd.underlying3 g0
      obtain ⟨m1, e1, -, w1⟩ := DataW.trod_int Tryd.underlying3 g1
      obtain ⟨r0, r1, r2, r3, he', p0, s0, p1, s1, p2, s2, p3, s3⟩ := field_flds
      obtain ⟨ys, m', -, rfl, hlen', hyl, hg⟩ := DataW.trod_struct he' g2
      have hy : ys.length = 4 := hyl
      match ys, hy with
      | [y0, y1, y2, y3], _ =>
        have k0 := hg 0 r0 rfl
        rw [p0, s0, csi] at k0
        have k1 := hg 1 r1 rfl
        rw [p1, s1, csi] at k1
        have k2 := hg 2 r2 rfl
        rw [p2, s2, csl] at k2
        have k3 := hg 3 r3 rfl
        rw [p3, s3, csl] at k3
        obtain ⟨m2, e2, -, w2⟩ := DataW.trod_int Tryd.underlying3 k0
        obtain ⟨m3, e3, -, w3⟩ := DataW.trod_int Tryd.underlying3 k1
        simp at e0 e1 e2 e3
        subst e0 e1 e2 e3
        obtain ⟨gs, hgs, igs, bgs⟩ := open_row64 k2
        obtain ⟨os, hos, ios, bos⟩ := open_row64 k3
        obtain ⟨gold, hgold, igold, bgold⟩ := open_row64 g3
        obtain ⟨us, hus, ius, bus⟩ := open_uns64 g4
        obtain ⟨qs, hqs, iqs, bqs⟩ := open_jbs64 g5
        have lu : Wd.In64 (us.length : Int) := by
          obtain ⟨a, c, -, h1, h2, -⟩ := hus
          unfold Wd.In64; omega
        have lq : Wd.In64 (qs.length : Int) := by
          obtain ⟨a, c, -, h1, h2, -⟩ := hqs
          unfold Wd.In64; omega
        refine ⟨⟨m0, m1, m2, m3, gs, os, gold, us, qs⟩, ⟨_, _, _, _, _, rfl, hgs, hos, hgold, hus, hqs⟩, ?_, ?_⟩
        · intro n hn
          simp only [Wd.nums, List.mem_append, List.mem_cons, List.not_mem_nil, or_false, List.mem_flatMap] at hn
          rcases hn with (((((rfl | rfl | rfl | rfl) | (rfl | hn)) | (rfl | hn)) | (rfl | hn)) | (rfl | ⟨u, hu, hn⟩)) | (rfl | ⟨u, hu, hn⟩)
          · exact in64_of_wf w0
          · exact in64_of_wf w1
          · exact in64_of_wf w2
          · exact in64_of_wf w3
          · exact ro_len hgs
          · exact igs _ hn
          · exact ro_len hos
          · exact ios _ hn
          · exact ro_len hgold
          · exact igold _ hn
          · exact lu
          · exact ius u hu n hn
          · exact lq
          · exact iqs u hu n hn
        · intro hb
          simp only [Rows.uptoBulk, Rows.uptoBulkAll, List.map_cons, List.map_nil] at hb
          exact ⟨by simp only; omega, by simp only; omega, by simp only; omega, by simp only; omega, by simp only; omega⟩
set_option maxRecDepth 100000 in
theorem world_in {H : Type} {enc : TypeId × Value → H} {W : World} {base b0 : Nat} {held : Bool} {v : Value} {d : DataW H} {p : List MemPlace} (hv : Value.okWide Tryd.prog W .any b0 29 v) (h : DataW.Trod enc Tryd.prog W base (fun _ => true) held 29 v d p) :
    ∃ X : WV, Wl W v X ∧ (∀ n ∈ Wd.nums X, Wd.In64 n) ∧ (Rows.uptoBulk d ≤ 1048576 → WSmall X) := by
  obtain ⟨cs, rfl, hsz⟩ := okWide_struct Tryd.underlying29 hv
  obtain ⟨fuel, hf⟩ := h
  have := open_world64 hf
  simpa [Value.cells] using this
end Go.Proofs.YtmhnidhcaceinaaDoor

namespace Go.Proofs.YtmhnidhcaceinaaDoor
open Go.ChangeShapes Go.WideShapes Go.ChangeAt Go.RowKit
set_option linter.unusedVariables false

theorem kind_fields : ∃ f0 f1 f2 f3 f4 f5 f6 f7 f8 f9 f10 : Field, Tryd.prog.underlying 41 = some (.struct #[f0, f1, f2, f3, f4, f5, f6, f7, f8, f9, f10]) ∧
    f0.offset = 0 ∧ f0.type = 9 ∧ f1.offset = 1 ∧ f1.type = 3 ∧ f2.offset = 2 ∧ f2.type = 3 ∧ f3.offset = 3 ∧ f3.type = 3 ∧ f4.offset = 4 ∧ f4.type = 3 ∧ f5.offset = 5 ∧ f5.type = 3 ∧ f6.offset = 6 ∧ f6.type = 3 ∧ f7.offset = 7 ∧ f7.type = 3 ∧ f8.offset = 8 ∧ f8.type = 3 ∧ f9.offset = 9 ∧ f9.type = 4 ∧ f10.offset = 10 ∧ f10.type = 4 := ⟨_, _, _, _, _, _, _, _, _, _, _, Tryd.underlying41, rfl, rfl, rfl, rfl, rfl, rfl, rfl, rfl, rfl, rfl, rfl, rfl, rfl, rfl, rfl, rfl, rfl, rfl, rfl, rfl, rfl, rfl⟩


set_option maxRecDepth 100000 in
theorem open_kind {H : Type} {enc : TypeId × Value → H} {W : World} {base : Nat} {held : Bool} {fuel : Nat} {cs : List Value} {y : DataW H × List MemPlace} (h : DataW.trod enc Tryd.prog W base (fun _ => true) held fuel 41 cs = some y) :
    ∃ k : KV, cs = [.string k.b, .int .i64 k.n0, .int .i64 k.n1, .int .i64 k.n2, .int .i64 k.n3, .int .i64 k.n4, .int .i64 k.n5, .int .i64 k.n6, .int .i64 k.n7, .bool k.f, .bool k.t] ∧ k.b.size ≤ maxLen := by
  obtain ⟨f0, f1, f2, f3, f4, f5, f6, f7, f8, f9, f10, he, o0, t0, o1, t1, o2, t2, o3, t3, o4, t4, o5, t5, o6, t6, o7, t7, o8, t8, o9, t9, o10, t10⟩ := kind_fields
  obtain ⟨xs, n, -, -, hlen, hxl, hf⟩ := DataW.trod_struct he h
  have cs9 : Tryd.prog.cellsOf 9 = 1 := by kernel_rfl
  have cs3 : Tryd.prog.cellsOf 3 = 1 := by kernel_rfl
  have cs4 : Tryd.prog.cellsOf 4 = 1 := by kernel_rfl
  have csk : Tryd.prog.cellsOf 41 = 11 := by kernel_rfl
  rw [csk] at hlen
  match cs, hlen with
  | [v0, v1, v2, v3, v4, v5, v6, v7, v8, v9, v10], _ =>
    have hx11 : xs.length = 11 := hxl
    match xs, hx11 with
    | [x0, x1, x2, x3, x4, x5, x6, x7, x8, x9, x10], _ =>
      have g0 := hf 0 f0 rfl
      rw [o0, t0, cs9] at g0
      have g1 := hf 1 f1 rfl
      rw [o1, t1, cs3] at g1
      have g2 := hf 2 f2 rfl
      rw [o2, t2, cs3] at g2
      have g3 := hf 3 f3 rfl
      rw [o3, t3, cs3] at g3
      have g4 := hf 4 f4 rfl
      rw [o4, t4, cs3] at g4
      have g5 := hf 5 f5 rfl
      rw [o5, t5, cs3] at g5
      have g6 := hf 6 f6 rfl
      rw [o6, t6, cs3] at g6
      have g7 := hf 7 f7 rfl
      rw [o7, t7, cs3] at g7
      have g8 := hf 8 f8 rfl
      rw [o8, t8, cs3] at g8
      have g9 := hf 9 f9 rfl
      rw [o9, t9, cs4] at g9
      have g10 := hf 10 f10 rfl
      rw [o10, t10, cs4] at g10
      obtain ⟨b, e0, -, hb⟩ := DataW.trod_string Tryd.underlying9 g0
      obtain ⟨m1, e1, -, -⟩ := DataW.trod_int Tryd.underlying3 g1
      obtain ⟨m2, e2, -, -⟩ := DataW.trod_int Tryd.underlying3 g2
      obtain ⟨m3, e3, -, -⟩ := DataW.trod_int Tryd.underlying3 g3
      obtain ⟨m4, e4, -, -⟩ := DataW.trod_int Tryd.underlying3 g4
      obtain ⟨m5, e5, -, -⟩ := DataW.trod_int Tryd.underlying3 g5
      obtain ⟨m6, e6, -, -⟩ := DataW.trod_int Tryd.underlying3 g6
      obtain ⟨m7, e7, -, -⟩ := DataW.trod_int Tryd.underlying3 g7
      obtain ⟨m8, e8, -, -⟩ := DataW.trod_int Tryd.underlying3 g8
      obtain ⟨bf, e9, -⟩ := DataW.trod_bool Tryd.underlying4 g9
      obtain ⟨bt, e10, -⟩ := DataW.trod_bool Tryd.underlying4 g10
      simp at e0 e1 e2 e3 e4 e5 e6 e7 e8 e9 e10
      subst e0 e1 e2 e3 e4 e5 e6 e7 e8 e9 e10
      exact ⟨⟨b, m1, m2, m3, m4, m5, m6, m7, m8, bf, bt⟩, rfl, hb⟩

/-- kinds that came in. -/
theorem open_kinds {H : Type} {enc : TypeId × Value → H} {W : World} {base : Nat} {held : Bool} {fuel : Nat} {v : Value} {y : DataW H × List MemPlace} (h : DataW.trod enc Tryd.prog W base (fun _ => true) held fuel 22 [v] = some y) :
    ∃ ks : List KV, Kl W v ks ∧ ∀ k ∈ ks, k.b.size ≤ maxLen := by
  have csk : Tryd.prog.cellsOf 41 = 11 := by kernel_rfl
  rcases Go.Deep.open_slice Tryd.underlying22 h with ⟨hcs, -⟩ | ⟨a, len, cap, m, n, D, Pl, hcs, hb, hl, hm, hmm, -, hx⟩
  · simp at hcs
    subst hcs
    exact ⟨[], ⟨none, 0, rfl, Nat.le_refl _, by omega, fun h => absurd rfl h⟩, by simp⟩
  · simp at hcs
    subst hcs
    have hlm : len ≤ m := by rw [hmm]; simp; exact hl
    have each : ∀ i, i < len → ∃ k : KV, Kc W (a.add (i * 11)) k ∧ k.b.size ≤ maxLen := by
      intro i hi
      obtain ⟨cs', h1, h2⟩ := hx i (by omega)
      obtain ⟨k, rfl, hk⟩ := open_kind h2
      rw [csk] at h1
      obtain ⟨-, -, hcell⟩ := World.cells?_some h1
      refine ⟨k, ?_, hk⟩
      generalize a.add (i * 11) = y at *
      exact ⟨hcell 0 (by decide), hcell 1 (by decide), hcell 2 (by decide), hcell 3 (by decide), hcell 4 (by decide), hcell 5 (by decide), hcell 6 (by decide), hcell 7 (by decide), hcell 8 (by decide), hcell 9 (by decide), hcell 10 (by decide)⟩
    have inh : Inhabited KV := ⟨⟨ByteArray.empty, 0, 0, 0, 0, 0, 0, 0, 0, false, false⟩⟩
    obtain ⟨q, hq⟩ := Go.Deep.choose_lt each
    refine ⟨(List.range len).map q, ⟨some a, cap, by simp, by simpa using hl, by unfold maxLen at hm; omega, fun hn => ⟨a, rfl, ?_, fun i k hk => ?_⟩⟩, ?_⟩
    · have h0 : 0 < len := by
        rcases Nat.eq_zero_or_pos len with h | h
        · subst h; simp at hn
        · exact h
      have := (hq 0 h0).1.lt
      rwa [add_block] at this
    · have hi : i < len := by
        have := (List.getElem?_eq_some_iff.1 hk).1
        simpa using this
      rw [List.getElem?_map, List.getElem?_range hi] at hk
      injection hk with hk
      subst hk
      exact (hq i hi).1
    · intro k hk
      obtain ⟨i, hi, rfl⟩ := List.mem_map.1 hk
      exact (hq i (List.mem_range.1 hi)).2
set_option maxRecDepth 100000 in
theorem kinds_in {H : Type} {enc : TypeId × Value → H} {W : World} {base b0 : Nat} {held : Bool} {v : Value} {d : DataW H} {p : List MemPlace} (hv : Value.okWide Tryd.prog W .any b0 22 v) (h : DataW.Trod enc Tryd.prog W base (fun _ => true) held 22 v d p) :
    ∃ ks : List KV, Kl W v ks ∧ ∀ k ∈ ks, k.b.size ≤ maxLen := by
  obtain ⟨a, len, cap, rfl⟩ := okWide_slice Tryd.underlying22 hv
  obtain ⟨fuel, hf⟩ := h
  exact open_kinds hf
end Go.Proofs.YtmhnidhcaceinaaDoor

namespace Go.Proofs.YtmhnidhcaceinaaDoor
open Go.ChangeShapes Go.WideShapes Go.ChangeAt Go.RowKit
set_option linter.unusedVariables false

theorem sides_g : Tryd.prog.globalNamed "marchland/field.sides" = some 0 := by kernel_rfl
theorem sides_t : (Tryd.prog.globals[0]?).map (·.type) = some 128 := by kernel_rfl
theorem side_cs : Tryd.prog.cellsOf 127 = 2 := by kernel_rfl
theorem int_cs : Tryd.prog.cellsOf 3 = 1 := by kernel_rfl

theorem len2 {α : Type} {l : List α} (h : l.length = 2) : ∃ a b, l = [a, b] := by
  match l, h with
  | [a, b], _ => exact ⟨a, b, rfl⟩
theorem len4 {α : Type} {l : List α} (h : l.length = 4) : ∃ a b c d, l = [a, b, c, d] := by
  match l, h with
  | [a, b, c, d], _ => exact ⟨a, b, c, d, rfl⟩

set_option maxRecDepth 100000 in
theorem side_cells {w : World} {fuel : Nat} {cs : List Value} {a b : Int} {y : DataW Unit × List MemPlace} (h : DataW.trod (fun _ => ()) Tryd.prog w 0 (fun _ => true) false fuel 127 cs = some y) (hy : y.1 = .agg [.lit (.int .i64 a), .lit (.int .i64 b)]) : cs = [.int .i64 a, .int .i64 b] := by
  obtain ⟨y0, y1, n, hx, hl, h0, h1⟩ := trod_struct2 Tryd.underlying127 h
  obtain ⟨p, e0, f0, -⟩ := DataW.trod_int Tryd.underlying3 h0
  obtain ⟨q, e1, f1, -⟩ := DataW.trod_int Tryd.underlying3 h1
  rw [hx, f0, f1] at hy
  simp only [DataW.agg.injEq, List.cons.injEq, DataW.lit.injEq, Lit.int.injEq, true_and, and_true] at hy
  obtain ⟨rfl, rfl⟩ := hy
  dsimp only at e0 e1
  rw [int_cs] at e0 e1
  rw [side_cs] at hl
  obtain ⟨c0, c1, rfl⟩ := len2 hl
  simp at e0 e1
  rw [e0, e1]

set_option maxRecDepth 100000 in
theorem sd_of_laid {w : World} (h : laidMet Tryd.prog [("marchland/field.sides", Rows.laid_marchland_field_sides)] w) : Sd w := by
  obtain ⟨ps, ⟨g, t, cs, fuel, p, q, h1, h2, h3, h4, -, -⟩, -, -⟩ := h
  obtain rfl := Option.some.inj (sides_g.symm.trans h1)
  obtain rfl := Option.some.inj (sides_t.symm.trans h2)
  obtain ⟨xs, m, -, hx, hl, hn, hi⟩ := DataW.trod_array Tryd.underlying128 h4
  have hd : xs.map (·.1) = [.agg [.lit (.int .i64 0), .lit (.int .i64 (-1))], .agg [.lit (.int .i64 (-1)), .lit (.int .i64 0)], .agg [.lit (.int .i64 1), .lit (.int .i64 0)], .agg [.lit (.int .i64 0), .lit (.int .i64 1)]] := by
    have e : Rows.laid_marchland_field_sides = DataW.agg (xs.map (·.1)) := congrArg Prod.fst hx
    unfold Rows.laid_marchland_field_sides at e
    injection e with e
    exact e.symm
  obtain ⟨x0, x1, x2, x3, rfl⟩ := len4 hn
  simp only [List.map_cons, List.map_nil, List.cons.injEq, and_true] at hd
  obtain ⟨d0, d1, d2, d3⟩ := hd
  have i0 := side_cells (hi 0 (by decide)) d0
  have i1 := side_cells (hi 1 (by decide)) d1
  have i2 := side_cells (hi 2 (by decide)) d2
  have i3 := side_cells (hi 3 (by decide)) d3
  rw [side_cs] at i0 i1 i2 i3
  have ec : ∀ k : Nat, w.cell? ⟨0, k, none⟩ = cs.toList[k]? := fun k => by
    have e := World.var?_cell sides_g h3 k
    rw [e, Array.getElem?_toList]
  have g0 : ∀ k a b, (cs.toList.drop (k * 2)).take 2 = [.int .i64 a, .int .i64 b] → cs.toList[k * 2]? = some (.int .i64 a) ∧ cs.toList[k * 2 + 1]? = some (.int .i64 b) := by
    intro k a b e
    constructor
    · have := congrArg (fun l => l[0]?) e
      simpa [List.getElem?_take, List.getElem?_drop] using this
    · have := congrArg (fun l => l[1]?) e
      simpa [List.getElem?_take, List.getElem?_drop] using this
  have j0 := g0 0 _ _ i0
  have j1 := g0 1 _ _ i1
  have j2 := g0 2 _ _ i2
  have j3 := g0 3 _ _ i3
  exact ⟨(ec 0).trans j0.1, (ec 1).trans j0.2, (ec 2).trans j1.1, (ec 3).trans j1.2, (ec 4).trans j2.1, (ec 5).trans j2.2, (ec 6).trans j3.1, (ec 7).trans j3.2⟩
end Go.Proofs.YtmhnidhcaceinaaDoor

namespace Go.Proofs.YtmhnidhcaceinaaDoor.worksSpots
open Go.RowKit
set_option linter.unusedVariables false

set_option maxRecDepth 100000 in
set_option maxHeartbeats 50000000 in
theorem walk (vk : Value) (ks : List KV) (vw : Value) (X : WV) (unit kind : Int) (w : World)
    (h0 : Kl w vk ks ∧ ∀ k ∈ ks, k.b.size ≤ maxLen) (h1 : Wl w vw X ∧ ∀ n ∈ Wd.nums X, Wd.In64 n) (h2 : (Lit.int .i64 unit).wf = true) (h3 : (Lit.int .i64 kind).wf = true) (hsd : Sd w) :
    Calls Tryd.prog 6 #[vk, vw, .int .i64 unit, .int .i64 kind] w fun e w' => e = .returned (.bool true) ∧ Below w.heap.size w w' := by
  have K : Hid (Kl w vk ks ∧ ∀ k ∈ ks, k.b.size ≤ 9223372036854775807) := ⟨h0.1, fun k hk => by have := h0.2 k hk; unfold maxLen at this; omega⟩
  have H : Hid (Wl w vw X) := h1.1
  have S : Hid (Sd w) := hsd
  obtain ⟨p1, q1, p2, q2, p3, q3, p4, q4, p5, q5, rfl⟩ := wl_shape9 h1.1
  obtain ⟨pk, qk, rfl, ck1, ck2, kc⟩ := h0.1
  have KC : Hid (ks ≠ [] → ∃ x, pk = some x ∧ x.block < w.heap.size ∧ ∀ (i : Nat) k, ks[i]? = some k → Kc w (x.add (i * 11)) k) := kc
  clear h0 h1 h2 h3 kc hsd
  go_enter Tryd.func6, Tryd.ntmps6
  go_upto_region 1 with fail
  have B0 : Hid (Below w.heap.size w (w.alloc (Obj.cells #[.int .i64 X.turn, .int .i64 X.next, .int .i64 X.wide, .int .i64 X.high, .slice p1 X.gs.length q1, .slice p2 X.os.length q2, .slice p3 X.gold.length q3, .slice p4 X.us.length q4, .slice p5 X.qs.length q5] 29))) := (Below.refl _ _).alloc (Nat.le_refl _) _
  have X0 : Hid (Bw (w.alloc (Obj.cells #[.int .i64 X.turn, .int .i64 X.next, .int .i64 X.wide, .int .i64 X.high, .slice p1 X.gs.length q1, .slice p2 X.os.length q2, .slice p3 X.gold.length q3, .slice p4 X.us.length q4, .slice p5 X.qs.length q5] 29)) w.heap.size X (.slice p1 X.gs.length q1) (.slice p2 X.os.length q2) (.slice p3 X.gold.length q3) (.slice p4 X.us.length q4) (.slice p5 X.qs.length q5)) := Bw.mk' X _ _ _ _ _ rfl
  generalize (w.alloc (Obj.cells #[.int .i64 X.turn, .int .i64 X.next, .int .i64 X.wide, .int .i64 X.high, .slice p1 X.gs.length q1, .slice p2 X.os.length q2, .slice p3 X.gold.length q3, .slice p4 X.us.length q4, .slice p5 X.qs.length q5] 29)) = w0 at *
  go_wp2_with fail
  refine (small_any w0).mono ?_
  rintro e w1 ⟨u, rfl, ho, hb⟩
  have B1 : Hid (Below w.heap.size w w1) := B0.out.trans (hb.mono B0.out.size)
  have X1 : Hid (Bw w1 w.heap.size X (.slice p1 X.gs.length q1) (.slice p2 X.os.length q2) (.slice p3 X.gold.length q3) (.slice p4 X.us.length q4) (.slice p5 X.qs.length q5)) := X0.out.below hb X0.out.lt
  have LS0 := ho.l
  obtain ⟨y1, y2, y3, y4, y5, rfl, o1, o2, o3, o4, o5⟩ := ho
  obtain ⟨m1, n1, rfl⟩ := o1.len
  obtain ⟨m2, n2, rfl⟩ := o2.len
  obtain ⟨m3, n3, rfl⟩ := o3.len
  obtain ⟨m4, n4, rfl⟩ := o4.len
  obtain ⟨m5, n5, rfl⟩ := o5.len
  have LS : Hid (Wl w1 (.agg #[.int .i64 0, .int .i64 4, .int .i64 4, .int .i64 2, .slice m1 8 n1, .slice m2 8 n2, .slice m3 2 n3, .slice m4 3 n4, .slice m5 0 n5]) S3) := LS0
  obtain ⟨g1, g2, g3, g4, g5, g6, g7, g8, g9⟩ := s3_eqs
  simp only [g1, g2, g3, g4, g5, g6, g7, g8, g9]
  clear g1 g2 g3 g4 g5 g6 g7 g8 g9 hb o1 o2 o3 o4 o5 X0 B0 LS0
  go_upto_region 2 with fail
  have BA : Hid (Below w1.heap.size w1 (w1.alloc (Obj.cells #[.int .i64 0, .int .i64 4, .int .i64 4, .int .i64 2, .slice m1 8 n1, .slice m2 8 n2, .slice m3 2 n3, .slice m4 3 n4, .slice m5 0 n5] 29))) := (Below.refl _ _).alloc (Nat.le_refl _) _
  obtain ⟨z, hz⟩ : ∃ z, w1.heap.size = z := ⟨_, rfl⟩
  have C2 : Hid ((fun V : World => V.cell? ⟨z, 0, none⟩ = some (.int .i64 0) ∧ V.cell? ⟨z, 1, none⟩ = some (.int .i64 4) ∧ V.cell? ⟨z, 2, none⟩ = some (.int .i64 4) ∧ V.cell? ⟨z, 3, none⟩ = some (.int .i64 2) ∧ V.cell? ⟨z, 4, none⟩ = some (.slice m1 8 n1) ∧ V.cell? ⟨z, 5, none⟩ = some (.slice m2 8 n2) ∧ V.cell? ⟨z, 6, none⟩ = some (.slice m3 2 n3) ∧ V.cell? ⟨z, 7, none⟩ = some (.slice m4 3 n4) ∧ V.cell? ⟨z, 8, none⟩ = some (.slice m5 0 n5)) (w1.alloc (Obj.cells #[.int .i64 0, .int .i64 4, .int .i64 4, .int .i64 2, .slice m1 8 n1, .slice m2 8 n2, .slice m3 2 n3, .slice m4 3 n4, .slice m5 0 n5] 29))) := by
    subst hz
    exact ⟨by simp, by simp, by simp, by simp, by simp, by simp, by simp, by simp, by simp⟩
  have ZL : Hid (z < (w1.alloc (Obj.cells #[.int .i64 0, .int .i64 4, .int .i64 4, .int .i64 2, .slice m1 8 n1, .slice m2 8 n2, .slice m3 2 n3, .slice m4 3 n4, .slice m5 0 n5] 29)).heap.size) := by unfold Hid; rw [← hz]; simp
  generalize (w1.alloc (Obj.cells #[.int .i64 0, .int .i64 4, .int .i64 4, .int .i64 2, .slice m1 8 n1, .slice m2 8 n2, .slice m3 2 n3, .slice m4 3 n4, .slice m5 0 n5] 29)) = w2 at *
  have B2 : Hid (Below w.heap.size w w2) := B1.out.trans (BA.out.mono B1.out.size)
  have X2 : Hid (Bw w2 w.heap.size X (.slice p1 X.gs.length q1) (.slice p2 X.os.length q2) (.slice p3 X.gold.length q3) (.slice p4 X.us.length q4) (.slice p5 X.qs.length q5)) := X1.out.below BA.out X1.out.lt
  have L2 : Hid (Wl w2 (.agg #[.int .i64 0, .int .i64 4, .int .i64 4, .int .i64 2, .slice m1 8 n1, .slice m2 8 n2, .slice m3 2 n3, .slice m4 3 n4, .slice m5 0 n5]) S3) := LS.out.below BA.out
  rw [hz]
  clear X1 B1 BA LS hz
  go_upto_region 4 with fail
  refine wp_region_two [(true, 1), (false, 0), (false, 2), (true, 3)] [(true, 4), (true, 5), (false, 6), (false, 7)] (fun V => V.cell? ⟨z, 0, none⟩ = some (.int .i64 0) ∧ V.cell? ⟨z, 1, none⟩ = some (.int .i64 4) ∧ V.cell? ⟨z, 2, none⟩ = some (.int .i64 4) ∧ V.cell? ⟨z, 3, none⟩ = some (.int .i64 2) ∧ V.cell? ⟨z, 4, none⟩ = some (.slice m1 8 n1) ∧ V.cell? ⟨z, 5, none⟩ = some (.slice m2 8 n2) ∧ V.cell? ⟨z, 6, none⟩ = some (.slice m3 2 n3) ∧ V.cell? ⟨z, 7, none⟩ = some (.slice m4 3 n4) ∧ V.cell? ⟨z, 8, none⟩ = some (.slice m5 0 n5)) (by kernel_rfl) (by kernel_rfl) (by kernel_rfl) (by decide +kernel) (by decide +kernel) C2.out ?_
  have CB : Hid (∀ (A B : World) (n : Nat), z < n → Below n A B → (fun V : World => V.cell? ⟨z, 0, none⟩ = some (.int .i64 0) ∧ V.cell? ⟨z, 1, none⟩ = some (.int .i64 4) ∧ V.cell? ⟨z, 2, none⟩ = some (.int .i64 4) ∧ V.cell? ⟨z, 3, none⟩ = some (.int .i64 2) ∧ V.cell? ⟨z, 4, none⟩ = some (.slice m1 8 n1) ∧ V.cell? ⟨z, 5, none⟩ = some (.slice m2 8 n2) ∧ V.cell? ⟨z, 6, none⟩ = some (.slice m3 2 n3) ∧ V.cell? ⟨z, 7, none⟩ = some (.slice m4 3 n4) ∧ V.cell? ⟨z, 8, none⟩ = some (.slice m5 0 n5)) A → (fun V : World => V.cell? ⟨z, 0, none⟩ = some (.int .i64 0) ∧ V.cell? ⟨z, 1, none⟩ = some (.int .i64 4) ∧ V.cell? ⟨z, 2, none⟩ = some (.int .i64 4) ∧ V.cell? ⟨z, 3, none⟩ = some (.int .i64 2) ∧ V.cell? ⟨z, 4, none⟩ = some (.slice m1 8 n1) ∧ V.cell? ⟨z, 5, none⟩ = some (.slice m2 8 n2) ∧ V.cell? ⟨z, 6, none⟩ = some (.slice m3 2 n3) ∧ V.cell? ⟨z, 7, none⟩ = some (.slice m4 3 n4) ∧ V.cell? ⟨z, 8, none⟩ = some (.slice m5 0 n5)) B) := fun A B n hn hb h => by
    obtain ⟨f0, f1, f2, f3, f4, f5, f6, f7, f8⟩ := h
    exact ⟨by rw [hb.cell (p := ⟨z, 0, none⟩) hn]; exact f0, by rw [hb.cell (p := ⟨z, 1, none⟩) hn]; exact f1, by rw [hb.cell (p := ⟨z, 2, none⟩) hn]; exact f2, by rw [hb.cell (p := ⟨z, 3, none⟩) hn]; exact f3, by rw [hb.cell (p := ⟨z, 4, none⟩) hn]; exact f4, by rw [hb.cell (p := ⟨z, 5, none⟩) hn]; exact f5, by rw [hb.cell (p := ⟨z, 6, none⟩) hn]; exact f6, by rw [hb.cell (p := ⟨z, 7, none⟩) hn]; exact f7, by rw [hb.cell (p := ⟨z, 8, none⟩) hn]; exact f8⟩
  have D3 : Hid (Below w2.heap.size w2 { w2 with drawn := w2.drawn + 1 }) := (Below.refl _ _).drew
  have C3 : Hid ((fun V : World => V.cell? ⟨z, 0, none⟩ = some (.int .i64 0) ∧ V.cell? ⟨z, 1, none⟩ = some (.int .i64 4) ∧ V.cell? ⟨z, 2, none⟩ = some (.int .i64 4) ∧ V.cell? ⟨z, 3, none⟩ = some (.int .i64 2) ∧ V.cell? ⟨z, 4, none⟩ = some (.slice m1 8 n1) ∧ V.cell? ⟨z, 5, none⟩ = some (.slice m2 8 n2) ∧ V.cell? ⟨z, 6, none⟩ = some (.slice m3 2 n3) ∧ V.cell? ⟨z, 7, none⟩ = some (.slice m4 3 n4) ∧ V.cell? ⟨z, 8, none⟩ = some (.slice m5 0 n5)) { w2 with drawn := w2.drawn + 1 }) := C2.out
  generalize ({ w2 with drawn := w2.drawn + 1 } : World) = w3 at *
  have B3 : Hid (Below w.heap.size w w3) := B2.out.trans (D3.out.mono B2.out.size)
  have X3 : Hid (Bw w3 w.heap.size X (.slice p1 X.gs.length q1) (.slice p2 X.os.length q2) (.slice p3 X.gold.length q3) (.slice p4 X.us.length q4) (.slice p5 X.qs.length q5)) := X2.out.below D3.out X2.out.lt
  have L3 : Hid (Wl w3 (.agg #[.int .i64 0, .int .i64 4, .int .i64 4, .int .i64 2, .slice m1 8 n1, .slice m2 8 n2, .slice m3 2 n3, .slice m4 3 n4, .slice m5 0 n5]) S3) := L2.out.below D3.out
  have Z3 : Hid (z < w3.heap.size) := Nat.lt_of_lt_of_le ZL.out D3.out.size
  clear X2 B2 L2 C2 D3 ZL
  refine headT_read rfl (.agg #[.int .i64 0, .int .i64 4, .int .i64 4, .int .i64 2, .slice m1 8 n1, .slice m2 8 n2, .slice m3 2 n3, .slice m4 3 n4, .slice m5 0 n5]) (by go_simp) (fun V hV => by obtain ⟨f0, f1, f2, f3, f4, f5, f6, f7, f8⟩ := hV; go_simp) ?_
  go_simp
  refine headT_call rfl 19 #[] (by go_simp) (by go_simp) ?_
  refine (sorts_any w3).mono ?_
  rintro e w4 ⟨ku, rfl, hk, hb⟩
  have K4 : Hid (Kl w4 ku SK) := hk
  have C4 : Hid ((fun V : World => V.cell? ⟨z, 0, none⟩ = some (.int .i64 0) ∧ V.cell? ⟨z, 1, none⟩ = some (.int .i64 4) ∧ V.cell? ⟨z, 2, none⟩ = some (.int .i64 4) ∧ V.cell? ⟨z, 3, none⟩ = some (.int .i64 2) ∧ V.cell? ⟨z, 4, none⟩ = some (.slice m1 8 n1) ∧ V.cell? ⟨z, 5, none⟩ = some (.slice m2 8 n2) ∧ V.cell? ⟨z, 6, none⟩ = some (.slice m3 2 n3) ∧ V.cell? ⟨z, 7, none⟩ = some (.slice m4 3 n4) ∧ V.cell? ⟨z, 8, none⟩ = some (.slice m5 0 n5)) w4) := CB.out w3 w4 _ Z3.out hb C3.out
  have B4 : Hid (Below w.heap.size w w4) := B3.out.trans (hb.mono B3.out.size)
  have X4 : Hid (Bw w4 w.heap.size X (.slice p1 X.gs.length q1) (.slice p2 X.os.length q2) (.slice p3 X.gold.length q3) (.slice p4 X.us.length q4) (.slice p5 X.qs.length q5)) := X3.out.below hb X3.out.lt
  have L4 : Hid (Wl w4 (.agg #[.int .i64 0, .int .i64 4, .int .i64 4, .int .i64 2, .slice m1 8 n1, .slice m2 8 n2, .slice m3 2 n3, .slice m4 3 n4, .slice m5 0 n5]) S3) := L3.out.below hb
  have Z4 : Hid (z < w4.heap.size) := Nat.lt_of_lt_of_le Z3.out hb.size
  clear hk hb X3 B3 L3 C3 Z3
  refine ⟨_, rfl, C4.out, ?_⟩
  go_simp
  refine headT_call rfl 30 #[ku, .agg #[.int .i64 0, .int .i64 4, .int .i64 4, .int .i64 2, .slice m1 8 n1, .slice m2 8 n2, .slice m3 2 n3, .slice m4 3 n4, .slice m5 0 n5], .int .i64 1, .int .i64 1] (by go_simp) (by go_simp) ?_
  refine (spot_any ku _ SK S3 1 1 w4 K4.out sm_names L4.out (S.out.below B4.out)).mono ?_
  rintro e w5 ⟨c, r, F, rfl, hr, hy, hb⟩
  obtain ⟨rfl, rfl⟩ := sm_spot hy
  obtain rfl := er_zero hr
  have C5 : Hid ((fun V : World => V.cell? ⟨z, 0, none⟩ = some (.int .i64 0) ∧ V.cell? ⟨z, 1, none⟩ = some (.int .i64 4) ∧ V.cell? ⟨z, 2, none⟩ = some (.int .i64 4) ∧ V.cell? ⟨z, 3, none⟩ = some (.int .i64 2) ∧ V.cell? ⟨z, 4, none⟩ = some (.slice m1 8 n1) ∧ V.cell? ⟨z, 5, none⟩ = some (.slice m2 8 n2) ∧ V.cell? ⟨z, 6, none⟩ = some (.slice m3 2 n3) ∧ V.cell? ⟨z, 7, none⟩ = some (.slice m4 3 n4) ∧ V.cell? ⟨z, 8, none⟩ = some (.slice m5 0 n5)) w5) := CB.out w4 w5 _ Z4.out hb C4.out
  have B5 : Hid (Below w.heap.size w w5) := B4.out.trans (hb.mono B4.out.size)
  have X5 : Hid (Bw w5 w.heap.size X (.slice p1 X.gs.length q1) (.slice p2 X.os.length q2) (.slice p3 X.gold.length q3) (.slice p4 X.us.length q4) (.slice p5 X.qs.length q5)) := X4.out.below hb X4.out.lt
  clear hb hr hy X4 B4 L4 C4 Z4 K4
  refine ⟨_, rfl, C5.out, ?_⟩
  clear C5 CB
  go_simp
  refine headT_read rfl (.tuple #[.int .i64 4, .nilIface]) (by go_simp) (fun V hV => by go_simp) ?_
  go_simp
  refine sched_read rfl (.int .i64 4) (by go_simp) (fun V hV => by go_simp) ?_
  go_simp
  refine sched_read rfl .nilIface (by go_simp) (fun V hV => by go_simp) ?_
  go_simp
  refine sched_value rfl (.int .i64 4) w5 (by go_simp) (by go_simp) trivial ?_
  go_simp
  refine sched_value rfl .nilIface w5 (by go_simp) (by go_simp) trivial ?_
  go_simp
  unfold wpSched
  obtain ⟨x0, x1, x2, x3, x4, x5, x6, x7, x8⟩ := X5.out
  go_wp2_with fail
  refine (spot_any _ _ ks X unit kind w5 (K.out.1.below B5.out) K.out.2 (H.out.below B5.out) (S.out.below B5.out)).mono ?_
  rintro e w6 ⟨c, r, F, rfl, hr, hy, hb⟩
  have B6 : Hid (Below w.heap.size w w6) := B5.out.trans (hb.mono B5.out.size)
  have X6 : Hid (Bw w6 w.heap.size X (.slice p1 X.gs.length q1) (.slice p2 X.os.length q2) (.slice p3 X.gold.length q3) (.slice p4 X.us.length q4) (.slice p5 X.qs.length q5)) := X5.out.below hb X5.out.lt
  have SY : Hid (SpotSays ks X unit kind c F) := hy
  clear hb hy x0 x1 x2 x3 x4 x5 x6 x7 x8 X5 B5
  rcases hr with ⟨rfl, rfl⟩ | ⟨hf, rfl⟩
  case inr =>
    go_wp2
    go_ret
    exact ⟨rfl, B6.out⟩
  obtain ⟨WZ, i, kn, Wn, Hn, an, u, k, l, hfi, hui, rfl, hkk, hwd, hhg, G, hat, hal, hl, hn⟩ : Wd.wfault ks X = 0 ∧ ∃ (i kn Wn Hn an : Nat) (u : UnV) (k : KV) (l : List Int), FstU (fun u => u.id == unit) X.us (i : Nat) ∧ X.us[i]? = some u ∧ kind = (kn : Nat) ∧ ks[kn]? = some k ∧ X.wide = (Wn : Nat) ∧ X.high = (Hn : Nat) ∧ Fd.Good Wn Hn X.gs X.os ∧ u.at_ = (an : Nat) ∧ an < Wn * Hn
      ∧ Wy.IsFar (Fd.near Wn Hn) (fun i _ => (X.gs.map fun g => Fd.onto g k.f).getD i 0) an (Wn * Hn) l ∧ NearSays l (Wn * Hn) (freeAt X.us) c 0 := by
    rcases SY.out with ⟨h, h', -⟩ | ⟨-, -, h, -⟩ | ⟨-, -, -, h, -⟩ | h
    · exact absurd h'.symm h
    · cases h
    · cases h
    · exact h
  obtain ⟨cn, g, rfl, hcn, hg, hst, hno, hd0, hd3⟩ := spot_near G hal hl (List.any_eq_true.2 ⟨u, List.mem_of_getElem? hui, by rw [hat]; simp⟩) hn
  have FI : Hid (FstU (fun u => u.id == unit) X.us (i : Nat)) := hfi
  have GD : Hid (X.wide = (Wn : Nat) ∧ X.high = (Hn : Nat) ∧ Fd.Good Wn Hn X.gs X.os ∧ an < Wn * Hn ∧ cn < Wn * Hn ∧ X.gs[cn]? = some g ∧ 0 < Fd.onto g k.f) := ⟨hwd, hhg, G, hal, hcn, hg, hst⟩
  have FR : Hid (Wy.IsFar (Fd.near Wn Hn) (fun i _ => (X.gs.map fun g => Fd.onto g k.f).getD i 0) an (Wn * Hn) l ∧ 0 < l.getD cn 0 ∧ l.getD cn 0 ≤ 3) := ⟨hl, hd0, hd3⟩
  have NO : Hid (X.us.any (fun u => u.at_ == (cn : Int)) = false) := hno
  have UI : Hid (X.us[i]? = some u ∧ u.at_ = (an : Nat)) := ⟨hui, hat⟩
  have hil : i < X.us.length := (List.getElem?_eq_some_iff.1 hui).1
  have hkl : kn < ks.length := (List.getElem?_eq_some_iff.1 hkk).1
  have hcl : cn < X.gs.length := by rw [G.gl]; exact hcn
  obtain ⟨pa, pc, he, -, -, hu⟩ := H.out.slices.2.2.2.1
  obtain ⟨xu, hxu, hxul, hxuc⟩ := hu (by intro h; rw [h] at hil; simp at hil)
  injection he with he1 he2 he3
  subst he1
  subst hxu
  obtain ⟨xk, hxk, hxl, hxc⟩ := KC.out (by intro h; subst h; simp at hkl)
  subst hxk
  have UK : Hid (Unc w (xu.add (i * 8)) u ∧ (xu.add (i * 8)).block < w.heap.size ∧ Kc w (xk.add (kn * 11)) k ∧ (xk.add (kn * 11)).block < w.heap.size) := ⟨hxuc i u hui, by rw [add_block]; exact hxul, hxc kn k hkk, by rw [add_block]; exact hxl⟩
  clear hu he2 he3 hxul hxuc hxl hxc hwd hhg G hkk KC hat hl hn hfi hui hg hst hno hd0 hd3 SY WZ hal hcn
  obtain ⟨x0, x1, x2, x3, x4, x5, x6, x7, x8⟩ := X6.out
  go_wp2_with fail
  refine (wfind_any _ X unit w6 (H.out.below B6.out)).mono ?_
  rintro e w7 ⟨r, rfl, hf, hb⟩
  obtain rfl := hf.one FI.out
  have B7 : Hid (Below w.heap.size w w7) := B6.out.trans (hb.mono B6.out.size)
  have X7 : Hid (Bw w7 w.heap.size X (.slice p1 X.gs.length q1) (.slice p2 X.os.length q2) (.slice p3 X.gold.length q3) (.slice (some xu) X.us.length q4) (.slice p5 X.qs.length q5)) := X6.out.below hb X6.out.lt
  clear hb hf x0 x1 x2 x3 x4 x5 x6 x7 x8 X6 B6 FI
  have x4 := X7.out.c4
  have hi0 : ¬ ((i : Nat) : Int) < 0 := by omega
  have hc0 : ¬ ((cn : Nat) : Int) < 0 := by omega
  have hcg : ¬ (X.gs.length : Int) ≤ (cn : Nat) := by omega
  go_upto_region 13 with fail
  clear x4
  refine wp_region_two [(true, 0), (true, 1), (true, 2), (true, 3), (true, 4), (true, 5), (true, 6), (true, 7), (false, 8)] [(true, 9), (true, 10), (true, 11), (true, 12), (false, 13)] (fun V => Bw V w.heap.size X (.slice p1 X.gs.length q1) (.slice p2 X.os.length q2) (.slice p3 X.gold.length q3) (.slice (some xu) X.us.length q4) (.slice p5 X.qs.length q5) ∧ V.cell? ⟨(xk.add (kn * 11)).block, (xk.add (kn * 11)).off + 9, none⟩ = some (.bool k.f)) (by kernel_rfl) (by kernel_rfl) (by kernel_rfl) (by decide +kernel) (by decide +kernel) ⟨X7.out.below ((Below.refl _ _).drew) X7.out.lt, (UK.out.2.2.1.below B7.out UK.out.2.2.2).c9⟩ ?_
  have XD : Hid (Bw { w7 with drawn := w7.drawn + 1 } w.heap.size X (.slice p1 X.gs.length q1) (.slice p2 X.os.length q2) (.slice p3 X.gold.length q3) (.slice (some xu) X.us.length q4) (.slice p5 X.qs.length q5)) := X7.out.below ((Below.refl _ _).drew) X7.out.lt
  have BD : Hid (Below w.heap.size w { w7 with drawn := w7.drawn + 1 }) := B7.out.drew
  generalize ({ w7 with drawn := w7.drawn + 1 } : World) = v7 at *
  clear X7 B7
  refine headT_read rfl (.pointer (some ⟨w.heap.size, 2, none⟩)) (by go_simp) (fun V hV => by go_simp) ?_
  go_simp
  refine headT_read rfl (.agg #[.int .i64 X.wide, .int .i64 X.high, .slice p1 X.gs.length q1, .slice p2 X.os.length q2]) (by go_simp) (fun V hV => by obtain ⟨⟨x0, x1, x2, x3, x4, x5, x6, x7, x8⟩, ck⟩ := hV; go_simp) ?_
  go_simp
  refine headT_read rfl (.int .i64 (cn : Nat)) (by go_simp) (fun V hV => by go_simp) ?_
  go_simp
  refine headT_read rfl (.slice (some xk) ks.length qk) (by go_simp) (fun V hV => by go_simp) ?_
  go_simp
  refine headT_read rfl (.int .i64 (kn : Nat)) (by go_simp) (fun V hV => by go_simp) ?_
  go_simp
  refine headT_read rfl (.pointer (some (xk.add (kn * 11)))) (by go_simp) (fun V hV => by go_simp) ?_
  go_simp
  refine headT_read rfl (.pointer (some ⟨(xk.add (kn * 11)).block, (xk.add (kn * 11)).off + 9, none⟩)) (by go_simp) (fun V hV => by go_simp) ?_
  go_simp
  refine headT_read rfl (.bool k.f) (by go_simp) (fun V hV => by obtain ⟨⟨x0, x1, x2, x3, x4, x5, x6, x7, x8⟩, ck⟩ := hV; go_simp) ?_
  go_simp
  refine headT_call rfl 20 #[.agg #[.int .i64 X.wide, .int .i64 X.high, .slice p1 X.gs.length q1, .slice p2 X.os.length q2], .int .i64 (cn : Nat), .bool k.f] (by go_simp) (by go_simp) ?_
  have FL : Hid (Fl v7 (.agg #[.int .i64 X.wide, .int .i64 X.high, .slice p1 X.gs.length q1, .slice p2 X.os.length q2]) (Wn : Nat) (Hn : Nat) X.gs X.os) := by
    have := fl_of (H.out.below BD.out)
    rw [GD.out.1, GD.out.2.1] at this
    rw [GD.out.1, GD.out.2.1]
    exact this
  refine (Far_ok _ Wn Hn X.gs X.os cn k.f v7 FL.out (S.out.below BD.out) GD.out.2.2.1 GD.out.2.2.2.2.1).mono ?_
  rintro e w8 ⟨uf, lf, rfl, hro, ⟨hlf, -⟩, hb⟩
  have FB : Hid (lf.getD an 0 = l.getD cn 0) := Wy.far_back (even_to (Nat.pos_of_ne_zero fun h => by have h9 := GD.out.2.2.2.1; rw [h, Nat.zero_mul] at h9; exact absurd h9 (Nat.not_lt_zero _)) X.gs k.f) FR.out.1 hlf GD.out.2.2.2.1 GD.out.2.2.2.2.1
  have LL : Hid (lf.length = Wn * Hn) := hlf.1
  have RF : Hid (Ro w8 uf lf) := hro
  have B8 : Hid (Below w.heap.size w w8) := BD.out.trans (hb.mono BD.out.size)
  have X8 : Hid (Bw w8 w.heap.size X (.slice p1 X.gs.length q1) (.slice p2 X.os.length q2) (.slice p3 X.gold.length q3) (.slice (some xu) X.us.length q4) (.slice p5 X.qs.length q5)) := XD.out.below hb XD.out.lt
  refine ⟨_, rfl, ⟨X8.out, (UK.out.2.2.1.below B8.out UK.out.2.2.2).c9⟩, ?_⟩
  clear hb hro hlf XD BD FL
  go_simp
  refine sched_read rfl (.tuple #[uf, .nilIface]) (by go_simp) (fun V hV => by go_simp) ?_
  go_simp
  refine sched_read rfl uf (by go_simp) (fun V hV => by go_simp) ?_
  go_simp
  refine sched_read rfl .nilIface (by go_simp) (fun V hV => by go_simp) ?_
  go_simp
  refine sched_read rfl uf (by go_simp) (fun V hV => by go_simp) ?_
  go_simp
  refine sched_value rfl .nilIface w8 (by go_simp) (by go_simp) trivial ?_
  go_simp
  unfold wpSched
  go_upto_region 14 with fail
  refine wp_region_two [(true, 0), (true, 1), (true, 2), (true, 3), (true, 4), (true, 5), (true, 6), (true, 7), (false, 8)] [(true, 9), (true, 10), (true, 11), (true, 12), (false, 13)] (fun V => Bw V w.heap.size X (.slice p1 X.gs.length q1) (.slice p2 X.os.length q2) (.slice p3 X.gold.length q3) (.slice (some xu) X.us.length q4) (.slice p5 X.qs.length q5) ∧ V.cell? ⟨(xk.add (kn * 11)).block, (xk.add (kn * 11)).off + 9, none⟩ = some (.bool k.f)) (by kernel_rfl) (by kernel_rfl) (by kernel_rfl) (by decide +kernel) (by decide +kernel) ⟨X8.out.below ((Below.refl _ _).drew) X8.out.lt, (UK.out.2.2.1.below B8.out UK.out.2.2.2).c9⟩ ?_
  have XD : Hid (Bw { w8 with drawn := w8.drawn + 1 } w.heap.size X (.slice p1 X.gs.length q1) (.slice p2 X.os.length q2) (.slice p3 X.gold.length q3) (.slice (some xu) X.us.length q4) (.slice p5 X.qs.length q5)) := X8.out.below ((Below.refl _ _).drew) X8.out.lt
  have BD : Hid (Below w.heap.size w { w8 with drawn := w8.drawn + 1 }) := B8.out.drew
  have RD : Hid (Ro { w8 with drawn := w8.drawn + 1 } uf lf) := RF.out.below ((Below.refl _ _).drew)
  generalize ({ w8 with drawn := w8.drawn + 1 } : World) = v8 at *
  clear X8 B8 RF
  refine headT_read rfl (.pointer (some ⟨w.heap.size, 2, none⟩)) (by go_simp) (fun V hV => by go_simp) ?_
  go_simp
  refine headT_read rfl (.agg #[.int .i64 X.wide, .int .i64 X.high, .slice p1 X.gs.length q1, .slice p2 X.os.length q2]) (by go_simp) (fun V hV => by obtain ⟨⟨x0, x1, x2, x3, x4, x5, x6, x7, x8⟩, ck⟩ := hV; go_simp) ?_
  go_simp
  refine headT_read rfl (.int .i64 (cn : Nat)) (by go_simp) (fun V hV => by go_simp) ?_
  go_simp
  refine headT_read rfl (.slice (some xk) ks.length qk) (by go_simp) (fun V hV => by go_simp) ?_
  go_simp
  refine headT_read rfl (.int .i64 (kn : Nat)) (by go_simp) (fun V hV => by go_simp) ?_
  go_simp
  refine headT_read rfl (.pointer (some (xk.add (kn * 11)))) (by go_simp) (fun V hV => by go_simp) ?_
  go_simp
  refine headT_read rfl (.pointer (some ⟨(xk.add (kn * 11)).block, (xk.add (kn * 11)).off + 9, none⟩)) (by go_simp) (fun V hV => by go_simp) ?_
  go_simp
  refine headT_read rfl (.bool k.f) (by go_simp) (fun V hV => by obtain ⟨⟨x0, x1, x2, x3, x4, x5, x6, x7, x8⟩, ck⟩ := hV; go_simp) ?_
  go_simp
  refine headT_call rfl 27 #[.agg #[.int .i64 X.wide, .int .i64 X.high, .slice p1 X.gs.length q1, .slice p2 X.os.length q2], .int .i64 (cn : Nat), .bool k.f] (by go_simp) (by go_simp) ?_
  have FL : Hid (Fl v8 (.agg #[.int .i64 X.wide, .int .i64 X.high, .slice p1 X.gs.length q1, .slice p2 X.os.length q2]) (Wn : Nat) (Hn : Nat) X.gs X.os) := by
    have := fl_of (H.out.below BD.out)
    rw [GD.out.1, GD.out.2.1] at this
    rw [GD.out.1, GD.out.2.1]
    exact this
  refine (Step_ok _ Wn Hn X.gs X.os cn g k.f v8 FL.out GD.out.2.2.1 GD.out.2.2.2.2.1 GD.out.2.2.2.2.2.1).mono ?_
  rintro e w9 ⟨rfl, hb⟩
  obtain ⟨st, hst⟩ : ∃ s, Fd.onto g k.f = s := ⟨_, rfl⟩
  have ST : Hid (0 < st) := by have := GD.out.2.2.2.2.2.2; rw [hst] at this; exact this
  rw [hst]
  have R9 : Hid (Ro w9 uf lf) := RD.out.below hb
  have B9 : Hid (Below w.heap.size w w9) := BD.out.trans (hb.mono BD.out.size)
  have X9 : Hid (Bw w9 w.heap.size X (.slice p1 X.gs.length q1) (.slice p2 X.os.length q2) (.slice p3 X.gold.length q3) (.slice (some xu) X.us.length q4) (.slice p5 X.qs.length q5)) := XD.out.below hb XD.out.lt
  refine ⟨_, rfl, ⟨X9.out, (UK.out.2.2.1.below B9.out UK.out.2.2.2).c9⟩, ?_⟩
  clear hb hst XD BD FL RD
  go_simp
  refine sched_read rfl (.tuple #[.int .i64 st, .nilIface]) (by go_simp) (fun V hV => by go_simp) ?_
  go_simp
  refine sched_read rfl (.int .i64 st) (by go_simp) (fun V hV => by go_simp) ?_
  go_simp
  refine sched_read rfl .nilIface (by go_simp) (fun V hV => by go_simp) ?_
  go_simp
  refine sched_read rfl (.int .i64 st) (by go_simp) (fun V hV => by go_simp) ?_
  go_simp
  refine sched_value rfl .nilIface w9 (by go_simp) (by go_simp) trivial ?_
  go_simp
  unfold wpSched
  obtain ⟨x0, x1, x2, x3, x4, x5, x6, x7, x8⟩ := X9.out
  go_wp2_with fail
  refine (ron_any _ X (cn : Nat) w9 (H.out.below B9.out)).mono ?_
  rintro e w10 ⟨r, rfl, hf, hb⟩
  have hr1 : r = -1 := by
    rcases hf with ⟨h, -⟩ | ⟨j, y, -, hj, hy, -⟩
    · exact h
    · have : X.us.any (fun u => u.at_ == (cn : Int)) = true := List.any_eq_true.2 ⟨y, List.mem_of_getElem? hj, hy⟩
      rw [NO.out] at this; cases this
  subst hr1
  have BX : Hid (Below w.heap.size w w10) := B9.out.trans (hb.mono B9.out.size)
  have XX : Hid (Bw w10 w.heap.size X (.slice p1 X.gs.length q1) (.slice p2 X.os.length q2) (.slice p3 X.gold.length q3) (.slice (some xu) X.us.length q4) (.slice p5 X.qs.length q5)) := X9.out.below hb X9.out.lt
  have RX : Hid (Ro w10 uf lf) := R9.out.below hb
  clear hb hf x0 x1 x2 x3 x4 x5 x6 x7 x8 X9 B9 R9
  have x7 := XX.out.c7
  have c3 : w10.cell? ⟨(xu.add (i * 8)).block, (xu.add (i * 8)).off + 3, none⟩ = some (.int .i64 (an : Nat)) := by rw [← UI.out.2]; exact (UK.out.1.below BX.out UK.out.2.1).c3
  have hal : an < lf.length := by rw [LL.out]; exact GD.out.2.2.2.1
  obtain ⟨af, cf, rfl, cf1, cf2, hca⟩ := RX.out
  obtain ⟨xf, rfl, -, hxf⟩ := hca (by intro h; rw [h] at hal; simp at hal)
  obtain ⟨d, hd⟩ : ∃ d, lf.getD an 0 = d := ⟨_, rfl⟩
  have cx : w10.cell? (xf.add an) = some (.int .i64 d) := hxf an d (by rw [← hd, List.getD_eq_getElem?_getD, List.getElem?_eq_getElem hal]; rfl)
  have hd0 : 0 < d := by rw [← hd, FB.out]; exact FR.out.2.1
  have hd3 : d ≤ 3 := by rw [← hd, FB.out]; exact FR.out.2.2
  have hst : 0 < st := ST.out
  clear hca hxf hd
  go_wp2
  go_ret
  exact ⟨rfl, BX.out⟩
end Go.Proofs.YtmhnidhcaceinaaDoor.worksSpots

