/- What a walk is told of records api.Order that came in. · What a walk is told of lists of lists of orders that came in; a part of such a list. · A quiet world stays as it is, but for its turn. Plain mathematics; and make([][]api.Order, n). · What units are worth. Plain mathematics. · The program's kinds: whether a unit is none. · The program's kinds: what units are worth. · score.Points. · Lists of integers: what marchsame.Ints answers. · What marchsame.Field answers of two fields that are the same. · What marchsame.World answers of two worlds that are the same. · How great what came in is; a byte. · What a walk is told of worlds and bytes that came in. · What a walk is told of kinds that came in. -/
import Derived.Test.YthcndngdngjalaaGreatDoorZTopQuiet3
import Derived.Deep.SlicePairs
import Derived.ChangeArms
import Derived.ProofKit
import Derived.OpenShut
import Derived.Test.YthcndngdngjalaaGreatDoorZTopQuiet12
import Derived.Test.YthcndngdngjalaaGreatDoorZTopQuiet7
import Derived.Laws.MakeOwn
import Derived.Test.YthcndngdngjalaaGreatDoorZTopQuiet1
import Derived.Test.YthcndngdngjalaaGreatDoorZTopQuiet2
import Derived.Test.YthcndngdngjalaaGreatDoorZTopQuiet4
import Derived.RangeFuncRecord
import Derived.Test.YthcndngdngjalaaGreatDoorZTopQuiet6
import Derived.Deep.DeepCutAuto
namespace Go.Proofs.YthcndngdngjalaaGreatDoor
open Go.ChangeShapes Go.WideShapes Go.ChangeAt Go.RowKit
set_option linter.unusedVariables false

theorem or_fields : ∃ f0 f1 f2 f3 : Field, Tryz.prog.underlying 54 = some (.struct #[f0, f1, f2, f3]) ∧
    f0.offset = 0 ∧ f0.type = 3 ∧ f1.offset = 1 ∧ f1.type = 3 ∧ f2.offset = 2 ∧ f2.type = 3 ∧ f3.offset = 3 ∧ f3.type = 3 := ⟨_, _, _, _, Tryz.underlying54, rfl, rfl, rfl, rfl, rfl, rfl, rfl, rfl⟩

set_option maxRecDepth 100000 in
theorem open_or {H : Type} {enc : TypeId × Value → H} {W : World} {base : Nat} {held : Bool} {fuel : Nat} {cs : List Value} {y : DataW H × List MemPlace} (h : DataW.trod enc Tryz.prog W base (fun _ => true) held fuel 54 cs = some y) :
    ∃ k : OrV, cs = [.int .i64 k.player, .int .i64 k.unit, .int .i64 k.what, .int .i64 k.arg] ∧ True := by
  obtain ⟨f0, f1, f2, f3, he, o0, t0, o1, t1, o2, t2, o3, t3⟩ := or_fields
  obtain ⟨xs, m, -, -, hlen, hxl, hf⟩ := DataW.trod_struct he h
  have csi : Tryz.prog.cellsOf 3 = 1 := by kernel_rfl
  have csk : Tryz.prog.cellsOf 54 = 4 := by kernel_rfl
  rw [csk] at hlen
  match cs, hlen with
  | [v0, v1, v2, v3], _ =>
    have hx : xs.length = 4 := hxl
    match xs, hx with
    | [x0, x1, x2, x3], _ =>
      have g0 := hf 0 f0 rfl
      rw [o0, t0, csi] at g0
      have g1 := hf 1 f1 rfl
      rw [o1, t1, csi] at g1
      have g2 := hf 2 f2 rfl
      rw [o2, t2, csi] at g2
      have g3 := hf 3 f3 rfl
      rw [o3, t3, csi] at g3
      obtain ⟨m0, e0, -, -⟩ := DataW.trod_int Tryz.underlying3 g0
      obtain ⟨m1, e1, -, -⟩ := DataW.trod_int Tryz.underlying3 g1
      obtain ⟨m2, e2, -, -⟩ := DataW.trod_int Tryz.underlying3 g2
      obtain ⟨m3, e3, -, -⟩ := DataW.trod_int Tryz.underlying3 g3
      simp at e0 e1 e2 e3
      subst e0 e1 e2 e3
      exact ⟨⟨m0, m1, m2, m3⟩, rfl, trivial⟩

theorem open_ors {H : Type} {enc : TypeId × Value → H} {W : World} {base : Nat} {held : Bool} {fuel : Nat} {v : Value} {y : DataW H × List MemPlace} (h : DataW.trod enc Tryz.prog W base (fun _ => true) held fuel 48 [v] = some y) :
    ∃ ks : List OrV, Orl W v ks ∧ ∀ k ∈ ks, True := by
  have csk : Tryz.prog.cellsOf 54 = 4 := by kernel_rfl
  rcases Go.Deep.open_slice Tryz.underlying48 h with ⟨hcs, -⟩ | ⟨a, len, cap, m, q, D, Pl, hcs, hb, hl, hm, hmm, -, hx⟩
  · simp at hcs
    subst hcs
    exact ⟨[], ⟨none, 0, rfl, Nat.le_refl _, by omega, fun h => absurd rfl h⟩, by simp⟩
  · simp at hcs
    subst hcs
    have hlm : len ≤ m := by rw [hmm]; simp; exact hl
    have each : ∀ i, i < len → ∃ k : OrV, Orc W (a.add (i * 4)) k ∧ (True) := by
      intro i hi
      obtain ⟨cs', h1, h2⟩ := hx i (by omega)
      obtain ⟨k, rfl, hk⟩ := open_or h2
      rw [csk] at h1
      obtain ⟨-, -, hcell⟩ := World.cells?_some h1
      refine ⟨k, ?_, hk⟩
      generalize a.add (i * 4) = y at *
      exact ⟨hcell 0 (by decide), hcell 1 (by decide), hcell 2 (by decide), hcell 3 (by decide)⟩
    have inh : Inhabited OrV := ⟨⟨0, 0, 0, 0⟩⟩
    obtain ⟨q, hq⟩ := Go.Deep.choose_lt each
    refine ⟨(List.range len).map q, ⟨some a, cap, by simp, by simpa using hl, by unfold maxLen at hm; omega, fun hn => ⟨a, rfl, ?_, fun i k hk => ?_⟩⟩, ?_⟩
    · have h0 : 0 < len := by
        rcases Nat.eq_zero_or_pos len with h | h
        · subst h; simp at hn
        · exact h
      have := (hq 0 h0).1.lt
      rwa [add_block] at this
    · have hi : i < len := by
        have := (List.getElem?_eq_some_iff.1 hk).1
        simpa using this
      rw [List.getElem?_map, List.getElem?_range hi] at hk
      injection hk with hk
      subst hk
      exact (hq i hi).1
    · intro k hk
      obtain ⟨i, hi, rfl⟩ := List.mem_map.1 hk
      exact (hq i (List.mem_range.1 hi)).2
set_option maxRecDepth 100000 in
theorem ors_in {H : Type} {enc : TypeId × Value → H} {W : World} {base b0 : Nat} {held : Bool} {v : Value} {d : DataW H} {p : List MemPlace} (hv : Value.okWide Tryz.prog W .any b0 48 v) (h : DataW.Trod enc Tryz.prog W base (fun _ => true) held 48 v d p) :
    ∃ ks : List OrV, Orl W v ks ∧ ∀ k ∈ ks, True := by
  obtain ⟨a, len, cap, rfl⟩ := okWide_slice Tryz.underlying48 hv
  obtain ⟨fuel, hf⟩ := h
  exact open_ors hf
end Go.Proofs.YthcndngdngjalaaGreatDoor

namespace Go.Proofs.YthcndngdngjalaaGreatDoor
open Go.ChangeShapes Go.WideShapes Go.ChangeAt Go.RowKit
set_option linter.unusedVariables false

set_option maxRecDepth 100000 in
theorem open_olls {H : Type} {enc : TypeId × Value → H} {W : World} {base : Nat} {held : Bool} {fuel : Nat} {v : Value} {y : DataW H × List MemPlace} (h : DataW.trod enc Tryz.prog W base (fun _ => true) held fuel 57 [v] = some y) :
    ∃ ls : List (List OrV), Oll W v ls := by
  have csk : Tryz.prog.cellsOf 48 = 1 := by kernel_rfl
  rcases Go.Deep.open_slice Tryz.underlying57 h with ⟨hcs, -⟩ | ⟨a, len, cap, m, q, D, Pl, hcs, hb, hl, hm, hmm, -, hx⟩
  · simp at hcs
    subst hcs
    exact ⟨[], ⟨none, 0, rfl, Nat.le_refl _, by omega, fun h => absurd rfl h⟩⟩
  · simp at hcs
    subst hcs
    have hlm : len ≤ m := by rw [hmm]; simp; exact hl
    have each : ∀ i, i < len → ∃ l : List OrV, ∃ u, W.cell? (a.add i) = some u ∧ Orl W u l := by
      intro i hi
      obtain ⟨cs', h1, h2⟩ := hx i (by omega)
      rw [csk] at h1
      rw [Nat.mul_one] at h1
      obtain ⟨-, hlen, hcell⟩ := World.cells?_some h1
      match cs', hlen with
      | [u], _ =>
        obtain ⟨l, hl', -⟩ := open_ors h2
        exact ⟨l, u, hcell 0 (by decide), hl'⟩
    have inh : Inhabited (List OrV) := ⟨[]⟩
    obtain ⟨q, hq⟩ := Go.Deep.choose_lt each
    refine ⟨(List.range len).map q, ⟨some a, cap, by simp, by simpa using hl, by unfold maxLen at hm; omega, fun hn => ⟨a, rfl, ?_, fun i k hk => ?_⟩⟩⟩
    · have h0 : 0 < len := by
        rcases Nat.eq_zero_or_pos len with h | h
        · subst h; simp at hn
        · exact h
      obtain ⟨u, h1, -⟩ := hq 0 h0
      have := cell_lt h1
      rwa [add_block] at this
    · have hi : i < len := by
        have := (List.getElem?_eq_some_iff.1 hk).1
        simpa using this
      rw [List.getElem?_map, List.getElem?_range hi] at hk
      injection hk with hk
      subst hk
      exact hq i hi
set_option maxRecDepth 100000 in
theorem olls_in {H : Type} {enc : TypeId × Value → H} {W : World} {base b0 : Nat} {held : Bool} {v : Value} {d : DataW H} {p : List MemPlace} (hv : Value.okWide Tryz.prog W .any b0 57 v) (h : DataW.Trod enc Tryz.prog W base (fun _ => true) held 57 v d p) : ∃ ls : List (List OrV), Oll W v ls := by
  obtain ⟨a, len, cap, rfl⟩ := okWide_slice Tryz.underlying57 hv
  obtain ⟨fuel, hf⟩ := h
  exact open_olls hf
/-- the first of them; those behind. -/
theorem Oll.take {w : World} {a : Option Addr} {n c : Nat} {ls : List (List OrV)} (h : Oll w (.slice a n c) ls) {k : Nat} (hk : k ≤ ls.length) : Oll w (.slice a k c) (ls.take k) := by
  obtain ⟨a', c', e, h2, h3, h4⟩ := h
  injection e with e1 e2 e3
  subst e1 e3
  have hl : (ls.take k).length = k := by rw [List.length_take]; omega
  refine ⟨a, c, by rw [hl], by omega, h3, fun hn => ?_⟩
  obtain ⟨x, ex, hx, hy⟩ := h4 (by rintro rfl; simp at hn)
  refine ⟨x, ex, hx, fun i l hi => hy i l ?_⟩
  rw [List.getElem?_take] at hi
  split at hi
  · exact hi
  · cases hi
theorem Oll.sl {w : World} {a : Option Addr} {c n L : Nat} {ls : List (List OrV)} (h : Oll w (.slice a L c) ls) (hn : n ≤ ls.length) : Oll w (sliced a n L c 1) (ls.drop n) := by
  obtain ⟨a', c', e, h1, h2, h3⟩ := h
  injection e with e1 e2 e3
  subst e1 e3 e2
  unfold sliced
  refine ⟨_, _, by rw [List.length_drop], by rw [List.length_drop]; omega, by omega, fun hne => ?_⟩
  have hnl : n < ls.length := by
    rcases Nat.lt_or_ge n ls.length with h | h
    · exact h
    · exact absurd (List.drop_eq_nil_of_le h) hne
  obtain ⟨x, rfl, hx1, hx2⟩ := h3 (by rintro rfl; simp at hnl)
  refine ⟨x.add n, ?_, by rw [add_block]; exact hx1, fun i l hk => ?_⟩
  · simp
    intro hc
    omega
  · rw [List.getElem?_drop] at hk
    obtain ⟨u, c1, c2⟩ := hx2 (n + i) l hk
    have e : (x.add n).add i = x.add (n + i) := by
      unfold Addr.add
      split <;> split <;> split <;> simp_all <;> omega
    rw [e]
    exact ⟨u, c1, c2⟩
end Go.Proofs.YthcndngdngjalaaGreatDoor

namespace Go.Proofs.YthcndngdngjalaaGreatDoor
open Go.RowKit Go.Proofs.YthcndngdngjalaaGreatDoor.So
set_option linter.unusedVariables false

/-- all rest, carry nothing, and cannot strike; nobody trains. -/
structure Quiet (ks : List KV) (X : WV) : Prop where
  w : Wd.wfault ks X = 0
  q : X.qs = []
  u : ∀ x ∈ X.us, x.task = 0 ∧ x.load = 0 ∧ ∀ k, ks[x.kind.toNat]? = some k → k.n1 = 0
theorem tk_quiet {ks : List KV} {X : WV} (h : Quiet ks X) : ∀ q, tk ks X q = (X, [])
  | 0 => rfl
  | q + 1 => by
    have ih := tk_quiet h q
    rw [tk, ih]
    simp only
    split
    · rfl
    · rename_i u hu
      have hy : yieldN ks X u = 0 := by
        unfold yieldN
        rw [if_neg]
        rintro ⟨h1, -⟩
        have := (h.u u (List.mem_of_getElem? hu)).1
        omega
      rw [if_neg (by rw [hy]; omega)]
theorem br_quiet {ks : List KV} {Wn Hn : Nat} {X : WV} (h : Quiet ks X) : ∀ q, br ks Wn Hn X q = (X, [])
  | 0 => rfl
  | q + 1 => by
    have ih := br_quiet (Wn := Wn) (Hn := Hn) h q
    rw [br, ih]
    simp only
    split
    · rfl
    · rename_i u hu
      have hy : brings ks Wn Hn X u = false := by
        unfold brings
        rw [(h.u u (List.mem_of_getElem? hu)).2.1]
        simp
      rw [if_neg (by rw [hy]; simp)]
theorem dug_quiet {ks : List KV} {Wn Hn : Nat} {X : WV} (h : Quiet ks X) : dug ks Wn Hn X = X := by
  unfold dug
  rw [tk_quiet h]
  simp only
  rw [br_quiet h]
theorem stk_quiet {ks : List KV} {W : Nat} {us : List UnV} {s : List Int × List EvV} {u : UnV} (h : ∀ k, ks[u.kind.toNat]? = some k → k.n1 = 0) : stk ks W us s u = s := by
  unfold stk
  rw [if_pos]
  unfold tgtOf
  cases hk : ks[u.kind.toNat]? with
  | none => rfl
  | some k => simp only; unfold tgt; rw [if_pos (h k hk)]
theorem fold_quiet {ks : List KV} {W : Nat} {us : List UnV} : ∀ (l : List UnV) (s : List Int × List EvV), (∀ x ∈ l, ∀ k, ks[x.kind.toNat]? = some k → k.n1 = 0) → l.foldl (stk ks W us) s = s
  | [], s, _ => rfl
  | u :: l, s, h => by rw [List.foldl_cons, stk_quiet (h u (by simp)), fold_quiet l s (fun x hx => h x (by simp [hx]))]
theorem hurt_none : ∀ us : List UnV, hurt us (List.replicate us.length 0) = us
  | [] => rfl
  | u :: us => by
    have := hurt_none us
    unfold hurt at this ⊢
    rw [List.length_cons, List.replicate_succ, List.zipWith_cons_cons, this]
    congr 1
    obtain ⟨a, b, c, d, e, f, g, i⟩ := u
    simp
theorem fought_quiet {ks : List KV} {W : Nat} {X : WV} (h : Quiet ks X) : fought ks W X = X := by
  have hs : struck ks W X = X.us := by
    unfold struck strikes
    rw [fold_quiet X.us _ (fun x hx => (h.u x hx).2.2)]
    exact hurt_none X.us
  have hst : stays ks W X = X.us := by
    unfold stays
    rw [hs]
    refine List.filter_eq_self.2 (fun u hu => ?_)
    obtain ⟨i, hi⟩ := List.mem_iff_getElem?.1 hu
    obtain ⟨k, F⟩ := (wright_of h.w).fine hi
    have := F.life.1
    unfold fallenU
    simp
    omega
  unfold fought
  rw [hst, h.q]
  obtain ⟨a, b, c, d, e, f, g, i, j⟩ := X
  have := h.q
  simp at this
  subst this
  rfl
theorem quiet_step {ks : List KV} {X Y : WV} {es : List EvV} (h : Quiet ks X) (s : StepR ks X [] Y es) : Y = { X with turn := X.turn + 1 } := by
  obtain ⟨out, Wn, Hn, Z, a1, a2, a3, a4, rfl⟩ := s
  obtain rfl := a1.one (lo_last (by simp))
  have ea : (gv ks X [] ([] : List OrV).length).1 = X := rfl
  rw [ea] at a4
  have t0 : Tr ks X X.qs.length X [] [] := by rw [h.q]; exact .zero
  have eX : { X with qs := [] } = X := by rw [← h.q]
  suffices Z = X by rw [this]
  cases a4 with
  | four p3 =>
    cases p3 with
    | three p2 =>
      cases p2 with
      | two p1 m =>
        cases p1 with
        | one t =>
          obtain ⟨e1, e2, e3⟩ := tr_uniq t t0
          obtain rfl := e1.symm
          subst e2 e3
          rw [eX] at m
          obtain ⟨-, rfl⟩ := moves_rest m (fun u hu => (h.u u hu).1)
          rw [eX]
          show fought ks Wn (dug ks Wn Hn X) = X
          rw [dug_quiet h, fought_quiet h]
theorem quiet_next {ks : List KV} {X Y : WV} {es : List EvV} (h : Quiet ks X) (hf : stepFault ks X [] = 0) (s : StepR ks X [] Y es) : Quiet ks Y := by
  have hw := (step_right hf s).1
  obtain rfl := quiet_step h s
  exact ⟨hw, h.q, h.u⟩
theorem quiet_play {ks : List KV} {X : WV} {ls : List (List OrV)} (h : Quiet ks X) (hl : ∀ l ∈ ls, l = []) {n : Nat} {Y : WV} (p : PlayR ks X ls n Y) : Quiet ks Y ∧ Y = { X with turn := X.turn + (n : Int) } := by
  induction p with
  | zero => exact ⟨h, by simp⟩
  | @turn n Y Z l es p hl' hf hs ih =>
    obtain rfl := hl l (List.mem_of_getElem? hl')
    refine ⟨quiet_next ih.1 hf hs, ?_⟩
    rw [quiet_step ih.1 hs, ih.2]
    simp only
    congr 1
    omega
/-- what Play tells of a quiet world, without orders. -/
theorem quiet_says {ks : List KV} {X : WV} (h : Quiet ks X) {m : Nat} (hm : m ≤ 10) (ht : X.turn ≤ 900000) {F : Int} {w w' : World} {v r : Value} (hs : PlaySays ks X (List.replicate m []) F w w' v) (he : Er r F) : r = .nilIface ∧ Wo w' w.heap.size v { X with turn := X.turn + (m : Int) } ∧ Wd.wfault ks { X with turn := X.turn + (m : Int) } = 0 := by
  have hall : ∀ l ∈ List.replicate m ([] : List OrV), l = [] := fun l hl => (List.mem_replicate.1 hl).2
  rcases hs with ⟨hn, -, h1 | h1 | ⟨-, -, n, Z, l, p, hl', hf⟩⟩ | ⟨rfl, h1, h2, B, h3, h4⟩
  · exact absurd h.w h1.1
  · have := h1.2.1; simp at this; omega
  · obtain ⟨q1, q2⟩ := quiet_play h hall p
    obtain rfl := hall l (List.mem_of_getElem? hl')
    have hn2 := (List.getElem?_eq_some_iff.1 hl').1
    simp at hn2
    exact absurd ((rest_fault q1.w (by rw [q2]; simp only; omega)).symm.trans hf).symm hn
  · obtain ⟨q1, q2⟩ := quiet_play h hall h3
    rw [List.length_replicate] at q2
    subst q2
    refine ⟨?_, h4, q1.w⟩
    rcases he with ⟨-, h⟩ | ⟨h, -⟩
    · exact h
    · exact absurd rfl h
theorem info_ors : (Tryz.prog.info? 48).map (fun i => (i.zero, i.size, i.bytes)) = some (some (.slice none 0 0), 1, 24) := by kernel_rfl
theorem makeOs (n : Nat) (w : World) (h : n ≤ 1000) : ∃ w', (Instr.makeSlice 57 (.int .i64 (n : Nat)) (.int .i64 (n : Nat))).run Tryz.prog w = .ok (.slice (some ⟨w.heap.size, 0, none⟩) n n) w' ∧ Oll w' (.slice (some ⟨w.heap.size, 0, none⟩) n n) (List.replicate n []) ∧ Below w.heap.size w w' := by
  obtain ⟨i0, hi, hz0, hz1, hz2⟩ := info_parts info_ors
  have hr := run_make (P := Tryz.prog) w 57 48 i0 (.slice none 0 0) Tryz.underlying57 hi hz0 .i64 .i64 (n : Nat) (n : Nat) (by omega) (Int.le_refl _) (by rw [hz2]; omega) (by omega)
  refine ⟨_, hr, ?_, (Below.refl _ _).alloc (Nat.le_refl _) _⟩
  refine ⟨_, n, by rw [List.length_replicate], by rw [List.length_replicate]; exact Nat.le_refl _, by omega, fun hn => ⟨_, rfl, by simp, fun i l hl => ?_⟩⟩
  obtain ⟨hil, e⟩ := List.getElem?_eq_some_iff.1 hl
  rw [List.length_replicate] at hil
  rw [List.getElem_replicate] at e
  subst e
  refine ⟨.slice none 0 0, ?_, ⟨none, 0, rfl, Nat.le_refl _, by omega, fun h => absurd rfl h⟩⟩
  have hn := heap_alloc_new w (Obj.cells (madeCells #[Value.slice none 0 0] n) 48)
  rw [hz1, Int.toNat_natCast, Nat.mul_one]
  have ec : (Value.slice none 0 0).cells = #[Value.slice none 0 0] := rfl
  rw [ec, Addr.add_lit, Nat.zero_add]
  simp only [World.cell?, hn]
  simp [madeCells, hil, Nat.mod_one]
end Go.Proofs.YthcndngdngjalaaGreatDoor

namespace Go.Proofs.YthcndngdngjalaaGreatDoor
set_option linter.unusedVariables false

/-- the kind of a number; whether a unit is none. -/
def kindAt (ks : List KV) (n : Int) : Option KV := if n < 0 then none else ks[n.toNat]?
def unBad (ks : List KV) (u : UnV) : Bool := match kindAt ks u.kind with
  | none => true
  | some k => decide (u.player < 0 ∨ 3 < u.player ∨ u.life < 0 ∨ k.n0 < u.life)
def worthOne (ks : List KV) (u : UnV) : Int := match kindAt ks u.kind with
  | none => 0
  | some k => (k.n5 * u.life).tdiv k.n0
/-- the sum of a player. -/
def worthOf (ks : List KV) (us : List UnV) (j : Int) : Int := us.foldl (fun s u => if u.player = j then s + worthOne ks u else s) 0
def worths (ks : List KV) (us : List UnV) : List Int := [worthOf ks us 0, worthOf ks us 1, worthOf ks us 2, worthOf ks us 3]

theorem kindAt_nat (ks : List KV) (i : Nat) : kindAt ks (i : Int) = ks[i]? := by
  unfold kindAt
  rw [if_neg (by omega)]
  rfl
theorem worthOf_next {ks : List KV} {us : List UnV} {n : Nat} {u : UnV} (h : us[n]? = some u) (j : Int) : worthOf ks (us.take (n + 1)) j = if u.player = j then worthOf ks (us.take n) j + worthOne ks u else worthOf ks (us.take n) j := by
  obtain ⟨hi, e⟩ := List.getElem?_eq_some_iff.1 h
  unfold worthOf
  rw [List.take_succ_eq_append_getElem hi, List.foldl_append, e]
  rfl
theorem unBad_kind {ks : List KV} {u : UnV} (h : unBad ks u = false) : ∃ (i : Nat) (k : KV), u.kind = i ∧ ks[i]? = some k ∧ 0 ≤ u.player ∧ u.player ≤ 3 ∧ 0 ≤ u.life ∧ u.life ≤ k.n0 ∧ worthOne ks u = (k.n5 * u.life).tdiv k.n0 := by
  unfold unBad at h
  cases hk : kindAt ks u.kind with
  | none => rw [hk] at h; cases h
  | some k =>
    rw [hk] at h
    have h2 := of_decide_eq_false h
    unfold kindAt at hk
    split at hk
    · cases hk
    · refine ⟨u.kind.toNat, k, by omega, hk, by omega, by omega, by omega, by omega, ?_⟩
      unfold worthOne kindAt
      rw [if_neg (by assumption), hk]
/-- each part is from 0 to 1000. -/
theorem part_le {p l m : Int} (h1 : 0 ≤ p) (h2 : p ≤ 1000) (h3 : 0 ≤ l) (h4 : l ≤ m) (h5 : 0 < m) : 0 ≤ (p * l).tdiv m ∧ (p * l).tdiv m ≤ 1000 := by
  have h6 : 0 ≤ p * l := Int.mul_nonneg h1 h3
  rw [Int.tdiv_eq_ediv_of_nonneg h6]
  refine ⟨Int.ediv_nonneg h6 (by omega), ?_⟩
  have h7 : p * l ≤ 1000 * m := Int.mul_le_mul h2 h4 h3 (by decide)
  calc p * l / m ≤ 1000 * m / m := Int.ediv_le_ediv h5 h7
    _ = 1000 := Int.mul_ediv_cancel _ (by omega)
theorem worthOf_bound {ks : List KV} (hk : ∀ k ∈ ks, 0 ≤ k.n5 ∧ k.n5 ≤ 1000 ∧ 0 < k.n0) {us : List UnV} (hu : us.any (unBad ks) = false) (j : Int) : ∀ n, n ≤ us.length → 0 ≤ worthOf ks (us.take n) j ∧ worthOf ks (us.take n) j ≤ 1000 * n
  | 0, _ => by simp [worthOf]
  | n + 1, h => by
    have ih := worthOf_bound hk hu j n (by omega)
    obtain ⟨u, e⟩ : ∃ u, us[n]? = some u := ⟨_, List.getElem?_eq_getElem (by omega)⟩
    have hb : unBad ks u = false := by
      rw [List.any_eq_false] at hu
      have := hu u (List.mem_of_getElem? e)
      simpa using this
    obtain ⟨i, k, _, h2, _, _, h5, h6, h7⟩ := unBad_kind hb
    have h8 := hk k (List.mem_of_getElem? h2)
    have h9 := part_le h8.1 h8.2.1 h5 h6 h8.2.2
    rw [worthOf_next e, h7]
    split <;> omega
end Go.Proofs.YthcndngdngjalaaGreatDoor

namespace Go.Proofs.YthcndngdngjalaaGreatDoor
open Go.RowKit
set_option linter.unusedVariables false

theorem bdn {B : Nat} {w W : World} (h : Below B w W) : ∀ n, Below B w (W.drewN n)
  | 0 => h
  | n + 1 => (bdn h n).drew
set_option maxRecDepth 100000 in
set_option maxHeartbeats 4000000 in
theorem wrong_any (v : Value) (ks : List KV) (u : UnV) (b : Nat) (w : World) (h : Kl w v ks) (hc : w.cell? ⟨b, 0, none⟩ = some v) :
    Calls Tryz.prog 64 #[u.val, .pointer (some ⟨b, 0, none⟩)] w fun e w' => e = .returned (.bool (unBad ks u)) ∧ Below w.heap.size w w' := by
  have hl := cell_lt hc
  obtain ⟨R, hR⟩ : ∃ R, unBad ks u = R := ⟨_, rfl⟩
  have HR : Hid (unBad ks u = R) := hR
  rw [hR]
  clear hR
  obtain ⟨a, c, rfl, c1, c2, hx⟩ := h
  obtain ⟨id, player, kind, at_, life, load, task, goal⟩ := u
  unfold UnV.val
  have hw : IntKind.i64.wrap ((ks.length : Int) - 1) = (ks.length : Int) - 1 := by
    simp [IntKind.wrap, IntKind.bits, IntKind.signed]
    omega
  by_cases h1 : 0 ≤ player ∧ player ≤ 3
  · obtain ⟨h1a, h1b⟩ := h1
    by_cases h2 : 0 ≤ kind ∧ kind ≤ (ks.length : Int) - 1
    · obtain ⟨i, rfl⟩ : ∃ i : Nat, kind = i := ⟨kind.toNat, by omega⟩
      have hi : i < ks.length := by omega
      have hi' : (i : Int) < (ks.length : Int) := by omega
      obtain ⟨k, hk⟩ : ∃ k, ks[i]? = some k := ⟨_, List.getElem?_eq_getElem hi⟩
      obtain ⟨x, rfl, hx1, hx2⟩ := hx (by rintro rfl; simp at hi)
      have KC := hx2 i k hk
      have q1 : w.cell? ⟨(x.add (i * 11)).block, (x.add (i * 11)).off + 1, none⟩ = some (.int .i64 k.n0) := KC.c1
      have RB : Hid (R = decide (life < 0 ∨ k.n0 < life)) := by
        unfold Hid
        rw [← HR.out]
        unfold unBad
        rw [kindAt_nat, hk]
        simp only
        congr 1
        exact propext (by omega)
      generalize k.n0 = m at *
      have hx3 : (x.add (i * 11)).block < w.heap.size := by rw [add_block]; exact hx1
      have q1' : ∀ o, (w.alloc o).cell? ⟨(x.add (i * 11)).block, (x.add (i * 11)).off + 1, none⟩ = some (.int .i64 m) := fun o => by rw [((Below.refl w.heap.size w).alloc (Nat.le_refl _) o).cell (p := ⟨(x.add (i * 11)).block, (x.add (i * 11)).off + 1, none⟩) hx3]; exact q1
      clear hx2 hk KC HR hx
      by_cases h3 : 0 ≤ life ∧ life ≤ m
      · obtain ⟨h3a, h3b⟩ := h3
        have E : Hid (R = false) := by unfold Hid; rw [RB.out, decide_eq_false (by omega)]
        go_enter Tryz.func64, Tryz.ntmps64
        go_wp2_with fail
        go_quiet (first | (go_at_call 65; exact Calls.quiet_of_same (kwin_yes _ _ _ _ (by omega) (by omega))) | (go_at_call 65; exact Calls.quiet_of_same (kwin_no _ _ _ _ (by omega))))
        go_wp2
        go_ret
        exact ⟨by rw [E.out]; rfl, bdn ((Below.refl _ _).alloc (Nat.le_refl _) _) _⟩
      · have E : Hid (R = true) := by unfold Hid; rw [RB.out, decide_eq_true (by omega)]
        go_enter Tryz.func64, Tryz.ntmps64
        go_wp2_with fail
        go_quiet (first | (go_at_call 65; exact Calls.quiet_of_same (kwin_yes _ _ _ _ (by omega) (by omega))) | (go_at_call 65; exact Calls.quiet_of_same (kwin_no _ _ _ _ (by omega))))
        go_wp2
        go_ret
        exact ⟨by rw [E.out]; rfl, bdn ((Below.refl _ _).alloc (Nat.le_refl _) _) _⟩
    · have E : Hid (R = true) := by
        unfold Hid
        rw [← HR.out]
        unfold unBad
        have : kindAt ks kind = none := by
          unfold kindAt
          split
          · rfl
          · exact List.getElem?_eq_none (by omega)
        rw [this]
      clear hx
      go_enter Tryz.func64, Tryz.ntmps64
      go_wp2_with fail
      go_quiet (first | (go_at_call 65; exact Calls.quiet_of_same (kwin_yes _ _ _ _ (by omega) (by omega))) | (go_at_call 65; exact Calls.quiet_of_same (kwin_no _ _ _ _ (by omega))))
      go_wp2
      go_ret
      exact ⟨by rw [E.out]; rfl, bdn ((Below.refl _ _).alloc (Nat.le_refl _) _) _⟩
  · have E : Hid (R = true) := by
      unfold Hid
      rw [← HR.out]
      unfold unBad
      split
      · rfl
      · exact decide_eq_true (by simp only; omega)
    clear hx
    go_enter Tryz.func64, Tryz.ntmps64
    go_wp2_with fail
    go_quiet (first | (go_at_call 65; exact Calls.quiet_of_same (kwin_yes _ _ _ _ (by omega) (by omega))) | (go_at_call 65; exact Calls.quiet_of_same (kwin_no _ _ _ _ (by omega))))
    go_wp2
    go_ret
    exact ⟨by rw [E.out]; rfl, bdn ((Below.refl _ _).alloc (Nat.le_refl _) _) _⟩
end Go.Proofs.YthcndngdngjalaaGreatDoor

namespace Go.Proofs.YthcndngdngjalaaGreatDoor
open Go.RowKit
set_option linter.unusedVariables false

theorem eworth1 : ∀ args w, (callFunc 64 args).run Tryz.prog w = .ok (.enter 64 args) w := by
  intro args w
  go_simp
theorem makeI4 (w : World) : (Instr.makeSlice 23 (.int .i64 4) (.int .i64 4)).run Tryz.prog w = .ok (.slice (some ⟨w.heap.size, 0, none⟩) 4 4) (w.alloc (.cells #[.int .i64 0, .int .i64 0, .int .i64 0, .int .i64 0] 3)) := by kernel_rfl
set_option maxRecDepth 100000 in
set_option maxHeartbeats 4000000 in
theorem worth_any (v : Value) (ks : List KV) (y : Value) (us : List UnV) (w : World) (h : Kl w v ks) (hb : ∀ k ∈ ks, k.b.size ≤ 9223372036854775807) (hu : Unl w y us) :
    Calls Tryz.prog 32 #[v, y] w fun e w' => ∃ (r u : Value), e = .returned (.tuple #[r, u]) ∧ Below w.heap.size w w' ∧
      ((Kd.kindsFault (ks.map KV.k) ≠ 0 ∧ Ro w' r [] ∧ Er u (Kd.kindsFault (ks.map KV.k))) ∨
       (Kd.kindsFault (ks.map KV.k) = 0 ∧ 40 < us.length ∧ Ro w' r [] ∧ Er u 4) ∨
       (Kd.kindsFault (ks.map KV.k) = 0 ∧ us.length ≤ 40 ∧ us.any (unBad ks) = true ∧ Ro w' r [] ∧ Er u 1) ∨
       (Kd.kindsFault (ks.map KV.k) = 0 ∧ us.length ≤ 40 ∧ us.any (unBad ks) = false ∧ Ro w' r (worths ks us) ∧ Er u 0)) := by
  have K0 : Hid (Kl w v ks) := h
  have U0 : Hid (Unl w y us) := hu
  have CA : Hid (∀ W, Below w.heap.size w W → Calls Tryz.prog 63 #[v] W fun e w' => ∃ u, e = .returned u ∧ Er u (Kd.kindsFault (ks.map KV.k)) ∧ Below W.heap.size W w') := fun W hW => kcheck_any v ks W (h.below hW) hb
  have KR : Hid (Kd.kindsFault (ks.map KV.k) = 0 → ks.length ≤ 8 ∧ ∀ k ∈ ks, 0 ≤ k.n5 ∧ k.n5 ≤ 1000 ∧ 0 < k.n0 ∧ k.n0 ≤ 1000) := kinds_right
  generalize Kd.kindsFault (ks.map KV.k) = R at *
  have Rn : ∀ W : World, Ro W (.slice none 0 0) [] := fun W => ⟨none, 0, rfl, Nat.le_refl _, by omega, fun h => absurd rfl h⟩
  have RN : Hid (∀ W : World, Ro W (.slice none 0 0) []) := Rn
  clear hb Rn
  obtain ⟨a, c, rfl, c1, c2, -⟩ := h
  obtain ⟨au, cu, rfl, cu1, cu2, -⟩ := hu
  go_enter Tryz.func32, Tryz.ntmps32
  go_wp2_with fail
  have B0 : Below w.heap.size w (w.alloc (Obj.cells #[.slice a ks.length c] 22)) := (Below.refl _ _).alloc (Nat.le_refl _) _
  have hc0 : (w.alloc (Obj.cells #[.slice a ks.length c] 22)).cell? ⟨w.heap.size, 0, none⟩ = some (.slice a ks.length c) := by simp
  have hz0 : w.heap.size < (w.alloc (Obj.cells #[.slice a ks.length c] 22)).heap.size := by simp
  refine (CA.out _ B0).mono ?_
  rintro e w1 ⟨u, rfl, hu, b1⟩
  have B1 : Hid (Below w.heap.size w w1) := B0.trans (b1.mono B0.size)
  have hc1 : w1.cell? ⟨w.heap.size, 0, none⟩ = some (.slice a ks.length c) := by rw [b1.cell (p := ⟨w.heap.size, 0, none⟩) hz0]; exact hc0
  clear CA b1 B0 hc0 hz0
  rcases hu with ⟨h0, rfl⟩ | ⟨h0, rfl⟩
  · have H0 : Hid (R = 0) := h0
    clear h0
    by_cases h40 : 40 < us.length
    · have h40' : (40 : Int) < (us.length : Int) := by omega
      go_wp2
      go_ret2
      exact ⟨_, _, rfl, B1, .inr (.inl ⟨H0, h40, RN.out _, Er.no (by decide)⟩)⟩
    · have h40' : ¬ (40 : Int) < (us.length : Int) := by omega
      have hl40 : us.length ≤ 40 := by omega
      go_wp2_with fail
      have hl1 := cell_lt hc1
      refine (hasu_any 64 eworth1 _ _ us (unBad ks) _ (U0.out.below B1.out) ?_).mono ?_
      · intro W hW k
        exact wrong_any _ ks k w.heap.size W (K0.out.below (B1.out.trans (hW.mono B1.out.size))) (by rw [hW.cell (p := ⟨w.heap.size, 0, none⟩) hl1]; exact hc1)
      · rintro e w2 ⟨rfl, b2⟩
        have B2 : Hid (Below w.heap.size w w2) := B1.out.trans (b2.mono B1.out.size)
        have hc2 : w2.cell? ⟨w.heap.size, 0, none⟩ = some (.slice a ks.length c) := by rw [b2.cell (p := ⟨w.heap.size, 0, none⟩) hl1]; exact hc1
        clear b2 hc1 hl1
        cases hA : us.any (unBad ks) with
        | true =>
          have HA : Hid (us.any (unBad ks) = true) := hA
          clear hA
          go_wp2
          go_ret2
          exact ⟨_, _, rfl, B2, .inr (.inr (.inl ⟨H0, hl40, HA, RN.out _, Er.no (by decide)⟩))⟩
        | false =>
          have HA : Hid (us.any (unBad ks) = false) := hA
          clear hA
          have KR2 : Hid (ks.length ≤ 8 ∧ ∀ k ∈ ks, 0 ≤ k.n5 ∧ k.n5 ≤ 1000 ∧ 0 < k.n0 ∧ k.n0 ≤ 1000) := KR.out H0.out
          have hm := makeI4 w2
          have hlt : w.heap.size < w2.heap.size := cell_lt hc2
          have hl0 : w.heap.size ≤ w2.heap.size := by omega
          have BB : Hid (Below w2.heap.size w2 (w2.alloc (Obj.cells #[.int .i64 0, .int .i64 0, .int .i64 0, .int .i64 0] 3))) := (Below.refl _ _).alloc (Nat.le_refl _) _
          have BK : Hid (Bk (w2.alloc (Obj.cells #[.int .i64 0, .int .i64 0, .int .i64 0, .int .i64 0] 3)) w2.heap.size (worths ks []) #[]) := by
            unfold Hid Bk
            rw [World.alloc_heap_new]
            rfl
          have HC : Hid (w2.cell? ⟨w.heap.size, 0, none⟩ = some (.slice a ks.length c)) := hc2
          clear hc2 KR RN
          go_wp2_with fail
          go_loopw [29] (fun j W' => ∃ n : Nat, n ≤ us.length ∧ j = .int .i64 (n : Nat) ∧ Bk W' w2.heap.size (worths ks (us.take n)) #[] ∧ Below w2.heap.size w2 W') (fun j _ => us.length - (intOf j).toNat)
          case atStart => exact ⟨0, Nat.zero_le _, rfl, BK, BB⟩
          case round =>
            obtain ⟨n, hn, rfl, hbk, hbb⟩ := hrel
            have Bk1 : Hid (Bk wr w2.heap.size (worths ks (us.take n)) #[]) := hbk
            have Bb1 : Hid (Below w2.heap.size w2 wr) := hbb
            have Bw : Hid (Below w.heap.size w wr) := B2.out.trans (hbb.mono hl0)
            clear hbk hbb
            by_cases hne : n = us.length
            · subst hne
              go_wp2
              go_ret2
              refine ⟨_, _, rfl, Bw, .inr (.inr (.inr ⟨H0, hl40, HA, ?_, Er.nil⟩))⟩
              have := Bk1.out.ro (c := 4) (by simp [worths]) (by omega)
              rw [List.take_of_length_le (Nat.le_refl _)] at this
              exact this
            · have hnl : n < us.length := by omega
              have hnl' : (n : Int) < (us.length : Int) := by omega
              obtain ⟨u, hu⟩ : ∃ u, us[n]? = some u := ⟨_, List.getElem?_eq_getElem hnl⟩
              have hbad : unBad ks u = false := by
                have := HA.out
                rw [List.any_eq_false] at this
                simpa using this u (List.mem_of_getElem? hu)
              obtain ⟨i, k, hki, hk, hp0, hp3, hl0', hlm, hwo⟩ := unBad_kind hbad
              have kb := KR2.out.2 k (List.mem_of_getElem? hk)
              have hil : i < ks.length := (List.getElem?_eq_some_iff.1 hk).1
              have WB := worthOf_bound (fun k hk => ⟨(KR2.out.2 k hk).1, (KR2.out.2 k hk).2.1, (KR2.out.2 k hk).2.2.1⟩) HA.out u.player n hn
              have WN : Hid (∀ j, worthOf ks (us.take (n + 1)) j = if u.player = j then worthOf ks (us.take n) j + worthOne ks u else worthOf ks (us.take n) j) := worthOf_next hu
              obtain ⟨p, hpp⟩ : ∃ p : Nat, u.player = p := ⟨u.player.toNat, by omega⟩
              have hp4 : p < 4 := by omega
              have Wd : Hid ((worths ks (us.take n))[p]? = some (worthOf ks (us.take n) u.player)) := by
                unfold Hid worths
                rw [hpp]
                match p, hp4 with
                | 0, _ => rfl
                | 1, _ => rfl
                | 2, _ => rfl
                | 3, _ => rfl
              have Ws : Hid ((worths ks (us.take n)).set p (worthOf ks (us.take n) u.player + worthOne ks u) = worths ks (us.take (n + 1))) := by
                unfold Hid worths
                rw [WN.out 0, WN.out 1, WN.out 2, WN.out 3, hpp]
                match p, hp4 with
                | 0, _ => rfl
                | 1, _ => rfl
                | 2, _ => rfl
                | 3, _ => rfl
              have PL := part_le kb.1 kb.2.1 hl0' hlm kb.2.2.1
              have ML : 0 ≤ k.n5 * u.life ∧ k.n5 * u.life ≤ 1000000 := ⟨Int.mul_nonneg kb.1 hl0', by
                have : k.n5 * u.life ≤ 1000 * 1000 := Int.mul_le_mul kb.2.1 (by omega) hl0' (by decide)
                omega⟩
              obtain ⟨hm1, hm2⟩ := ML
              obtain ⟨hq1, hq2⟩ := PL
              obtain ⟨hb1, hb2⟩ := WB
              rw [hwo] at Ws
              generalize worthOf ks (us.take n) u.player = sm at *
              have Uc := U0.out.below Bw.out
              obtain ⟨au', cu', e, -, -, hux⟩ := Uc
              injection e with e1 e2 e3
              subst e1 e3
              obtain ⟨xu, rfl, hxu1, hxu⟩ := hux (by rintro rfl; simp at hnl)
              have UC := hxu n u hu
              have Kk := K0.out.below Bw.out
              obtain ⟨a', c', e, -, -, hkx⟩ := Kk
              injection e with e1 e2 e3
              subst e1 e3
              obtain ⟨xk, rfl, hxk1, hxk⟩ := hkx (by rintro rfl; simp at hil)
              have KC := hxk i k hk
              have hcl : wr.cell? ⟨w.heap.size, 0, none⟩ = some (.slice (some xk) ks.length c) := by rw [Bb1.out.cell (p := ⟨w.heap.size, 0, none⟩) hlt]; exact HC.out
              have hil' : (i : Int) < (ks.length : Int) := by omega
              clear hxu hux hkx hxk hu hk hbad hwo WN e2 hnl hn
              have hs := Bk1.out.lt
              obtain ⟨id, player, kind, at_, life, load, task, goal⟩ := u
              obtain ⟨kb', n0, n1, n2, n3, n4, n5, n6, n7, kf, kt⟩ := k
              simp only at hki hpp hl0' hlm kb hm1 hm2 hq1 hq2 Ws Wd
              subst hki hpp
              obtain ⟨g1, g2, g3, g4⟩ := kb
              obtain ⟨m, em⟩ : ∃ m, n5 * life = m := ⟨_, rfl⟩
              rw [em] at hm1 hm2 hq1 hq2 Ws
              obtain ⟨qq, eq⟩ : ∃ qq, m.tdiv n0 = qq := ⟨_, rfl⟩
              rw [eq] at hq1 hq2 Ws
              have Em : Hid (n5 * life = m) := em
              have Eq : Hid (m.tdiv n0 = qq) := eq
              have KC' : Hid (Kc wr (xk.add (i * 11)) ⟨kb', n0, n1, n2, n3, n4, n5, n6, n7, kf, kt⟩) := KC
              have hcl' : Hid (wr.cell? ⟨w.heap.size, 0, none⟩ = some (.slice (some xk) ks.length c)) := hcl
              obtain ⟨u0, u1, u2, u3, u4, u5, u6, u7⟩ := UC
              simp only at u0 u1 u2 u3 u4 u5 u6 u7
              have Hs1 : Hid (w2.heap.size < wr.heap.size) := hs
              have Hxk : Hid (xk.block < wr.heap.size) := hxk1
              clear em eq KC hcl hs hxk1
              go_upto_region 13 with fail
              have b3 : Below wr.heap.size wr (wr.alloc (Obj.cells #[.int .i64 id, .int .i64 (p : Nat), .int .i64 (i : Nat), .int .i64 at_, .int .i64 life, .int .i64 load, .int .i64 task, .int .i64 goal] 44)) := (Below.refl _ _).alloc (Nat.le_refl _) _
              have X3 := Unc.mk' (w := wr) ⟨id, (p : Nat), (i : Nat), at_, life, load, task, goal⟩ rfl
              simp only at X3
              clear u0 u1 u2 u3 u4 u5 u6 u7
              generalize wr.alloc (Obj.cells #[.int .i64 id, .int .i64 (p : Nat), .int .i64 (i : Nat), .int .i64 at_, .int .i64 life, .int .i64 load, .int .i64 task, .int .i64 goal] 44) = w3 at *
              have B3 : Hid (Below wr.heap.size wr w3) := b3
              have hcl : w3.cell? ⟨w.heap.size, 0, none⟩ = some (.slice (some xk) ks.length c) := by rw [b3.cell (p := ⟨w.heap.size, 0, none⟩) (cell_lt hcl'.out)]; exact hcl'.out
              have KC := KC'.out.below b3 (by rw [add_block]; exact Hxk.out)
              obtain ⟨k0, k1, k2, k3, k4, k5, k6, k7, k8, k9, k10⟩ := KC
              simp only at k0 k1 k2 k3 k4 k5 k6 k7 k8 k9 k10
              have x1 : w3.cell? ⟨wr.heap.size, 1, none⟩ = some (.int .i64 (p : Nat)) := X3.c1
              have x2 : w3.cell? ⟨wr.heap.size, 2, none⟩ = some (.int .i64 (i : Nat)) := X3.c2
              have x4 : w3.cell? ⟨wr.heap.size, 4, none⟩ = some (.int .i64 life) := X3.c4
              have Y3 : Hid (wr.heap.size < w3.heap.size ∧ w3.cell? ⟨wr.heap.size, 1, none⟩ = some (.int .i64 (p : Nat)) ∧ w3.cell? ⟨wr.heap.size, 4, none⟩ = some (.int .i64 life)) := ⟨X3.lt, x1, x4⟩
              clear X3 b3
              go_upto_region 14 with fail
              have b4 : Below w3.heap.size w3 (w3.alloc (Obj.cells #[.string kb', .int .i64 n0, .int .i64 n1, .int .i64 n2, .int .i64 n3, .int .i64 n4, .int .i64 n5, .int .i64 n6, .int .i64 n7, .bool kf, .bool kt] 65)) := (Below.refl _ _).alloc (Nat.le_refl _) _
              have X4 := Kc.mk' (w := w3) ⟨kb', n0, n1, n2, n3, n4, n5, n6, n7, kf, kt⟩ rfl
              simp only at X4
              clear k0 k1 k2 k3 k4 k5 k6 k7 k8 k9 k10 x1 x2 x4 hcl
              generalize w3.alloc (Obj.cells #[.string kb', .int .i64 n0, .int .i64 n1, .int .i64 n2, .int .i64 n3, .int .i64 n4, .int .i64 n5, .int .i64 n6, .int .i64 n7, .bool kf, .bool kt] 65) = w4 at *
              have B4 : Hid (Below wr.heap.size wr w4) := B3.out.trans (b4.mono B3.out.size)
              have x1 : w4.cell? ⟨wr.heap.size, 1, none⟩ = some (.int .i64 (p : Nat)) := by rw [b4.cell (p := ⟨wr.heap.size, 1, none⟩) Y3.out.1]; exact Y3.out.2.1
              have x4 : w4.cell? ⟨wr.heap.size, 4, none⟩ = some (.int .i64 life) := by rw [b4.cell (p := ⟨wr.heap.size, 4, none⟩) Y3.out.1]; exact Y3.out.2.2
              have z1 : w4.cell? ⟨w3.heap.size, 1, none⟩ = some (.int .i64 n0) := X4.c1
              have z6 : w4.cell? ⟨w3.heap.size, 6, none⟩ = some (.int .i64 n5) := X4.c6
              have Bk4 : Hid (Bk w4 w2.heap.size (worths ks (us.take n)) #[]) := Bk1.out.low B4.out Hs1.out
              have y0 : w4.cell? ⟨w2.heap.size, p, none⟩ = some (.int .i64 sm) := Bk4.out.cell Wd.out
              have y1 : w4.frozen? ⟨w2.heap.size, p, none⟩ = false := Bk4.out.thaw p
              have hn0 : n0 ≠ 0 := by omega
              have hp4' : (p : Int) < 4 := by omega
              have em : n5 * life = m := Em.out
              have eq : m.tdiv n0 = qq := Eq.out
              have hsm : sm ≤ 1000000 := by omega
              clear X4 b4 Y3
              go_region
              all_goals
                go_wp2
                refine ⟨⟨n + 1, by omega, by go_num, ?_, ?_⟩, by simp [intOf]; omega⟩
                · have := Bk4.out.set p (sm + qq) (by simpa [worths] using hp4)
                  rw [Ws.out] at this
                  exact this
                · exact (((Bb1.out.trans (B4.out.mono Bb1.out.size)).setCell (p := ⟨w2.heap.size, p, none⟩) (Nat.le_refl _) _).drew)
  · have H0 : Hid (R ≠ 0) := h0
    clear h0
    go_wp2
    go_ret2
    exact ⟨_, _, rfl, B1, .inl ⟨H0, RN.out _, Er.no H0⟩⟩
end Go.Proofs.YthcndngdngjalaaGreatDoor

namespace Go.Proofs.YthcndngdngjalaaGreatDoor
open Go.RowKit
set_option linter.unusedVariables false

namespace Sc
def points (ks : List KV) (X : WV) : List Int := List.zipWith (fun g x => g + 10 * x) X.gold (worths ks X.us)
theorem points_len {ks : List KV} {X : WV} (h : X.gold.length ≤ 4) : (points ks X).length = X.gold.length := by
  unfold points worths
  simp
  omega
theorem points_get {ks : List KV} {X : WV} {i : Nat} {g x : Int} (hg : X.gold[i]? = some g) (hx : (worths ks X.us)[i]? = some x) : (points ks X)[i]? = some (g + 10 * x) := by
  unfold points
  rw [List.getElem?_zipWith, hg, hx]
end Sc
structure PFit (ks : List KV) (X : WV) : Prop where
  k : Kd.kindsFault (ks.map KV.k) = 0
  ul : X.us.length ≤ 40
  bad : X.us.any (unBad ks) = false
  gl : X.gold.length ≤ 4
  gold : ∀ g ∈ X.gold, 0 ≤ g ∧ g ≤ 1000000
  worth : ∀ (i : Nat) x, (worths ks X.us)[i]? = some x → 0 ≤ x ∧ x ≤ 40000
  wl : ∀ i, i < X.gold.length → ∃ x, (worths ks X.us)[i]? = some x
theorem pfit_of {ks : List KV} {X : WV} (h : Wd.wfault ks X = 0) : PFit ks X := by
  have R := wright_of h
  have n := R.nums
  unfold Wd.numsBad at n
  simp only [Bool.or_eq_false_iff, Bool.not_eq_false', decide_eq_true_eq] at n
  obtain ⟨-, -, ⟨g1, g2⟩, g3⟩ := n
  have gl : X.gold.length ≤ 4 := by omega
  have kr := kinds_right R.kinds
  have bad : X.us.any (unBad ks) = false := by
    rw [List.any_eq_false]
    intro u hu
    obtain ⟨i, hi⟩ := List.mem_iff_getElem?.1 hu
    obtain ⟨k, F⟩ := R.fine hi
    have e : kindAt ks u.kind = some k := by
      unfold kindAt
      rw [if_neg (by have := F.k0; omega)]
      exact F.kk
    unfold unBad
    rw [e]
    simp only [decide_eq_true_eq]
    have := F.p
    have := F.life
    omega
  refine ⟨R.kinds, R.ul, bad, gl, fun g hg => ?_, fun i x hx => ?_, fun i hi => ?_⟩
  · rw [List.any_eq_false] at g3
    have := g3 g hg
    unfold Wd.off at this
    simp at this
    exact this
  · have wb : ∀ j, 0 ≤ worthOf ks X.us j ∧ worthOf ks X.us j ≤ 40000 := fun j => by
      have := worthOf_bound (fun k hk => ⟨(kr.2 k hk).1, (kr.2 k hk).2.1, (kr.2 k hk).2.2.1⟩) bad j X.us.length (Nat.le_refl _)
      rw [List.take_of_length_le (Nat.le_refl _)] at this
      have := R.ul
      omega
    unfold worths at hx
    match i, hx with
    | 0, hx => simp at hx; rw [← hx]; exact wb 0
    | 1, hx => simp at hx; rw [← hx]; exact wb 1
    | 2, hx => simp at hx; rw [← hx]; exact wb 2
    | 3, hx => simp at hx; rw [← hx]; exact wb 3
    | n + 4, hx => simp at hx
  · exact ⟨_, List.getElem?_eq_getElem (by unfold worths; simp; omega)⟩
set_option maxRecDepth 100000 in
set_option maxHeartbeats 8000000 in
theorem points_any (vk vw : Value) (ks : List KV) (X : WV) (w : World) (hk : Kl w vk ks) (hb : ∀ k ∈ ks, k.b.size ≤ 9223372036854775807) (hw : Wl w vw X) :
    Calls Tryz.prog 30 #[vk, vw] w fun e w' => ∃ (r u : Value), e = .returned (.tuple #[r, u]) ∧ Below w.heap.size w w' ∧
      ((Wd.wfault ks X ≠ 0 ∧ Ro w' r [] ∧ Er u (Wd.wfault ks X)) ∨ (Wd.wfault ks X = 0 ∧ Ro w' r (Sc.points ks X) ∧ Er u 0)) := by
  have K : Hid (Kl w vk ks ∧ ∀ k ∈ ks, k.b.size ≤ 9223372036854775807) := ⟨hk, hb⟩
  have W0 : Hid (Wl w vw X) := hw
  have PF : Hid (Wd.wfault ks X = 0 → PFit ks X) := pfit_of
  obtain ⟨v1, v2, v3, v4, v5, rfl, r1, r2, hg, hu, r5⟩ := hw
  have U0 : Hid (Unl w v4 X.us) := hu
  have G0 : Hid (Ro w v3 X.gold) := hg
  obtain ⟨ag, cg, rfl, cg1, cg2, -⟩ := hg
  clear r1 r2 r5 hu hk hb
  go_enter Tryz.func30, Tryz.ntmps30
  obtain ⟨z, hz⟩ : ∃ z, w.heap.size = z := ⟨_, rfl⟩
  have HZ : Hid (w.heap.size = z) := hz
  have X0 : Hid (Bw (w.alloc (Obj.cells #[.int .i64 X.turn, .int .i64 X.next, .int .i64 X.wide, .int .i64 X.high, v1, v2, .slice ag X.gold.length cg, v4, v5] 29)) z X v1 v2 (.slice ag X.gold.length cg) v4 v5) := Bw.mk' (w := w) X v1 v2 (.slice ag X.gold.length cg) v4 v5 hz
  have B0 : Hid (Below w.heap.size w (w.alloc (Obj.cells #[.int .i64 X.turn, .int .i64 X.next, .int .i64 X.wide, .int .i64 X.high, v1, v2, .slice ag X.gold.length cg, v4, v5] 29))) := (Below.refl _ _).alloc (Nat.le_refl _) _
  go_upto_region 1 with fail
  clear hz
  generalize (w.alloc (Obj.cells #[.int .i64 X.turn, .int .i64 X.next, .int .i64 X.wide, .int .i64 X.high, v1, v2, .slice ag X.gold.length cg, v4, v5] 29)) = w1 at *
  obtain ⟨x0, x1, x2, x3, x4, x5, x6, x7, x8⟩ := X0.out
  go_wp2_with fail
  refine (wcheck_any _ _ ks X w1 (K.out.1.below B0.out) K.out.2 (W0.out.below B0.out)).mono ?_
  rintro e w2 ⟨r, rfl, hr, b2⟩
  have B2 : Hid (Below w.heap.size w w2) := B0.out.trans (b2.mono B0.out.size)
  have X2 : Hid (Bw w2 z X v1 v2 (.slice ag X.gold.length cg) v4 v5) := X0.out.below b2 X0.out.lt
  clear b2 x0 x1 x2 x3 x4 x5 x6 x7 x8 X0
  rcases hr with ⟨h0, rfl⟩ | ⟨h0, rfl⟩
  case inr =>
    have H0 : Hid (Wd.wfault ks X ≠ 0) := h0
    clear h0
    go_wp2
    go_ret2
    exact ⟨_, _, rfl, by first | exact B2.out | (rw [← HZ.out]; exact B2.out), .inl ⟨H0.out, ⟨none, 0, rfl, Nat.le_refl _, by omega, fun h => absurd rfl h⟩, Er.no H0.out⟩⟩
  case inl =>
    have F : Hid (PFit ks X) := PF.out h0
    have H0 : Hid (Wd.wfault ks X = 0) := h0
    clear PF h0
    have x7 := X2.out.c7
    go_wp2_with fail
    refine (worth_any _ ks _ X.us w2 (K.out.1.below B2.out) K.out.2 (U0.out.below B2.out)).mono ?_
    rintro e w3 ⟨r, u, rfl, b3, hr⟩
    have B3 : Hid (Below w.heap.size w w3) := B2.out.trans (b3.mono B2.out.size)
    have X3 : Hid (Bw w3 z X v1 v2 (.slice ag X.gold.length cg) v4 v5) := X2.out.below b3 X2.out.lt
    clear b3 x7
    rcases hr with ⟨h, -⟩ | ⟨-, h, -⟩ | ⟨-, -, h, -⟩ | ⟨-, -, -, hr, he⟩
    · exact absurd F.out.k h
    · have := F.out.ul; omega
    · rw [F.out.bad] at h; cases h
    obtain rfl : u = .nilIface := by
      rcases he with ⟨-, e⟩ | ⟨h, -⟩
      · exact e
      · exact absurd rfl h
    have RW : Hid (Ro w3 r (worths ks X.us)) := hr
    have lw : (worths ks X.us).length = 4 := rfl
    obtain ⟨ar, cr, rfl, -, -, hwc⟩ := hr
    obtain ⟨xr, rfl, hxl, hxr⟩ := hwc (by simp [worths])
    have WC : Hid (xr.block < w3.heap.size ∧ ∀ (i : Nat) d, (worths ks X.us)[i]? = some d → w3.cell? (xr.add i) = some (.int .i64 d)) := ⟨hxl, hxr⟩
    rw [lw]
    clear hwc hxl hxr he lw
    have gl := F.out.gl
    obtain ⟨w4, hm, hbk, hbb, hs⟩ := makeI X.gold.length w3 (by omega)
    have BK : Hid (Bk w4 w3.heap.size (List.replicate X.gold.length 0) #[]) := hbk
    have BB : Hid (Below w3.heap.size w3 w4) := hbb
    have x6 := X3.out.c6
    have x6' := (X3.out.below BB.out X3.out.lt).c6
    obtain ⟨b, hb⟩ : ∃ b, w3.heap.size = b := ⟨_, rfl⟩
    have HB : Hid (w3.heap.size = b) := hb
    rw [hb] at BK hm
    clear hbk hbb hs hb
    go_wp2_with fail
    clear hm x6 x6'
    go_loopw [35] (fun j V => ∃ n : Nat, n ≤ X.gold.length ∧ j = .int .i64 (n : Nat) ∧ Bk V b ((Sc.points ks X).take n ++ List.replicate (X.gold.length - n) 0) #[] ∧ Below b w3 V) (fun j _ => X.gold.length - (intOf j).toNat)
    case atStart => exact ⟨0, Nat.zero_le _, rfl, by simpa using BK.out, by rw [← HB.out]; exact BB.out⟩
    case round =>
      obtain ⟨n, hn, rfl, hb1, hB⟩ := hrel
      have B1 : Hid (Bk wr b ((Sc.points ks X).take n ++ List.replicate (X.gold.length - n) 0) #[]) := hb1
      have V1 : Hid (Below b w3 wr) := hB
      have BR : Hid (Below w.heap.size w wr) := B3.out.trans (by rw [← HB.out] at hB; exact hB.mono B3.out.size)
      clear hb1 hB
      by_cases hne : n = X.gold.length
      · subst hne
        go_wp2
        go_ret2
        refine ⟨_, _, rfl, by first | exact BR.out | (rw [← HZ.out]; exact BR.out), .inr ⟨H0.out, ?_, Er.nil⟩⟩
        have := B1.out.ro (c := X.gold.length) (by simp [Sc.points_len gl]) (by omega)
        rw [Nat.sub_self, List.replicate_zero, List.append_nil, List.take_of_length_le (by rw [Sc.points_len gl]; exact Nat.le_refl _), Sc.points_len gl] at this
        exact this
      · have hnl : n < X.gold.length := by omega
        have hnl' : (n : Int) < (X.gold.length : Int) := by omega
        have hn4 : (n : Int) < 4 := by omega
        obtain ⟨g, hg⟩ : ∃ g, X.gold[n]? = some g := ⟨_, List.getElem?_eq_getElem hnl⟩
        obtain ⟨x, hx⟩ := F.out.wl n hnl
        have gb := F.out.gold g (List.mem_of_getElem? hg)
        have xb := F.out.worth n x hx
        have PG : Hid ((Sc.points ks X)[n]? = some (g + 10 * x)) := Sc.points_get hg hx
        obtain ⟨a', c', e', -, -, hy⟩ := G0.out.below BR.out
        injection e' with e1 e2 e3
        subst e1 e3
        obtain ⟨y, rfl, -, hy⟩ := hy (by rintro hn; rw [hn] at hnl; simp at hnl)
        have cy := hy n g hg
        have cx : wr.cell? (xr.add n) = some (.int .i64 x) := by
          rw [V1.out.cell (by rw [add_block, ← HB.out]; exact WC.out.1)]
          exact WC.out.2 n x hx
        have tz := B1.out.thaw n
        have l9 : ((Sc.points ks X).take n).length = n := by rw [List.length_take, Sc.points_len gl]; omega
        have cz := B1.out.cell (i := n) (d := 0) (by
          rw [List.getElem?_append_right (by omega), l9, Nat.sub_self, List.getElem?_replicate, if_pos (by omega)])
        have SZ : Hid (Bk (wr.setCell ⟨b, n, none⟩ (.int .i64 (g + 10 * x))) b ((Sc.points ks X).take (n + 1) ++ List.replicate (X.gold.length - (n + 1)) 0) #[]) := by
          have h9 := B1.out.set n (g + 10 * x) (by simp [Sc.points_len gl]; omega)
          have e9 : ((Sc.points ks X).take n ++ List.replicate (X.gold.length - n) 0).set n (g + 10 * x) = (Sc.points ks X).take (n + 1) ++ List.replicate (X.gold.length - (n + 1)) 0 := by
            rw [List.set_append_right _ _ (by omega), l9, Nat.sub_self, List.take_add_one, PG.out]
            have : X.gold.length - n = (X.gold.length - (n + 1)) + 1 := by omega
            rw [this, List.replicate_succ]
            simp
          rw [e9] at h9
          exact h9
        have w10 : IntKind.i64.wrap (10 * x) = 10 * x := by rw [IntKind.wrap_i64]; omega
        have wgx : IntKind.i64.wrap (g + 10 * x) = g + 10 * x := by rw [IntKind.wrap_i64]; omega
        clear hy hg hx e2 l9
        go_wp2
        exact ⟨⟨n + 1, by omega, by go_num, SZ.out, V1.out.setCell (p := ⟨b, n, none⟩) (Nat.le_refl _) _⟩, by simp [intOf]; omega⟩
end Go.Proofs.YthcndngdngjalaaGreatDoor

namespace Go.Proofs.YthcndngdngjalaaGreatDoor
open Go.RowKit

set_option maxHeartbeats 400000 in
theorem ints_any (u v : Value) (xs ys : List Int) (w : World) (hu : Ro w u xs) (hv : Ro w v ys) :
    Calls Tryz.prog 31 #[u, v] w fun e w' => e = .returned (.bool (decide (xs = ys))) ∧ ∃ n, w' = w.drewN n := by
  obtain ⟨a, c, rfl, hc1, hc2, ha⟩ := hu
  obtain ⟨b, d, rfl, hd1, hd2, hb⟩ := hv
  have Ha : Hid (Cells w a xs) := ha
  have Hb : Hid (Cells w b ys) := hb
  clear ha hb
  by_cases hl : xs.length = ys.length
  · have Hl : Hid (xs.length = ys.length) := hl
    rw [← hl] at hd1 ⊢
    clear hl
    go_enter Tryz.func31, Tryz.ntmps31
    go_wp2_with fail
    go_loopw [5] (fun i W => ∃ (k q : Nat), k ≤ xs.length ∧ i = .int .i64 (k : Nat) ∧ xs.take k = ys.take k ∧ W = w.drewN q) (fun i _ => xs.length - (intOf i).toNat)
    case atStart => exact ⟨0, 0, Nat.zero_le _, rfl, by simp, rfl⟩
    case round =>
      obtain ⟨k, q, hk, rfl, ht, rfl⟩ := hrel
      have Ht : Hid (xs.take k = ys.take k) := ht
      clear ht
      by_cases h0 : k = xs.length
      · subst h0
        go_wp2
        go_ret
        refine ⟨?_, q, rfl⟩
        have e := Ht.out
        rw [List.take_of_length_le (Nat.le_refl _), Hl.out, List.take_of_length_le (Nat.le_refl _)] at e
        simp [e]
      · have hkx : k < xs.length := by omega
        have hky : k < ys.length := by rw [← Hl.out]; exact hkx
        obtain ⟨x, rfl, -, hx⟩ := Ha.out (by intro h; rw [h] at hkx; simp at hkx)
        obtain ⟨y, rfl, -, hy⟩ := Hb.out (by intro h; rw [h] at hky; simp at hky)
        have cx := hx k xs[k] (List.getElem?_eq_getElem hkx)
        have cy := hy k ys[k] (List.getElem?_eq_getElem hky)
        have Te : Hid (xs.take (k + 1) = ys.take (k + 1) ↔ xs[k] = ys[k]) := by
          unfold Hid
          rw [List.take_succ_eq_append_getElem hkx, List.take_succ_eq_append_getElem hky, Ht.out]
          exact ⟨fun h => (List.cons.inj (List.append_cancel_left h)).1, fun h => by rw [h]⟩
        generalize xs[k] = p at *
        generalize ys[k] = r at *
        clear hx hy
        by_cases hpr : p = r
        · subst hpr
          go_wp2
          go_quiet (fail)
          go_wp2
          go_round
          case rel => exact ⟨k + 1, q + nq, by omega, by go_num, by first | exact Te.out.2 rfl | exact Te.out.2 trivial, rfl⟩
          case measure => simp [intOf]; omega
        · go_wp2
          go_quiet (fail)
          go_wp2
          go_ret
          refine ⟨?_, q + nq, by rw [World.drewN_drewN]⟩
          have : xs ≠ ys := fun h => hpr (Te.out.1 (by rw [h]))
          simp [this]
  · go_enter Tryz.func31, Tryz.ntmps31
    go_wp2
    go_ret
    refine ⟨?_, 0, rfl⟩
    have : xs ≠ ys := fun h => hl (by rw [h])
    simp [this]
end Go.Proofs.YthcndngdngjalaaGreatDoor

namespace Go.Proofs.YthcndngdngjalaaGreatDoor
open Go.RowKit
set_option linter.unusedVariables false

set_option maxHeartbeats 1000000 in
theorem same_field (u v : Value) (W H : Int) (gs os : List Int) (w : World) (hu : Fl w u W H gs os) (hv : Fl w v W H gs os) :
    Calls Tryz.prog 44 #[u, v] w fun e w' => e = .returned (.bool true) ∧ Below w.heap.size w w' := by
  obtain ⟨a1, a2, rfl, ha1, ha2⟩ := hu
  obtain ⟨b1, b2, rfl, hb1, hb2⟩ := hv
  have A1 : Hid (Ro w a1 gs) := ha1
  have A2 : Hid (Ro w a2 os) := ha2
  have B1 : Hid (Ro w b1 gs) := hb1
  have B2 : Hid (Ro w b2 os) := hb2
  clear ha1 ha2 hb1 hb2
  go_enter Tryz.func44, Tryz.ntmps44
  go_wp2_with fail
  have K0 : Below w.heap.size w ((w.alloc (Obj.cells #[.int .i64 W, .int .i64 H, a1, a2] 25)).alloc (Obj.cells #[.int .i64 W, .int .i64 H, b1, b2] 25)) := ((Below.refl _ _).alloc (Nat.le_refl _) _).alloc (by simp) _
  have X0 := (Bf.mk' (w := w) W H a1 a2 rfl).below ((Below.refl _ _).alloc (Nat.le_refl _) (Obj.cells #[.int .i64 W, .int .i64 H, b1, b2] 25)) (by simp)
  have Y0 := Bf.mk' (w := w.alloc (Obj.cells #[.int .i64 W, .int .i64 H, a1, a2] 25)) (z := w.heap.size + 1) W H b1 b2 (by simp)
  generalize (w.alloc (Obj.cells #[.int .i64 W, .int .i64 H, a1, a2] 25)).alloc (Obj.cells #[.int .i64 W, .int .i64 H, b1, b2] 25) = w0 at *
  refine (ints_any _ _ gs gs _ (A1.out.below K0) (B1.out.below K0)).mono ?_
  rintro e w1 ⟨rfl, q1, hq1⟩
  rw [decide_eq_true rfl]
  have k1 : Below w0.heap.size w0 w1 := by rw [hq1]; exact _root_.Go.below_drewN (Below.refl _ _) _
  have K1 : Below w.heap.size w w1 := K0.trans (k1.mono K0.size)
  have X1 : Hid (Bf w1 w.heap.size W H a1 a2) := X0.below k1 X0.lt
  have Y1 : Hid (Bf w1 (w.heap.size + 1) W H b1 b2) := Y0.below k1 Y0.lt
  clear hq1 k1 X0 Y0 K0
  obtain ⟨x0, x1, x2, x3⟩ := X1.out
  obtain ⟨y0, y1, y2, y3⟩ := Y1.out
  have K1' : Hid (Below w.heap.size w w1) := K1
  clear K1
  go_wp2_with fail
  refine (ints_any _ _ os os _ (A2.out.below K1'.out) (B2.out.below K1'.out)).mono ?_
  rintro e w2 ⟨rfl, q2, hq2⟩
  rw [decide_eq_true rfl]
  have k2 : Below w1.heap.size w1 w2 := by rw [hq2]; exact _root_.Go.below_drewN (Below.refl _ _) _
  have K2 : Hid (Below w.heap.size w w2) := K1'.out.trans (k2.mono K1'.out.size)
  have X2 : Hid (Bf w2 w.heap.size W H a1 a2) := X1.out.below k2 X1.out.lt
  have Y2 : Hid (Bf w2 (w.heap.size + 1) W H b1 b2) := Y1.out.below k2 Y1.out.lt
  clear hq2 k2 x0 x1 x2 x3 y0 y1 y2 y3 X1 Y1 K1'
  obtain ⟨x0, x1, x2, x3⟩ := X2.out
  obtain ⟨y0, y1, y2, y3⟩ := Y2.out
  go_wp2
  go_ret
  exact ⟨rfl, K2⟩
end Go.Proofs.YthcndngdngjalaaGreatDoor

namespace Go.Proofs.YthcndngdngjalaaGreatDoor
open Go.RowKit
set_option linter.unusedVariables false

theorem ints_like (u v : Value) (xs : List Int) (w : World) (hu : Ro w u xs) (hv : Ro w v xs) :
    Calls Tryz.prog 31 #[u, v] w fun e w' => e = .returned (.bool true) ∧ Below w.heap.size w w' :=
  (ints_any u v xs xs w hu hv).mono fun e w' ⟨h1, q, h2⟩ => ⟨by rw [h1, decide_eq_true rfl], by rw [h2]; exact _root_.Go.below_drewN (Below.refl _ _) _⟩
set_option maxRecDepth 100000 in
set_option maxHeartbeats 4000000 in
theorem worlds_like (u v : Value) (W : WV) (w : World) (hu : Wl w u W) (hv : Wl w v W) :
    Calls Tryz.prog 14 #[u, v] w fun e w' => e = .returned (.bool true) ∧ Below w.heap.size w w' := by
  obtain ⟨u1, u2, u3, u4, u5, rfl, g1, g2, g3, g4, g5⟩ := hu
  obtain ⟨v1, v2, v3, v4, v5, rfl, k1, k2, k3, k4, k5⟩ := hv
  obtain ⟨a4, c4, rfl, gl4, gc4, ga4⟩ := g4
  obtain ⟨b4, d4, rfl, kl4, kc4, ka4⟩ := k4
  obtain ⟨a5, c5, rfl, gl5, gc5, ga5⟩ := g5
  obtain ⟨b5, d5, rfl, kl5, kc5, ka5⟩ := k5
  have R : Hid (Ro w u1 W.gs ∧ Ro w u2 W.os ∧ Ro w u3 W.gold ∧ Ro w v1 W.gs ∧ Ro w v2 W.os ∧ Ro w v3 W.gold) := ⟨g1, g2, g3, k1, k2, k3⟩
  have GU : Hid (W.us ≠ [] → ∃ x, a4 = some x ∧ x.block < w.heap.size ∧ ∀ (i : Nat) k, W.us[i]? = some k → Unc w (x.add (i * 8)) k) := ga4
  have KU : Hid (W.us ≠ [] → ∃ x, b4 = some x ∧ x.block < w.heap.size ∧ ∀ (i : Nat) k, W.us[i]? = some k → Unc w (x.add (i * 8)) k) := ka4
  have GJ : Hid (W.qs ≠ [] → ∃ x, a5 = some x ∧ x.block < w.heap.size ∧ ∀ (i : Nat) k, W.qs[i]? = some k → Jbc w (x.add (i * 4)) k) := ga5
  have KJ : Hid (W.qs ≠ [] → ∃ x, b5 = some x ∧ x.block < w.heap.size ∧ ∀ (i : Nat) k, W.qs[i]? = some k → Jbc w (x.add (i * 4)) k) := ka5
  have hul : W.us.length ≤ 9223372036854775807 := by omega
  have hql : W.qs.length ≤ 9223372036854775807 := by omega
  clear g1 g2 g3 k1 k2 k3 ga4 ka4 ga5 ka5 gl4 gc4 kl4 kc4 gl5 gc5 kl5 kc5
  go_enter Tryz.func14, Tryz.ntmps14
  go_wp2_with fail
  have K0 : Below w.heap.size w ((w.alloc (Obj.cells #[.int .i64 W.turn, .int .i64 W.next, .int .i64 W.wide, .int .i64 W.high, u1, u2, u3, .slice a4 W.us.length c4, .slice a5 W.qs.length c5] 29)).alloc (Obj.cells #[.int .i64 W.turn, .int .i64 W.next, .int .i64 W.wide, .int .i64 W.high, v1, v2, v3, .slice b4 W.us.length d4, .slice b5 W.qs.length d5] 29)) := ((Below.refl _ _).alloc (Nat.le_refl _) _).alloc (by simp) _
  have X0 := (Bw.mk' (w := w) W u1 u2 u3 (.slice a4 W.us.length c4) (.slice a5 W.qs.length c5) rfl).below ((Below.refl _ _).alloc (Nat.le_refl _) (Obj.cells #[.int .i64 W.turn, .int .i64 W.next, .int .i64 W.wide, .int .i64 W.high, v1, v2, v3, .slice b4 W.us.length d4, .slice b5 W.qs.length d5] 29)) (by simp)
  have Y0 := Bw.mk' (w := w.alloc (Obj.cells #[.int .i64 W.turn, .int .i64 W.next, .int .i64 W.wide, .int .i64 W.high, u1, u2, u3, .slice a4 W.us.length c4, .slice a5 W.qs.length c5] 29)) (z := w.heap.size + 1) W v1 v2 v3 (.slice b4 W.us.length d4) (.slice b5 W.qs.length d5) (by simp)
  generalize ((w.alloc (Obj.cells #[.int .i64 W.turn, .int .i64 W.next, .int .i64 W.wide, .int .i64 W.high, u1, u2, u3, .slice a4 W.us.length c4, .slice a5 W.qs.length c5] 29)).alloc (Obj.cells #[.int .i64 W.turn, .int .i64 W.next, .int .i64 W.wide, .int .i64 W.high, v1, v2, v3, .slice b4 W.us.length d4, .slice b5 W.qs.length d5] 29)) = w0 at *
  refine (same_field _ _ W.wide W.high W.gs W.os w0 ⟨_, _, rfl, R.out.1.below K0, R.out.2.1.below K0⟩ ⟨_, _, rfl, R.out.2.2.2.1.below K0, R.out.2.2.2.2.1.below K0⟩).mono ?_
  rintro e w1 ⟨rfl, hb1⟩
  have K1 : Hid (Below w.heap.size w w1) := K0.trans (hb1.mono K0.size)
  have X1 : Hid (Bw w1 w.heap.size W u1 u2 u3 (.slice a4 W.us.length c4) (.slice a5 W.qs.length c5)) := X0.below hb1 X0.lt
  have Y1 : Hid (Bw w1 (w.heap.size + 1) W v1 v2 v3 (.slice b4 W.us.length d4) (.slice b5 W.qs.length d5)) := Y0.below hb1 Y0.lt
  clear K0 X0 Y0 hb1
  obtain ⟨x0, x1, x2, x3, x4, x5, x6, x7, x8⟩ := X1.out
  obtain ⟨y0, y1, y2, y3, y4, y5, y6, y7, y8⟩ := Y1.out
  go_wp2_with fail
  refine (ints_like _ _ W.gold w1 (R.out.2.2.1.below K1.out) (R.out.2.2.2.2.2.below K1.out)).mono ?_
  rintro e w2 ⟨rfl, hb2⟩
  have K2' : Hid (Below w.heap.size w w2) := K1.out.trans (hb2.mono K1.out.size)
  have X2 : Hid (Bw w2 w.heap.size W u1 u2 u3 (.slice a4 W.us.length c4) (.slice a5 W.qs.length c5)) := X1.out.below hb2 X1.out.lt
  have Y2 : Hid (Bw w2 (w.heap.size + 1) W v1 v2 v3 (.slice b4 W.us.length d4) (.slice b5 W.qs.length d5)) := Y1.out.below hb2 Y1.out.lt
  clear hb2 x0 x1 x2 x3 x4 x5 x6 x7 x8 y0 y1 y2 y3 y4 y5 y6 y7 y8 X1 Y1 K1
  obtain ⟨x0, x1, x2, x3, x4, x5, x6, x7, x8⟩ := X2.out
  obtain ⟨y0, y1, y2, y3, y4, y5, y6, y7, y8⟩ := Y2.out
  go_wp2
  clear x0 x1 x2 x3 x4 x5 x6 x7 x8 y0 y1 y2 y3 y4 y5 y6 y7 y8
  go_loopw [7] (fun i W' => ∃ k : Nat, k ≤ W.us.length ∧ i = .int .i64 (k : Nat) ∧ Bw W' w.heap.size W u1 u2 u3 (.slice a4 W.us.length c4) (.slice a5 W.qs.length c5) ∧ Bw W' (w.heap.size + 1) W v1 v2 v3 (.slice b4 W.us.length d4) (.slice b5 W.qs.length d5) ∧ Below w.heap.size w W') (fun i _ => W.us.length - (intOf i).toNat)
  case atStart => exact ⟨0, Nat.zero_le _, rfl, X2.out, Y2.out, K2'.out⟩
  case round =>
    obtain ⟨k, hk, rfl, hX, hY, hB⟩ := hrel
    have XB : Hid (Bw wr w.heap.size W u1 u2 u3 (.slice a4 W.us.length c4) (.slice a5 W.qs.length c5)) := hX
    have YB : Hid (Bw wr (w.heap.size + 1) W v1 v2 v3 (.slice b4 W.us.length d4) (.slice b5 W.qs.length d5)) := hY
    have B : Hid (Below w.heap.size w wr) := hB
    clear hX hY hB X2 Y2 K2'
    by_cases h0 : k = W.us.length
    · subst h0
      have x7 := XB.out.c7
      clear hk
      go_wp2
      clear x7
      go_loopw [8] (fun i W' => ∃ k : Nat, k ≤ W.qs.length ∧ i = .int .i64 (k : Nat) ∧ Bw W' w.heap.size W u1 u2 u3 (.slice a4 W.us.length c4) (.slice a5 W.qs.length c5) ∧ Bw W' (w.heap.size + 1) W v1 v2 v3 (.slice b4 W.us.length d4) (.slice b5 W.qs.length d5) ∧ Below w.heap.size w W') (fun i _ => W.qs.length - (intOf i).toNat)
      case atStart => exact ⟨0, Nat.zero_le _, rfl, XB.out, YB.out, B.out⟩
      case round =>
        obtain ⟨k, hk, rfl, hX, hY, hB⟩ := hrel
        have XB : Hid (Bw wr w.heap.size W u1 u2 u3 (.slice a4 W.us.length c4) (.slice a5 W.qs.length c5)) := hX
        have YB : Hid (Bw wr (w.heap.size + 1) W v1 v2 v3 (.slice b4 W.us.length d4) (.slice b5 W.qs.length d5)) := hY
        have B : Hid (Below w.heap.size w wr) := hB
        clear hX hY hB
        by_cases h0 : k = W.qs.length
        · subst h0
          have x8 := XB.out.c8
          clear hk
          go_wp2
          go_ret
          exact ⟨rfl, B.out⟩
        · have hlt : k < W.qs.length := by omega
          have hlti : ((k : Nat) : Int) < (W.qs.length : Nat) := by omega
          obtain ⟨o, ho⟩ : ∃ o, W.qs[k]? = some o := ⟨_, List.getElem?_eq_getElem hlt⟩
          have hne : W.qs ≠ [] := by intro e; rw [e] at hlt; simp at hlt
          obtain ⟨x, rfl, hx, hxc⟩ := GJ.out hne
          obtain ⟨y, rfl, hy, hyc⟩ := KJ.out hne
          obtain ⟨q0, q1, q2, q3⟩ := (hxc k o ho).below B.out (by rw [add_block]; exact hx)
          obtain ⟨r0, r1, r2, r3⟩ := (hyc k o ho).below B.out (by rw [add_block]; exact hy)
          have x8 := XB.out.c8
          have y8 := YB.out.c8
          clear hxc hyc hne ho hx hy
          go_wp2
          go_quiet (fail)
          go_wp2
          go_round
          case rel => exact ⟨k + 1, by omega, by go_num, XB.out.below (_root_.Go.below_drewN (Below.refl _ _) _) XB.out.lt, YB.out.below (_root_.Go.below_drewN (Below.refl _ _) _) YB.out.lt, _root_.Go.below_drewN B.out _⟩
          case measure => simp [intOf]; omega
    · have hlt : k < W.us.length := by omega
      have hlti : ((k : Nat) : Int) < (W.us.length : Nat) := by omega
      obtain ⟨o, ho⟩ : ∃ o, W.us[k]? = some o := ⟨_, List.getElem?_eq_getElem hlt⟩
      have hne : W.us ≠ [] := by intro e; rw [e] at hlt; simp at hlt
      obtain ⟨x, rfl, hx, hxc⟩ := GU.out hne
      obtain ⟨y, rfl, hy, hyc⟩ := KU.out hne
      obtain ⟨q0, q1, q2, q3, q4, q5, q6, q7⟩ := (hxc k o ho).below B.out (by rw [add_block]; exact hx)
      obtain ⟨r0, r1, r2, r3, r4, r5, r6, r7⟩ := (hyc k o ho).below B.out (by rw [add_block]; exact hy)
      have x7 := XB.out.c7
      have y7 := YB.out.c7
      clear hxc hyc hne ho hx hy
      go_wp2
      go_quiet (fail)
      go_wp2
      go_round
      case rel => exact ⟨k + 1, by omega, by go_num, XB.out.below (_root_.Go.below_drewN (Below.refl _ _) _) XB.out.lt, YB.out.below (_root_.Go.below_drewN (Below.refl _ _) _) YB.out.lt, _root_.Go.below_drewN B.out _⟩
      case measure => simp [intOf]; omega
end Go.Proofs.YthcndngdngjalaaGreatDoor

namespace Go.Proofs.YthcndngdngjalaaGreatDoor
open Go.ChangeShapes Go.WideShapes Go.ChangeAt Go.RowKit
set_option linter.unusedVariables false

theorem byte_of_wf {n : Int} (h : (Lit.int .u8 n).wf = true) : 0 ≤ n ∧ n < 256 := by
  simp only [Lit.wf, Bool.and_eq_true, decide_eq_true_eq] at h
  have h1 : IntKind.u8.min = 0 := by decide
  have h2 : IntKind.u8.max = 255 := by decide
  omega
theorem bulk_pos {H : Type} : ∀ d : DataW H, 1 ≤ Rows.uptoBulk d
  | .lit (.string bytes) => by simp [Rows.uptoBulk]
  | .lit (.int _ _) => by simp [Rows.uptoBulk]
  | .lit (.bool _) => by simp [Rows.uptoBulk]
  | .lit (.float .f32 _) => by simp [Rows.uptoBulk]
  | .lit (.float .f64 _) => by simp [Rows.uptoBulk]
  | .lit .nil => by simp [Rows.uptoBulk]
  | .nil => by simp [Rows.uptoBulk]
  | .ptr d => by simp [Rows.uptoBulk]
  | .slice _ _ => by simp [Rows.uptoBulk]
  | .agg _ => by simp [Rows.uptoBulk]
  | .iface _ _ => by simp [Rows.uptoBulk]
  | .map _ => by simp [Rows.uptoBulk]
  | .held _ => by simp [Rows.uptoBulk]
theorem bulk_len {H : Type} : ∀ ds : List (DataW H), ds.length ≤ Rows.uptoBulkAll ds
  | [] => by simp
  | d :: ds => by
    have h1 := bulk_pos d
    have h2 := bulk_len ds
    simp only [Rows.uptoBulkAll, List.length_cons]
    omega
theorem bulk_slice {H : Type} (es sp : List (DataW H)) : es.length ≤ Rows.uptoBulk (.slice es sp) := by
  have := bulk_len es
  simp only [Rows.uptoBulk]
  omega
end Go.Proofs.YthcndngdngjalaaGreatDoor

namespace Go.Proofs.YthcndngdngjalaaGreatDoor
open Go.ChangeShapes Go.WideShapes Go.ChangeAt Go.RowKit
set_option linter.unusedVariables false

theorem in64_of_wf {n : Int} (h : (Lit.int .i64 n).wf = true) : Wd.In64 n := by
  unfold Wd.In64
  simp only [Lit.wf, Bool.and_eq_true, decide_eq_true_eq] at h
  have h1 : IntKind.i64.min = -9223372036854775808 := by decide
  have h2 : IntKind.i64.max = 9223372036854775807 := by decide
  omega
set_option maxRecDepth 100000 in
theorem open_row64 {H : Type} {enc : TypeId × Value → H} {W : World} {base : Nat} {held : Bool} {fuel : Nat} {v : Value} {y : DataW H × List MemPlace} (h : DataW.trod enc Tryz.prog W base (fun _ => true) held fuel 23 [v] = some y) :
    ∃ zs, Ro W v zs ∧ (∀ n ∈ zs, Wd.In64 n) ∧ zs.length ≤ Rows.uptoBulk y.1 := by
  rcases open_ints Tryz.underlying23 Tryz.underlying3 (by kernel_rfl) h with ⟨hcs, rfl⟩ | ⟨x, l, c, zs, hcs, _, hl, hm, hz, rfl, hcell, hwz⟩
  · simp at hcs
    subst hcs
    exact ⟨_, IsRow.ro (.inl ⟨rfl, rfl, rfl, rfl⟩), by simp, by simp⟩
  · simp at hcs
    subst hcs
    refine ⟨_, IsRow.ro (zs := zs) (.inr ⟨_, rfl, hl, hm, by simpa using hz, hcell, hwz⟩), fun n hn => in64_of_wf (hwz n (List.mem_of_mem_take hn)), ?_⟩
    have := bulk_slice (H := H) (lits .i64 (zs.take l)) (lits .i64 (zs.drop l))
    simpa [lits] using this
theorem un_flds : ∃ f0 f1 f2 f3 f4 f5 f6 f7 : Field, Tryz.prog.underlying 44 = some (.struct #[f0, f1, f2, f3, f4, f5, f6, f7]) ∧ f0.offset = 0 ∧ f0.type = 3 ∧ f1.offset = 1 ∧ f1.type = 3 ∧ f2.offset = 2 ∧ f2.type = 3 ∧ f3.offset = 3 ∧ f3.type = 3 ∧ f4.offset = 4 ∧ f4.type = 3 ∧ f5.offset = 5 ∧ f5.type = 3 ∧ f6.offset = 6 ∧ f6.type = 3 ∧ f7.offset = 7 ∧ f7.type = 3 := ⟨_, _, _, _, _, _, _, _, Tryz.underlying44, rfl, rfl, rfl, rfl, rfl, rfl, rfl, rfl, rfl, rfl, rfl, rfl, rfl, rfl, rfl, rfl⟩
set_option maxRecDepth 100000 in
theorem open_un64 {H : Type} {enc : TypeId × Value → H} {W : World} {base : Nat} {held : Bool} {fuel : Nat} {cs : List Value} {y : DataW H × List MemPlace} (h : DataW.trod enc Tryz.prog W base (fun _ => true) held fuel 44 cs = some y) :
    ∃ k : UnV, cs = [.int .i64 k.id, .int .i64 k.player, .int .i64 k.kind, .int .i64 k.at_, .int .i64 k.life, .int .i64 k.load, .int .i64 k.task, .int .i64 k.goal] ∧ ∀ n ∈ Wd.unums k, Wd.In64 n := by
  obtain ⟨f0, f1, f2, f3, f4, f5, f6, f7, he, o0, t0, o1, t1, o2, t2, o3, t3, o4, t4, o5, t5, o6, t6, o7, t7⟩ := un_flds
  obtain ⟨xs, m, -, -, hlen, hxl, hf⟩ := DataW.trod_struct he h
  have csi : Tryz.prog.cellsOf 3 = 1 := by kernel_rfl
  have csk : Tryz.prog.cellsOf 44 = 8 := by kernel_rfl
  rw [csk] at hlen
  match cs, hlen with
  | [v0, v1, v2, v3, v4, v5, v6, v7], _ =>
    have hx : xs.length = 8 := hxl
    match xs, hx with
    | [x0, x1, x2, x3, x4, x5, x6, x7], _ =>
      have g0 := hf 0 f0 rfl
      rw [o0, t0, csi] at g0
      have g1 := hf 1 f1 rfl
      rw [o1, t1, csi] at g1
      have g2 := hf 2 f2 rfl
      rw [o2, t2, csi] at g2
      have g3 := hf 3 f3 rfl
      rw [o3, t3, csi] at g3
      have g4 := hf 4 f4 rfl
      rw [o4, t4, csi] at g4
      have g5 := hf 5 f5 rfl
      rw [o5, t5, csi] at g5
      have g6 := hf 6 f6 rfl
      rw [o6, t6, csi] at g6
      have g7 := hf 7 f7 rfl
      rw [o7, t7, csi] at g7
      obtain ⟨m0, e0, -, w0⟩ := DataW.trod_int Tryz.underlying3 g0
      obtain ⟨m1, e1, -, w1⟩ := DataW.trod_int Tryz.underlying3 g1
      obtain ⟨m2, e2, -, w2⟩ := DataW.trod_int Tryz.underlying3 g2
      obtain ⟨m3, e3, -, w3⟩ := DataW.trod_int Tryz.underlying3 g3
      obtain ⟨m4, e4, -, w4⟩ := DataW.trod_int Tryz.underlying3 g4
      obtain ⟨m5, e5, -, w5⟩ := DataW.trod_int Tryz.underlying3 g5
      obtain ⟨m6, e6, -, w6⟩ := DataW.trod_int Tryz.underlying3 g6
      obtain ⟨m7, e7, -, w7⟩ := DataW.trod_int Tryz.underlying3 g7
      simp at e0 e1 e2 e3 e4 e5 e6 e7
      subst e0 e1 e2 e3 e4 e5 e6 e7
      refine ⟨⟨m0, m1, m2, m3, m4, m5, m6, m7⟩, rfl, ?_⟩
      intro n hn
      simp only [Wd.unums, List.mem_cons, List.not_mem_nil, or_false] at hn
      rcases hn with rfl | rfl | rfl | rfl | rfl | rfl | rfl | rfl
      · exact in64_of_wf w0
      · exact in64_of_wf w1
      · exact in64_of_wf w2
      · exact in64_of_wf w3
      · exact in64_of_wf w4
      · exact in64_of_wf w5
      · exact in64_of_wf w6
      · exact in64_of_wf w7
theorem open_uns64 {H : Type} {enc : TypeId × Value → H} {W : World} {base : Nat} {held : Bool} {fuel : Nat} {v : Value} {y : DataW H × List MemPlace} (h : DataW.trod enc Tryz.prog W base (fun _ => true) held fuel 26 [v] = some y) :
    ∃ ks : List UnV, Unl W v ks ∧ (∀ k ∈ ks, ∀ n ∈ Wd.unums k, Wd.In64 n) ∧ ks.length ≤ Rows.uptoBulk y.1 := by
  have csk : Tryz.prog.cellsOf 44 = 8 := by kernel_rfl
  rcases Go.Deep.open_slice Tryz.underlying26 h with ⟨hcs, -⟩ | ⟨a, len, cap, m, q, D, Pl, hcs, hb, hl, hm, hmm, rfl, hx⟩
  · simp at hcs
    subst hcs
    exact ⟨[], ⟨none, 0, rfl, Nat.le_refl _, by omega, fun h => absurd rfl h⟩, by simp, by simp⟩
  · simp at hcs
    subst hcs
    have hlm : len ≤ m := by rw [hmm]; simp; exact hl
    have each : ∀ i, i < len → ∃ k : UnV, Unc W (a.add (i * 8)) k ∧ (∀ n ∈ Wd.unums k, Wd.In64 n) := by
      intro i hi
      obtain ⟨cs', h1, h2⟩ := hx i (by omega)
      obtain ⟨k, rfl, hk⟩ := open_un64 h2
      rw [csk] at h1
      obtain ⟨-, -, hcell⟩ := World.cells?_some h1
      refine ⟨k, ?_, hk⟩
      generalize a.add (i * 8) = y at *
      exact ⟨hcell 0 (by decide), hcell 1 (by decide), hcell 2 (by decide), hcell 3 (by decide), hcell 4 (by decide), hcell 5 (by decide), hcell 6 (by decide), hcell 7 (by decide)⟩
    have inh : Inhabited UnV := ⟨⟨0, 0, 0, 0, 0, 0, 0, 0⟩⟩
    obtain ⟨q, hq⟩ := Go.Deep.choose_lt each
    refine ⟨(List.range len).map q, ⟨some a, cap, by simp, by simpa using hl, by unfold maxLen at hm; omega, fun hn => ⟨a, rfl, ?_, fun i k hk => ?_⟩⟩, ?_, ?_⟩
    · have h0 : 0 < len := by
        rcases Nat.eq_zero_or_pos len with h | h
        · subst h; simp at hn
        · exact h
      have := (hq 0 h0).1.lt
      rwa [add_block] at this
    · have hi : i < len := by
        have := (List.getElem?_eq_some_iff.1 hk).1
        simpa using this
      rw [List.getElem?_map, List.getElem?_range hi] at hk
      injection hk with hk
      subst hk
      exact (hq i hi).1
    · intro k hk
      obtain ⟨i, hi, rfl⟩ := List.mem_map.1 hk
      exact (hq i (List.mem_range.1 hi)).2
    · have := bulk_slice ((List.range len).map D) ((List.range (m - len)).map fun j => D (len + j))
      simpa using this
theorem jb_flds : ∃ f0 f1 f2 f3 : Field, Tryz.prog.underlying 77 = some (.struct #[f0, f1, f2, f3]) ∧ f0.offset = 0 ∧ f0.type = 3 ∧ f1.offset = 1 ∧ f1.type = 3 ∧ f2.offset = 2 ∧ f2.type = 3 ∧ f3.offset = 3 ∧ f3.type = 3 := ⟨_, _, _, _, Tryz.underlying77, rfl, rfl, rfl, rfl, rfl, rfl, rfl, rfl⟩
set_option maxRecDepth 100000 in
theorem open_jb64 {H : Type} {enc : TypeId × Value → H} {W : World} {base : Nat} {held : Bool} {fuel : Nat} {cs : List Value} {y : DataW H × List MemPlace} (h : DataW.trod enc Tryz.prog W base (fun _ => true) held fuel 77 cs = some y) :
    ∃ k : JbV, cs = [.int .i64 k.player, .int .i64 k.unit, .int .i64 k.kind, .int .i64 k.left] ∧ ∀ n ∈ Wd.jnums k, Wd.In64 n := by
  obtain ⟨f0, f1, f2, f3, he, o0, t0, o1, t1, o2, t2, o3, t3⟩ := jb_flds
  obtain ⟨xs, m, -, -, hlen, hxl, hf⟩ := DataW.trod_struct he h
  have csi : Tryz.prog.cellsOf 3 = 1 := by kernel_rfl
  have csk : Tryz.prog.cellsOf 77 = 4 := by kernel_rfl
  rw [csk] at hlen
  match cs, hlen with
  | [v0, v1, v2, v3], _ =>
    have hx : xs.length = 4 := hxl
    match xs, hx with
    | [x0, x1, x2, x3], _ =>
      have g0 := hf 0 f0 rfl
      rw [o0, t0, csi] at g0
      have g1 := hf 1 f1 rfl
      rw [o1, t1, csi] at g1
      have g2 := hf 2 f2 rfl
      rw [o2, t2, csi] at g2
      have g3 := hf 3 f3 rfl
      rw [o3, t3, csi] at g3
      obtain ⟨m0, e0, -, w0⟩ := DataW.trod_int Tryz.underlying3 g0
      obtain ⟨m1, e1, -, w1⟩ := DataW.trod_int Tryz.underlying3 g1
      obtain ⟨m2, e2, -, w2⟩ := DataW.trod_int Tryz.underlying3 g2
      obtain ⟨m3, e3, -, w3⟩ := DataW.trod_int Tryz.underlying3 g3
      simp at e0 e1 e2 e3
      subst e0 e1 e2 e3
      refine ⟨⟨m0, m1, m2, m3⟩, rfl, ?_⟩
      intro n hn
      simp only [Wd.jnums, List.mem_cons, List.not_mem_nil, or_false] at hn
      rcases hn with rfl | rfl | rfl | rfl
      · exact in64_of_wf w0
      · exact in64_of_wf w1
      · exact in64_of_wf w2
      · exact in64_of_wf w3
theorem open_jbs64 {H : Type} {enc : TypeId × Value → H} {W : World} {base : Nat} {held : Bool} {fuel : Nat} {v : Value} {y : DataW H × List MemPlace} (h : DataW.trod enc Tryz.prog W base (fun _ => true) held fuel 27 [v] = some y) :
    ∃ ks : List JbV, Jbl W v ks ∧ (∀ k ∈ ks, ∀ n ∈ Wd.jnums k, Wd.In64 n) ∧ ks.length ≤ Rows.uptoBulk y.1 := by
  have csk : Tryz.prog.cellsOf 77 = 4 := by kernel_rfl
  rcases Go.Deep.open_slice Tryz.underlying27 h with ⟨hcs, -⟩ | ⟨a, len, cap, m, q, D, Pl, hcs, hb, hl, hm, hmm, rfl, hx⟩
  · simp at hcs
    subst hcs
    exact ⟨[], ⟨none, 0, rfl, Nat.le_refl _, by omega, fun h => absurd rfl h⟩, by simp, by simp⟩
  · simp at hcs
    subst hcs
    have hlm : len ≤ m := by rw [hmm]; simp; exact hl
    have each : ∀ i, i < len → ∃ k : JbV, Jbc W (a.add (i * 4)) k ∧ (∀ n ∈ Wd.jnums k, Wd.In64 n) := by
      intro i hi
      obtain ⟨cs', h1, h2⟩ := hx i (by omega)
      obtain ⟨k, rfl, hk⟩ := open_jb64 h2
      rw [csk] at h1
      obtain ⟨-, -, hcell⟩ := World.cells?_some h1
      refine ⟨k, ?_, hk⟩
      generalize a.add (i * 4) = y at *
      exact ⟨hcell 0 (by decide), hcell 1 (by decide), hcell 2 (by decide), hcell 3 (by decide)⟩
    have inh : Inhabited JbV := ⟨⟨0, 0, 0, 0⟩⟩
    obtain ⟨q, hq⟩ := Go.Deep.choose_lt each
    refine ⟨(List.range len).map q, ⟨some a, cap, by simp, by simpa using hl, by unfold maxLen at hm; omega, fun hn => ⟨a, rfl, ?_, fun i k hk => ?_⟩⟩, ?_, ?_⟩
    · have h0 : 0 < len := by
        rcases Nat.eq_zero_or_pos len with h | h
        · subst h; simp at hn
        · exact h
      have := (hq 0 h0).1.lt
      rwa [add_block] at this
    · have hi : i < len := by
        have := (List.getElem?_eq_some_iff.1 hk).1
        simpa using this
      rw [List.getElem?_map, List.getElem?_range hi] at hk
      injection hk with hk
      subst hk
      exact (hq i hi).1
    · intro k hk
      obtain ⟨i, hi, rfl⟩ := List.mem_map.1 hk
      exact (hq i (List.mem_range.1 hi)).2
    · have := bulk_slice ((List.range len).map D) ((List.range (m - len)).map fun j => D (len + j))
      simpa using this
theorem world_flds : ∃ f0 f1 f2 f3 f4 f5 : Field, Tryz.prog.underlying 29 = some (.struct #[f0, f1, f2, f3, f4, f5]) ∧ f0.offset = 0 ∧ f0.type = 3 ∧ f1.offset = 1 ∧ f1.type = 3 ∧ f2.offset = 2 ∧ f2.type = 25 ∧ f3.offset = 6 ∧ f3.type = 23 ∧ f4.offset = 7 ∧ f4.type = 26 ∧ f5.offset = 8 ∧ f5.type = 27 := ⟨_, _, _, _, _, _, Tryz.underlying29, rfl, rfl, rfl, rfl, rfl, rfl, rfl, rfl, rfl, rfl, rfl, rfl⟩
theorem field_flds : ∃ f0 f1 f2 f3 : Field, Tryz.prog.underlying 25 = some (.struct #[f0, f1, f2, f3]) ∧ f0.offset = 0 ∧ f0.type = 3 ∧ f1.offset = 1 ∧ f1.type = 3 ∧ f2.offset = 2 ∧ f2.type = 23 ∧ f3.offset = 3 ∧ f3.type = 23 := ⟨_, _, _, _, Tryz.underlying25, rfl, rfl, rfl, rfl, rfl, rfl, rfl, rfl⟩
theorem ro_len {w : World} {v : Value} {xs : List Int} (h : Ro w v xs) : Wd.In64 (xs.length : Int) := by
  obtain ⟨a, c, -, h1, h2, -⟩ := h
  unfold Wd.In64; omega
set_option maxRecDepth 100000 in
theorem open_world64 {H : Type} {enc : TypeId × Value → H} {W : World} {base : Nat} {held : Bool} {fuel : Nat} {cs : List Value} {y : DataW H × List MemPlace} (h : DataW.trod enc Tryz.prog W base (fun _ => true) held fuel 29 cs = some y) :
    ∃ X : WV, Wl W (.agg cs.toArray) X ∧ (∀ n ∈ Wd.nums X, Wd.In64 n) ∧ (Rows.uptoBulk y.1 ≤ 1048576 → WSmall X) := by
  obtain ⟨f0, f1, f2, f3, f4, f5, he, o0, t0, o1, t1, o2, t2, o3, t3, o4, t4, o5, t5⟩ := world_flds
  obtain ⟨xs, m, -, rfl, hlen, hxl, hf⟩ := DataW.trod_struct he h
  have csi : Tryz.prog.cellsOf 3 = 1 := by kernel_rfl
  have csf : Tryz.prog.cellsOf 25 = 4 := by kernel_rfl
  have csl : Tryz.prog.cellsOf 23 = 1 := by kernel_rfl
  have csu : Tryz.prog.cellsOf 26 = 1 := by kernel_rfl
  have csj : Tryz.prog.cellsOf 27 = 1 := by kernel_rfl
  have csk : Tryz.prog.cellsOf 29 = 9 := by kernel_rfl
  rw [csk] at hlen
  match cs, hlen with
  | [v0, v1, v2, v3, v4, v5, v6, v7, v8], _ =>
    have hx : xs.length = 6 := hxl
    match xs, hx with
    | [x0, x1, x2, x3, x4, x5], _ =>
      have g0 := hf 0 f0 rfl
      rw [o0, t0, csi] at g0
      have g1 := hf 1 f1 rfl
      rw [o1, t1, csi] at g1
      have g2 := hf 2 f2 rfl
      rw [o2, t2, csf] at g2
      have g3 := hf 3 f3 rfl
      rw [o3, t3, csl] at g3
      have g4 := hf 4 f4 rfl
      rw [o4, t4, csu] at g4
      have g5 := hf 5 f5 rfl
      rw [o5, t5, csj] at g5
      obtain ⟨m0, e0, -, w0⟩ := DataW.trod_int Tryz.underlying3 g0
      obtain ⟨m1, e1, -, w1⟩ := DataW.trod_int Tryz.underlying3 g1
      obtain ⟨r0, r1, r2, r3, he', p0, s0, p1, s1, p2, s2, p3, s3⟩ := field_flds
      obtain ⟨ys, m', -, rfl, hlen', hyl, hg⟩ := DataW.trod_struct he' g2
      have hy : ys.length = 4 := hyl
      match ys, hy with
      | [y0, y1, y2, y3], _ =>
        have k0 := hg 0 r0 rfl
        rw [p0, s0, csi] at k0
        have k1 := hg 1 r1 rfl
        rw [p1, s1, csi] at k1
        have k2 := hg 2 r2 rfl
        rw [p2, s2, csl] at k2
        have k3 := hg 3 r3 rfl
        rw [p3, s3, csl] at k3
        obtain ⟨m2, e2, -, w2⟩ := DataW.trod_int Tryz.underlying3 k0
        obtain ⟨m3, e3, -, w3⟩ := DataW.trod_int Tryz.underlying3 k1
        simp at e0 e1 e2 e3
        subst e0 e1 e2 e3
        obtain ⟨gs, hgs, igs, bgs⟩ := open_row64 k2
        obtain ⟨os, hos, ios, bos⟩ := open_row64 k3
        obtain ⟨gold, hgold, igold, bgold⟩ := open_row64 g3
        obtain ⟨us, hus, ius, bus⟩ := open_uns64 g4
        obtain ⟨qs, hqs, iqs, bqs⟩ := open_jbs64 g5
        have lu : Wd.In64 (us.length : Int) := by
          obtain ⟨a, c, -, h1, h2, -⟩ := hus
          unfold Wd.In64; omega
        have lq : Wd.In64 (qs.length : Int) := by
          obtain ⟨a, c, -, h1, h2, -⟩ := hqs
          unfold Wd.In64; omega
        refine ⟨⟨m0, m1, m2, m3, gs, os, gold, us, qs⟩, ⟨_, _, _, _, _, rfl, hgs, hos, hgold, hus, hqs⟩, ?_, ?_⟩
        · intro n hn
          simp only [Wd.nums, List.mem_append, List.mem_cons, List.not_mem_nil, or_false, List.mem_flatMap] at hn
          rcases hn with (((((rfl | rfl | rfl | rfl) | (rfl | hn)) | (rfl | hn)) | (rfl | hn)) | (rfl | ⟨u, hu, hn⟩)) | (rfl | ⟨u, hu, hn⟩)
          · exact in64_of_wf w0
          · exact in64_of_wf w1
          · exact in64_of_wf w2
          · exact in64_of_wf w3
          · exact ro_len hgs
          · exact igs _ hn
          · exact ro_len hos
          · exact ios _ hn
          · exact ro_len hgold
          · exact igold _ hn
          · exact lu
          · exact ius u hu n hn
          · exact lq
          · exact iqs u hu n hn
        · intro hb
          simp only [Rows.uptoBulk, Rows.uptoBulkAll, List.map_cons, List.map_nil] at hb
          exact ⟨by simp only; omega, by simp only; omega, by simp only; omega, by simp only; omega, by simp only; omega⟩
set_option maxRecDepth 100000 in
theorem world_in {H : Type} {enc : TypeId × Value → H} {W : World} {base b0 : Nat} {held : Bool} {v : Value} {d : DataW H} {p : List MemPlace} (hv : Value.okWide Tryz.prog W .any b0 29 v) (h : DataW.Trod enc Tryz.prog W base (fun _ => true) held 29 v d p) :
    ∃ X : WV, Wl W v X ∧ (∀ n ∈ Wd.nums X, Wd.In64 n) ∧ (Rows.uptoBulk d ≤ 1048576 → WSmall X) := by
  obtain ⟨cs, rfl, hsz⟩ := okWide_struct Tryz.underlying29 hv
  obtain ⟨fuel, hf⟩ := h
  have := open_world64 hf
  simpa [Value.cells] using this
end Go.Proofs.YthcndngdngjalaaGreatDoor

namespace Go.Proofs.YthcndngdngjalaaGreatDoor
open Go.ChangeShapes Go.WideShapes Go.ChangeAt Go.RowKit
set_option linter.unusedVariables false

theorem kind_fields : ∃ f0 f1 f2 f3 f4 f5 f6 f7 f8 f9 f10 : Field, Tryz.prog.underlying 65 = some (.struct #[f0, f1, f2, f3, f4, f5, f6, f7, f8, f9, f10]) ∧
    f0.offset = 0 ∧ f0.type = 9 ∧ f1.offset = 1 ∧ f1.type = 3 ∧ f2.offset = 2 ∧ f2.type = 3 ∧ f3.offset = 3 ∧ f3.type = 3 ∧ f4.offset = 4 ∧ f4.type = 3 ∧ f5.offset = 5 ∧ f5.type = 3 ∧ f6.offset = 6 ∧ f6.type = 3 ∧ f7.offset = 7 ∧ f7.type = 3 ∧ f8.offset = 8 ∧ f8.type = 3 ∧ f9.offset = 9 ∧ f9.type = 4 ∧ f10.offset = 10 ∧ f10.type = 4 := ⟨_, _, _, _, _, _, _, _, _, _, _, Tryz.underlying65, rfl, rfl, rfl, rfl, rfl, rfl, rfl, rfl, rfl, rfl, rfl, rfl, rfl, rfl, rfl, rfl, rfl, rfl, rfl, rfl, rfl, rfl⟩


set_option maxRecDepth 100000 in
theorem open_kind {H : Type} {enc : TypeId × Value → H} {W : World} {base : Nat} {held : Bool} {fuel : Nat} {cs : List Value} {y : DataW H × List MemPlace} (h : DataW.trod enc Tryz.prog W base (fun _ => true) held fuel 65 cs = some y) :
    ∃ k : KV, cs = [.string k.b, .int .i64 k.n0, .int .i64 k.n1, .int .i64 k.n2, .int .i64 k.n3, .int .i64 k.n4, .int .i64 k.n5, .int .i64 k.n6, .int .i64 k.n7, .bool k.f, .bool k.t] ∧ k.b.size ≤ maxLen := by
  obtain ⟨f0, f1, f2, f3, f4, f5, f6, f7, f8, f9, f10, he, o0, t0, o1, t1, o2, t2, o3, t3, o4, t4, o5, t5, o6, t6, o7, t7, o8, t8, o9, t9, o10, t10⟩ := kind_fields
  obtain ⟨xs, n, -, -, hlen, hxl, hf⟩ := DataW.trod_struct he h
  have cs9 : Tryz.prog.cellsOf 9 = 1 := by kernel_rfl
  have cs3 : Tryz.prog.cellsOf 3 = 1 := by kernel_rfl
  have cs4 : Tryz.prog.cellsOf 4 = 1 := by kernel_rfl
  have csk : Tryz.prog.cellsOf 65 = 11 := by kernel_rfl
  rw [csk] at hlen
  match cs, hlen with
  | [v0, v1, v2, v3, v4, v5, v6, v7, v8, v9, v10], _ =>
    have hx11 : xs.length = 11 := hxl
    match xs, hx11 with
    | [x0, x1, x2, x3, x4, x5, x6, x7, x8, x9, x10], _ =>
      have g0 := hf 0 f0 rfl
      rw [o0, t0, cs9] at g0
      have g1 := hf 1 f1 rfl
      rw [o1, t1, cs3] at g1
      have g2 := hf 2 f2 rfl
      rw [o2, t2, cs3] at g2
      have g3 := hf 3 f3 rfl
      rw [o3, t3, cs3] at g3
      have g4 := hf 4 f4 rfl
      rw [o4, t4, cs3] at g4
      have g5 := hf 5 f5 rfl
      rw [o5, t5, cs3] at g5
      have g6 := hf 6 f6 rfl
      rw [o6, t6, cs3] at g6
      have g7 := hf 7 f7 rfl
      rw [o7, t7, cs3] at g7
      have g8 := hf 8 f8 rfl
      rw [o8, t8, cs3] at g8
      have g9 := hf 9 f9 rfl
      rw [o9, t9, cs4] at g9
      have g10 := hf 10 f10 rfl
      rw [o10, t10, cs4] at g10
      obtain ⟨b, e0, -, hb⟩ := DataW.trod_string Tryz.underlying9 g0
      obtain ⟨m1, e1, -, -⟩ := DataW.trod_int Tryz.underlying3 g1
      obtain ⟨m2, e2, -, -⟩ := DataW.trod_int Tryz.underlying3 g2
      obtain ⟨m3, e3, -, -⟩ := DataW.trod_int Tryz.underlying3 g3
      obtain ⟨m4, e4, -, -⟩ := DataW.trod_int Tryz.underlying3 g4
      obtain ⟨m5, e5, -, -⟩ := DataW.trod_int Tryz.underlying3 g5
      obtain ⟨m6, e6, -, -⟩ := DataW.trod_int Tryz.underlying3 g6
      obtain ⟨m7, e7, -, -⟩ := DataW.trod_int Tryz.underlying3 g7
      obtain ⟨m8, e8, -, -⟩ := DataW.trod_int Tryz.underlying3 g8
      obtain ⟨bf, e9, -⟩ := DataW.trod_bool Tryz.underlying4 g9
      obtain ⟨bt, e10, -⟩ := DataW.trod_bool Tryz.underlying4 g10
      simp at e0 e1 e2 e3 e4 e5 e6 e7 e8 e9 e10
      subst e0 e1 e2 e3 e4 e5 e6 e7 e8 e9 e10
      exact ⟨⟨b, m1, m2, m3, m4, m5, m6, m7, m8, bf, bt⟩, rfl, hb⟩

/-- kinds that came in. -/
theorem open_kinds {H : Type} {enc : TypeId × Value → H} {W : World} {base : Nat} {held : Bool} {fuel : Nat} {v : Value} {y : DataW H × List MemPlace} (h : DataW.trod enc Tryz.prog W base (fun _ => true) held fuel 22 [v] = some y) :
    ∃ ks : List KV, Kl W v ks ∧ ∀ k ∈ ks, k.b.size ≤ maxLen := by
  have csk : Tryz.prog.cellsOf 65 = 11 := by kernel_rfl
  rcases Go.Deep.open_slice Tryz.underlying22 h with ⟨hcs, -⟩ | ⟨a, len, cap, m, n, D, Pl, hcs, hb, hl, hm, hmm, -, hx⟩
  · simp at hcs
    subst hcs
    exact ⟨[], ⟨none, 0, rfl, Nat.le_refl _, by omega, fun h => absurd rfl h⟩, by simp⟩
  · simp at hcs
    subst hcs
    have hlm : len ≤ m := by rw [hmm]; simp; exact hl
    have each : ∀ i, i < len → ∃ k : KV, Kc W (a.add (i * 11)) k ∧ k.b.size ≤ maxLen := by
      intro i hi
      obtain ⟨cs', h1, h2⟩ := hx i (by omega)
      obtain ⟨k, rfl, hk⟩ := open_kind h2
      rw [csk] at h1
      obtain ⟨-, -, hcell⟩ := World.cells?_some h1
      refine ⟨k, ?_, hk⟩
      generalize a.add (i * 11) = y at *
      exact ⟨hcell 0 (by decide), hcell 1 (by decide), hcell 2 (by decide), hcell 3 (by decide), hcell 4 (by decide), hcell 5 (by decide), hcell 6 (by decide), hcell 7 (by decide), hcell 8 (by decide), hcell 9 (by decide), hcell 10 (by decide)⟩
    have inh : Inhabited KV := ⟨⟨ByteArray.empty, 0, 0, 0, 0, 0, 0, 0, 0, false, false⟩⟩
    obtain ⟨q, hq⟩ := Go.Deep.choose_lt each
    refine ⟨(List.range len).map q, ⟨some a, cap, by simp, by simpa using hl, by unfold maxLen at hm; omega, fun hn => ⟨a, rfl, ?_, fun i k hk => ?_⟩⟩, ?_⟩
    · have h0 : 0 < len := by
        rcases Nat.eq_zero_or_pos len with h | h
        · subst h; simp at hn
        · exact h
      have := (hq 0 h0).1.lt
      rwa [add_block] at this
    · have hi : i < len := by
        have := (List.getElem?_eq_some_iff.1 hk).1
        simpa using this
      rw [List.getElem?_map, List.getElem?_range hi] at hk
      injection hk with hk
      subst hk
      exact (hq i hi).1
    · intro k hk
      obtain ⟨i, hi, rfl⟩ := List.mem_map.1 hk
      exact (hq i (List.mem_range.1 hi)).2
set_option maxRecDepth 100000 in
theorem kinds_in {H : Type} {enc : TypeId × Value → H} {W : World} {base b0 : Nat} {held : Bool} {v : Value} {d : DataW H} {p : List MemPlace} (hv : Value.okWide Tryz.prog W .any b0 22 v) (h : DataW.Trod enc Tryz.prog W base (fun _ => true) held 22 v d p) :
    ∃ ks : List KV, Kl W v ks ∧ ∀ k ∈ ks, k.b.size ≤ maxLen := by
  obtain ⟨a, len, cap, rfl⟩ := okWide_slice Tryz.underlying22 hv
  obtain ⟨fuel, hf⟩ := h
  exact open_kinds hf
end Go.Proofs.YthcndngdngjalaaGreatDoor

