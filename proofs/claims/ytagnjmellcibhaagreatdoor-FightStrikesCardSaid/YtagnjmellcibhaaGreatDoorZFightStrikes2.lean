/- slices.Clone, slices.DeleteFunc and slices.MinFunc of units. · slices.MinFunc of units. · Plain mathematics on integers: roots, floors, signs. No program stands in it. · A list of integers that is written out, of any length. · Worlds: the numbers that are written, as mathematics; a world's slices. · world.within. · slices.IndexFunc and ContainsFunc, of any function that tells yes or no and turns nothing. · Worlds: a unit by its id; whether a list has one of that number. · Texts: cut at a byte and joined again; whole numbers as digits. Plain mathematics. · Kinds: what is wrong with them, their text, and back. Plain mathematics. · Kinds in memory. · Fight: how far two cells are, who is safe of whom, who is struck: plain mathematics. · Fields: plain mathematics. · Worlds: what is wrong with one. Plain mathematics. · An error that is told. -/
import Derived.Test.YtagnjmellcibhaaGreatDoorZFightStrikes1
import Derived.Laws.CopyRow
import Derived.Lib.SliceRun
import Derived.Deep.DeepCutAuto
import Derived.Test.YtagnjmellcibhaaGreatDoorRows
import Derived.WalkKit
import Derived.WalkSpells
import Derived.WalkLawsBesides
import Derived.KernelRfl
import Derived.WideShapes
namespace Go.Proofs.YtagnjmellcibhaaGreatDoor
open Go.RowKit
set_option linter.unusedVariables false

theorem blk0 (w : World) : (w.alloc (Obj.cells #[] 59)).heap[w.heap.size]? = some (.cells #[] 59 (0, 0)) := by
  exact heap_alloc_new _ _
set_option maxRecDepth 100000 in
set_option maxHeartbeats 4000000 in
theorem clone_any (u : Value) (ks : List UnV) (w : World) (hu : Unl w u ks) (hl : ks.length ≤ 1000000) :
    Calls Tryz.prog 69 #[u] w fun e w' => ∃ v, e = .returned v ∧ Uno w' w.heap.size v ks ∧ Below w.heap.size w w' := by
  have U : Hid (Unl w u ks) := hu
  obtain ⟨a, c, rfl, h1, h2, h3⟩ := hu
  cases a with
  | none =>
    have hk : ks = [] := by
      by_cases h : ks = []
      · exact h
      · obtain ⟨x, hx, -⟩ := h3 h; cases hx
    subst hk
    clear h3
    have hq : ∀ W : World, (binOp .eql 26 (.slice none ([] : List UnV).length c) (.slice none 0 0)).run Tryz.prog W = .ok (.bool true) W := fun W => Lib.run_eql_slice_nil W _ _ none _ _ _ _ Tryz.underlying26
    simp only [List.length_nil] at hq ⊢
    go_enter Tryz.func69, Tryz.ntmps69
    go_wp2
    go_ret
    exact ⟨_, rfl, Uno.nil _ _, Below.refl _ _⟩
  | some x =>
    clear h3
    have hq : ∀ W : World, (binOp .eql 26 (.slice (some x) ks.length c) (.slice none 0 0)).run Tryz.prog W = .ok (.bool false) W := fun W => Lib.run_eql_slice_nil W _ _ (some x) _ _ _ _ Tryz.underlying26
    go_enter Tryz.func69, Tryz.ntmps69
    go_upto_region 3 with fail
    have B0 : Hid (Below w.heap.size w (w.alloc (Obj.cells #[] 59))) := (Below.refl _ _).alloc (Nat.le_refl _) _
    have O0 : Hid (Uno (w.alloc (Obj.cells #[] 59)) w.heap.size (.slice (some ⟨w.heap.size, 0, none⟩) 0 0) []) := ⟨rfl, .inr ⟨w.heap.size, 0, #[], rfl, Nat.le_refl _, blk0 w, Nat.le_refl _, by unfold maxLen; omega, rfl, rfl⟩⟩
    go_wp2_with (at_builtin; refine app_uns _ rfl _ _ rfl w.heap.size _ [] rfl O0.out _ ks rfl (U.out.below B0.out) (by simp; omega) B0.out.size ?_)
    intro v w1 o1 g1 _
    have F : Hid (Uno w1 w.heap.size v ks ∧ Below w.heap.size w w1) := ⟨o1, B0.out.grown g1 B0.out.size (fun k hk => by cases hk; exact Nat.le_refl _)⟩
    clear o1 g1 B0 O0
    go_wp2
    go_ret
    exact ⟨_, rfl, F.out.1, F.out.2⟩

/-- clear of a slice of units. -/
theorem run_clear_uns (w : World) (g m n c : Nat) (ks : List UnV) (rest : List Value) (hg : Ub w g ks rest) (hn : 0 < n) (hm : m + n = ks.length) :
    ∃ w', (∀ ty, (Builtin.clear_ #[26] ty #[.slice (some ⟨g, m * 8, none⟩) n c]).run Tryz.prog w = .ok (.tuple #[]) w') ∧ Ub w' g (ks.take m ++ List.replicate n (⟨0, 0, 0, 0, 0, 0, 0, 0⟩ : UnV)) rest ∧ Below g w w' ∧ w'.heap.size = w.heap.size ∧ Kp g w w' := by
  have hzv : ∀ w, (zeroValue 59).run Tryz.prog w = .ok (.agg #[.int .i64 0, .int .i64 0, .int .i64 0, .int .i64 0, .int .i64 0, .int .i64 0, .int .i64 0, .int .i64 0]) w := fun w => by kernel_rfl
  have hzc : (Builtin.zeroCells (Value.agg #[.int .i64 0, .int .i64 0, .int .i64 0, .int .i64 0, .int .i64 0, .int .i64 0, .int .i64 0, .int .i64 0]).cells n).toList = (List.replicate n (⟨0, 0, 0, 0, 0, 0, 0, 0⟩ : UnV)).flatMap UnV.cs := by
    have hz8 : (Value.agg #[.int .i64 0, .int .i64 0, .int .i64 0, .int .i64 0, .int .i64 0, .int .i64 0, .int .i64 0, .int .i64 0]).cells = #[.int .i64 0, .int .i64 0, .int .i64 0, .int .i64 0, .int .i64 0, .int .i64 0, .int .i64 0, .int .i64 0] := by rfl
    rw [hz8]
    unfold Builtin.zeroCells
    apply List.ext_getElem?
    intro i
    by_cases hi : i < n * 8
    · have e1 : (List.replicate n (⟨0, 0, 0, 0, 0, 0, 0, 0⟩ : UnV))[i / 8]? = some ⟨0, 0, 0, 0, 0, 0, 0, 0⟩ := by
        rw [List.getElem?_replicate, if_pos (by omega)]
      have e2 := flat_un _ (i / 8) (i % 8) _ e1 (Nat.mod_lt _ (by decide))
      rw [show i / 8 * 8 + i % 8 = i by omega] at e2
      rw [e2]
      have h8 : i % 8 < 8 := Nat.mod_lt _ (by decide)
      simp [UnV.cs, hi]
      generalize i % 8 = r at *
      match r, h8 with
      | 0, _ => rfl
      | 1, _ => rfl
      | 2, _ => rfl
      | 3, _ => rfl
      | 4, _ => rfl
      | 5, _ => rfl
      | 6, _ => rfl
      | 7, _ => rfl
    · rw [List.getElem?_eq_none (by simp; omega), List.getElem?_eq_none (by rw [len_un, List.length_replicate]; omega)]
  obtain ⟨vs, hvs⟩ : ∃ vs, (List.replicate n (⟨0, 0, 0, 0, 0, 0, 0, 0⟩ : UnV)).flatMap UnV.cs = vs := ⟨_, rfl⟩
  have hvl : vs.length = n * 8 := by rw [← hvs, len_un, List.length_replicate]
  have h1c : ∀ v ∈ vs, v.oneCell' = true := by
    intro v hv
    rw [← hvs] at hv
    obtain ⟨k, -, hk⟩ := List.mem_flatMap.1 hv
    simp [UnV.cs] at hk
    rcases hk with rfl | rfl | rfl | rfl | rfl | rfl | rfl | rfl <;> rfl
  have hst := run_storeCells_at (P := Tryz.prog) g (m * 8) 59 vs 0 _ w hg (by simp only [List.size_toArray, List.length_append, len_un, hvl]; omega) h1c
  have hml : (ks.take m).length = m := by rw [List.length_take]; omega
  have hL : (ks.flatMap UnV.cs ++ rest).toArray.toList.take (m * 8 + 0) ++ vs ++ (ks.flatMap UnV.cs ++ rest).toArray.toList.drop (m * 8 + 0 + vs.length) = (ks.take m ++ List.replicate n (⟨0, 0, 0, 0, 0, 0, 0, 0⟩ : UnV)).flatMap UnV.cs ++ rest := by
    have e1 : (ks.flatMap UnV.cs ++ rest).take (m * 8) = (ks.take m).flatMap UnV.cs := by
      conv => lhs; rw [← List.take_append_drop m ks, List.flatMap_append, List.append_assoc]
      rw [List.take_left' (by rw [len_un, hml])]
    have e2 : (ks.flatMap UnV.cs ++ rest).drop (m * 8 + vs.length) = rest := by
      rw [List.drop_left' (by rw [len_un, hvl]; omega)]
    show (ks.flatMap UnV.cs ++ rest).take (m * 8) ++ vs ++ (ks.flatMap UnV.cs ++ rest).drop (m * 8 + vs.length) = _
    rw [e1, e2, List.flatMap_append, hvs]
  rw [hL] at hst
  refine ⟨w.setRow g ((ks.take m ++ List.replicate n (⟨0, 0, 0, 0, 0, 0, 0, 0⟩ : UnV)).flatMap UnV.cs ++ rest).toArray, fun ty => ?_, ?_, ?_, ?_, ?_⟩
  · obtain ⟨n', rfl⟩ : ∃ n', n = n' + 1 := ⟨n - 1, by omega⟩
    simp only [hvs] at hzc
    simp [Builtin.clear_, run_underlying Tryz.underlying26, hzv, hzc, hst]
  · exact setRow_heap w g _ _ _ _ hg
  · exact ⟨rfl, rfl, rfl, by simp, fun k hk => setRow_other _ _ _ _ (by omega)⟩
  · simp
  · exact ⟨rfl, rfl, rfl, by simp, fun k hk hn => setRow_other _ _ _ _ (by omega)⟩
set_option maxHeartbeats 2000000 in
theorem idxm_any (K : Nat) (eK : ∀ args w, (callFunc K args).run Tryz.prog w = .ok (.enter K args) w) (u : Value) (cs : Array Value) (ks : List UnV) (p : UnV → Bool) (w : World) (hu : Unl w u ks)
    (hp : ∀ W, Below w.heap.size w W → ∀ k ∈ ks, Calls Tryz.prog K (#[k.val] ++ cs) W fun e w' => e = .returned (.bool (p k)) ∧ Below W.heap.size W w') :
    Calls Tryz.prog 61 #[u, .func (Fn.func K) #[] cs] w fun e w' => ∃ r : Int, e = .returned (.int .i64 r) ∧ FstU p ks r ∧ Below w.heap.size w w' := by
  obtain ⟨a, c, rfl, c1, c2, ca⟩ := hu
  have Ca : Hid (ks ≠ [] → ∃ x, a = some x ∧ x.block < w.heap.size ∧ ∀ (i : Nat) k, ks[i]? = some k → Unc w (x.add (i * 8)) k) := ca
  have Hp : Hid (∀ W, Below w.heap.size w W → ∀ k ∈ ks, Calls Tryz.prog K (#[k.val] ++ cs) W fun e w' => e = .returned (.bool (p k)) ∧ Below W.heap.size W w') := hp
  clear ca hp
  go_enter Tryz.func61, Tryz.ntmps61
  go_wp2
  go_loopw [8] (fun i W' => ∃ k : Nat, k ≤ ks.length ∧ i = .int .i64 (k : Nat) ∧ (ks.take k).any p = false ∧ Below w.heap.size w W') (fun i _ => ks.length - (intOf i).toNat)
  case atStart => exact ⟨0, Nat.zero_le _, rfl, by simp, Below.refl _ _⟩
  case round =>
    obtain ⟨k, hk, rfl, ht, hb⟩ := hrel
    have Ht : Hid ((ks.take k).any p = false) := ht
    have B : Hid (Below w.heap.size w wr) := hb
    clear ht hb
    by_cases h0 : k = ks.length
    · subst h0
      go_wp2
      go_ret
      refine ⟨_, rfl, .inl ⟨rfl, ?_⟩, B⟩
      have := Ht.out
      rw [List.take_of_length_le (Nat.le_refl _)] at this
      exact this
    · have hkx : k < ks.length := by omega
      obtain ⟨x, rfl, hx1, hx⟩ := Ca.out (by intro h; rw [h] at hkx; simp at hkx)
      obtain ⟨y, hy⟩ : ∃ y, ks[k]? = some y := ⟨_, List.getElem?_eq_getElem hkx⟩
      have Yc := (hx k y hy).below B.out (by rw [add_block]; exact hx1)
      obtain ⟨q0, q1, q2, q3, q4, q5, q6, q7⟩ := Yc
      have hc := Hp.out wr B.out y (List.mem_of_getElem? hy)
      have Hs : Hid _ := anyu_next (p := p) hy
      have Hm : Hid (ks[k]? = some y) := hy
      clear hx hx1 hy
      cases hy : p y with
      | true =>
        rw [hy] at hc
        have Hc : Hid (Calls Tryz.prog K (#[y.val] ++ cs) wr fun e w' => e = .returned (.bool true) ∧ Below wr.heap.size wr w') := hc
        have Hy : Hid (p y = true) := hy
        clear hc hy
        go_wp2_with fail
        refine Calls.mono Hc.out ?_
        rintro e w1 ⟨rfl, b1⟩
        have B1 : Hid (Below w.heap.size w w1) := B.out.trans (b1.mono B.out.size)
        clear b1
        go_wp2
        go_ret
        exact ⟨_, rfl, .inr ⟨k, y, rfl, Hm, Hy, Ht⟩, B1⟩
      | false =>
        rw [hy] at hc
        have Hc : Hid (Calls Tryz.prog K (#[y.val] ++ cs) wr fun e w' => e = .returned (.bool false) ∧ Below wr.heap.size wr w') := hc
        have Hy : Hid (p y = false) := hy
        clear hc hy
        go_wp2_with fail
        refine Calls.mono Hc.out ?_
        rintro e w1 ⟨rfl, b1⟩
        have B1 : Hid (Below w.heap.size w w1) := B.out.trans (b1.mono B.out.size)
        clear b1
        go_wp2
        go_round
        case rel => exact ⟨k + 1, by omega, by go_num, by have := Hs.out; rw [Ht.out, Hy.out] at this; exact this, B1⟩
        case measure => simp [intOf]; omega


theorem del_keep {ks L : List UnV} {p : UnV → Bool} {i j : Nat} {y : UnV} (h : L.take i = (ks.take j).filter (fun k => !p k)) (hd : L.drop j = ks.drop j) (hij : i < j) (hl : L.length = ks.length) (hy : ks[j]? = some y) (hp : p y = false) :
    (L.set i y).take (i + 1) = (ks.take (j + 1)).filter (fun k => !p k) ∧ (L.set i y).drop (j + 1) = ks.drop (j + 1) := by
  have hj : j < ks.length := (List.getElem?_eq_some_iff.1 hy).1
  have hi : i < L.length := by omega
  constructor
  · rw [List.take_succ_eq_append_getElem (by simpa using hi), List.take_set_of_le (Nat.le_refl _), List.getElem_set_self, h]
    have : (ks.take (j + 1)) = ks.take j ++ [y] := by
      rw [List.take_succ_eq_append_getElem hj]
      rw [(List.getElem?_eq_some_iff.1 hy).2]
    rw [this, List.filter_append]
    simp [hp]
  · rw [List.drop_set_of_lt (by omega)]
    have h1 : L.drop (j + 1) = (L.drop j).drop 1 := by rw [List.drop_drop]
    rw [h1, hd, List.drop_drop]
theorem del_skip {ks L : List UnV} {p : UnV → Bool} {i j : Nat} {y : UnV} (h : L.take i = (ks.take j).filter (fun k => !p k)) (hd : L.drop j = ks.drop j) (hy : ks[j]? = some y) (hp : p y = true) :
    L.take i = (ks.take (j + 1)).filter (fun k => !p k) ∧ L.drop (j + 1) = ks.drop (j + 1) := by
  have hj : j < ks.length := (List.getElem?_eq_some_iff.1 hy).1
  constructor
  · have : (ks.take (j + 1)) = ks.take j ++ [y] := by
      rw [List.take_succ_eq_append_getElem hj]
      rw [(List.getElem?_eq_some_iff.1 hy).2]
    rw [this, List.filter_append, h]
    simp [hp]
  · have h1 : L.drop (j + 1) = (L.drop j).drop 1 := by rw [List.drop_drop]
    rw [h1, hd, List.drop_drop]
theorem del_start {ks : List UnV} {p : UnV → Bool} {i : Nat} {x : UnV} (hx : ks[i]? = some x) (hp : p x = true) (hn : (ks.take i).any p = false) : ks.take i = (ks.take (i + 1)).filter (fun k => !p k) := by
  have hi : i < ks.length := (List.getElem?_eq_some_iff.1 hx).1
  have : (ks.take (i + 1)) = ks.take i ++ [x] := by
    rw [List.take_succ_eq_append_getElem hi]
    rw [(List.getElem?_eq_some_iff.1 hx).2]
  rw [this, List.filter_append]
  have e : (ks.take i).filter (fun k => !p k) = ks.take i := by
    rw [List.filter_eq_self]
    intro a ha
    have := List.any_eq_false.1 hn a ha
    simpa using this
  rw [e]
  simp [hp]

theorem del_gb {w w1 w' : World} {g n c : Nat} (h : Below w.heap.size w w1) (k : Kp g w1 w') : w.grownBy w' (Value.slice (some ⟨g, 0, none⟩) n c).ownBlock :=
  ⟨k.os.trans h.os, k.tape.trans h.tape, k.output.trans h.output, Nat.le_trans h.size k.size, fun i hi hr => (k.block i (Nat.lt_of_lt_of_le hi h.size) (fun e => hr (by rw [e]; rfl))).trans (h.block i hi)⟩
theorem ub_kp (wb : World) (g i : Nat) (y : UnV) : Kp g wb ((((((((wb.setCell ⟨g, i * 8, none⟩ (.int .i64 y.id)).setCell ⟨g, i * 8 + 1, none⟩ (.int .i64 y.player)).setCell ⟨g, i * 8 + 2, none⟩ (.int .i64 y.kind)).setCell ⟨g, i * 8 + 3, none⟩ (.int .i64 y.at_)).setCell ⟨g, i * 8 + 4, none⟩ (.int .i64 y.life)).setCell ⟨g, i * 8 + 5, none⟩ (.int .i64 y.load)).setCell ⟨g, i * 8 + 6, none⟩ (.int .i64 y.task)).setCell ⟨g, i * 8 + 7, none⟩ (.int .i64 y.goal)) :=
  (((((((Kp.set (z := g) _ _ _).trans (Kp.set _ _ _)).trans (Kp.set _ _ _)).trans (Kp.set _ _ _)).trans (Kp.set _ _ _)).trans (Kp.set _ _ _)).trans (Kp.set _ _ _)).trans (Kp.set _ _ _)
set_option maxRecDepth 100000 in
set_option maxHeartbeats 8000000 in
theorem del_own (K : Nat) (eK : ∀ args w, (callFunc K args).run Tryz.prog w = .ok (.enter K args) w) (u : Value) (cs : Array Value) (ks : List UnV) (p : UnV → Bool) (w : World) (base : Nat) (hu : Uno w base u ks) (hbase : base ≤ w.heap.size) (hl : ks.length ≤ 1000000)
    (hp : ∀ W, Below base w W → w.grownBy W u.ownBlock → ∀ k ∈ ks, Calls Tryz.prog K (#[k.val] ++ cs) W fun e w' => e = .returned (.bool (p k)) ∧ Below W.heap.size W w') :
    Calls Tryz.prog 35 #[u, .func (Fn.func K) #[] cs] w fun e w' => ∃ v, e = .returned v ∧ Uno w' base v (ks.filter (fun k => !p k)) ∧ Below base w w' ∧ w.grownBy w' u.ownBlock ∧ v.ownBlock = u.ownBlock := by
  have H' : Hid (Calls Tryz.prog 61 #[u, .func (Fn.func K) #[] cs] w fun e w' => ∃ r : Int, e = .returned (.int .i64 r) ∧ FstU p ks r ∧ Below w.heap.size w w') := idxm_any K eK u cs ks p w hu.l (fun W hW k hk => hp W (hW.mono hbase) ⟨hW.os, hW.tape, hW.output, hW.size, fun k hk _ => hW.block k hk⟩ k hk)
  have Hp : Hid (∀ W, Below base w W → w.grownBy W u.ownBlock → ∀ k ∈ ks, Calls Tryz.prog K (#[k.val] ++ cs) W fun e w' => e = .returned (.bool (p k)) ∧ Below W.heap.size W w') := hp
  have U : Hid (Uno w base u ks) := hu
  have HB : Hid (base ≤ w.heap.size ∧ ks.length ≤ 1000000) := ⟨hbase, hl⟩
  clear hp hu hbase
  go_enter Tryz.func35, Tryz.ntmps35
  go_wp2_with fail
  refine Calls.mono H'.out ?_
  rintro e w1 ⟨r, rfl, hf, hb⟩
  have B1 : Hid (Below base w w1) := hb.mono HB.out.1
  have U1 : Hid (Uno w1 base u ks) := U.out.below hb
  have S1 : Hid (w.heap.size ≤ w1.heap.size) := hb.size
  have G1 : Hid (Below w.heap.size w w1) := hb
  clear hb U H'
  rcases hf with ⟨rfl, hno⟩ | ⟨i0, x, rfl, hx, hpx, hnx⟩
  · have NO : Hid (ks.filter (fun k => !p k) = ks) := by
      unfold Hid
      rw [List.filter_eq_self]
      intro a ha
      have := List.any_eq_false.1 hno a ha
      simpa using this
    clear hno
    go_wp2
    go_ret
    exact ⟨u, rfl, by rw [NO.out]; exact U1.out, B1.out, ⟨G1.out.os, G1.out.tape, G1.out.output, G1.out.size, fun k hk _ => G1.out.block k hk⟩, rfl⟩
  have hi0 : i0 < ks.length := (List.getElem?_eq_some_iff.1 hx).1
  rcases U1.out.ub with ⟨rfl, h⟩ | ⟨g, cap, rest, rfl, hbg, hkc, hcm, hcl, hub⟩
  · rw [h] at hi0; simp at hi0
  have ST : Hid (ks.take i0 = (ks.take (i0 + 1)).filter (fun k => !p k)) := del_start hx hpx hnx
  have GG : Hid (base ≤ g ∧ ks.length ≤ cap ∧ cap ≤ maxLen ∧ ks.length * 8 + rest.length = cap * 8) := ⟨hbg, hkc, hcm, hcl⟩
  have UB : Hid (Ub w1 g ks rest) := hub
  have hcm' : cap ≤ 9223372036854775807 := by unfold maxLen at hcm; omega
  clear hx hpx hnx hbg hcm hcl hub U1
  have hm1 : (((i0 : Nat) : Int) == -1) = false := by rw [beq_eq_false_iff_ne]; omega
  go_wp2
  go_loopw [5, 6] (fun vi vj W => ∃ (i j : Nat) (L : List UnV), vi = .int .i64 (i : Nat) ∧ vj = .int .i64 (j : Nat) ∧ i < j ∧ j ≤ ks.length ∧ L.length = ks.length ∧ L.take i = (ks.take j).filter (fun k => !p k) ∧ L.drop j = ks.drop j ∧ Ub W g L rest ∧ Below base w W ∧ Kp g w1 W) (fun _ vj _ => ks.length - (intOf vj).toNat)
  case atStart => exact ⟨i0, i0 + 1, ks, rfl, by go_num, by omega, by omega, rfl, ST.out, rfl, UB.out, B1.out, Kp.refl _ _⟩
  case round =>
    obtain ⟨i, j, L, rfl, rfl, hij, hjn, hLl, hLt, hLd, hLu, hLb, hLk⟩ := hrel
    have LU : Hid (Ub wr g L rest) := hLu
    have LB : Hid (Below base w wr) := hLb
    have LK : Hid (Kp g w1 wr) := hLk
    clear hLk
    have LL : Hid (L.length = ks.length ∧ L.take i = (ks.take j).filter (fun k => !p k) ∧ L.drop j = ks.drop j) := ⟨hLl, hLt, hLd⟩
    clear hLu hLb hLl hLt hLd UB B1 ST
    by_cases h0 : j = ks.length
    · subst h0
      obtain ⟨wc, hcl, hUc, hBc, hSc, hKc⟩ := run_clear_uns wr g i (ks.length - i) (cap - i) L rest LU.out (by omega) (by rw [LL.out.1]; omega)
      have UC : Hid (Ub wc g (L.take i) ((List.replicate (ks.length - i) (⟨0, 0, 0, 0, 0, 0, 0, 0⟩ : UnV)).flatMap UnV.cs ++ rest)) := by
        unfold Ub at hUc
        unfold Hid Ub
        rw [← List.append_assoc, ← List.flatMap_append]
        exact hUc
      have BC : Hid (Below base w wc) := LB.out.trans (hBc.mono GG.out.1)
      have KC : Hid (Kp g w1 wc) := LK.out.trans hKc
      have IL : Hid ((L.take i).length = i) := by unfold Hid; rw [List.length_take, LL.out.1]; omega
      clear hUc hBc hSc hKc
      go_wp2
      go_ret
      have h1 := UC.out.uno (base := base) (cap := cap) GG.out.1 (by rw [IL.out]; have := GG.out.2.1; omega) GG.out.2.2.1 (by
        rw [IL.out, List.length_append, len_un, List.length_replicate]
        have := GG.out.2.2.2
        omega)
      rw [IL.out] at h1
      refine ⟨_, rfl, ?_, BC.out, del_gb G1.out KC.out, rfl⟩
      have h2 := LL.out.2.1
      rw [List.take_of_length_le (Nat.le_refl _)] at h2
      rw [← h2]
      exact h1
    · have hjl : j < ks.length := by omega
      have hji : ((j : Nat) : Int) < (ks.length : Nat) := by omega
      obtain ⟨y, hy⟩ : ∃ y, ks[j]? = some y := ⟨_, List.getElem?_eq_getElem hjl⟩
      have hLy : L[j]? = some y := by
        have h1 : (L.drop j)[0]? = (ks.drop j)[0]? := by rw [LL.out.2.2]
        rw [List.getElem?_drop, List.getElem?_drop] at h1
        rw [Nat.add_zero] at h1
        rw [h1]; exact hy
      obtain ⟨q0, q1, q2, q3, q4, q5, q6, q7⟩ := LU.out.unc hLy
      have HY : Hid (ks[j]? = some y) := hy
      have wi : IntKind.i64.wrap ((i : Nat) + 1 : Int) = ((i : Nat) : Int) + 1 := by rw [IntKind.wrap_i64]; omega
      have wj : IntKind.i64.wrap ((j : Nat) + 1 : Int) = ((j : Nat) : Int) + 1 := by rw [IntKind.wrap_i64]; omega
      clear hLy hy
      go_upto_region 8 with fail
      have BA : Hid (Below wr.heap.size wr (wr.alloc (Obj.cells #[.int .i64 y.id, .int .i64 y.player, .int .i64 y.kind, .int .i64 y.at_, .int .i64 y.life, .int .i64 y.load, .int .i64 y.task, .int .i64 y.goal] 59))) := (Below.refl _ _).alloc (Nat.le_refl _) _
      have XA : Hid (Unc (wr.alloc (Obj.cells #[.int .i64 y.id, .int .i64 y.player, .int .i64 y.kind, .int .i64 y.at_, .int .i64 y.life, .int .i64 y.load, .int .i64 y.task, .int .i64 y.goal] 59)) ⟨wr.heap.size, 0, none⟩ y) := Unc.mk' y rfl
      generalize (wr.alloc (Obj.cells #[.int .i64 y.id, .int .i64 y.player, .int .i64 y.kind, .int .i64 y.at_, .int .i64 y.life, .int .i64 y.load, .int .i64 y.task, .int .i64 y.goal] 59)) = wa at *
      have UA : Hid (Ub wa g L rest) := LU.out.below BA.out LU.out.lt
      have AB : Hid (Below base w wa) := LB.out.trans (BA.out.mono (Nat.le_trans HB.out.1 LB.out.size))
      have KA : Hid (Kp g w1 wa) := LK.out.trans (Kp.of BA.out)
      clear LK
      obtain ⟨z, hz⟩ : ∃ z, wr.heap.size = z := ⟨_, rfl⟩
      rw [hz] at XA ⊢
      have ZG : Hid (g < z) := by rw [← hz]; exact LU.out.lt
      clear hz BA LU LB q0 q1 q2 q3 q4 q5 q6 q7
      obtain ⟨q0, q1, q2, q3, q4, q5, q6, q7⟩ := XA.out
      cases hpy : p y with
      | true =>
        have PY : Hid (p y = true) := hpy
        have hc := Hp.out wa AB.out (del_gb G1.out KA.out) y (List.mem_of_getElem? HY.out)
        rw [hpy] at hc
        have Hc : Hid (Calls Tryz.prog K (#[y.val] ++ cs) wa fun e w' => e = .returned (.bool true) ∧ Below wa.heap.size wa w') := hc
        clear hc hpy
        go_wp2_with fail
        refine Calls.mono Hc.out ?_
        rintro e wb ⟨rfl, hb⟩
        have UW : Hid (Ub wb g L rest) := UA.out.below hb UA.out.lt
        have WB : Hid (Below base w wb) := AB.out.trans (hb.mono (Nat.le_trans HB.out.1 AB.out.size))
        have KW : Hid (Kp g w1 wb) := KA.out.trans (Kp.of hb)
        clear KA
        clear hb q0 q1 q2 q3 q4 q5 q6 q7 UA AB XA Hc
        go_wp2
        go_round
        case rel => exact ⟨i, j + 1, L, rfl, by go_num, by omega, by omega, LL.out.1, (del_skip LL.out.2.1 LL.out.2.2 HY.out PY.out).1, (del_skip LL.out.2.1 LL.out.2.2 HY.out PY.out).2, UW.out, WB.out, KW.out⟩
        case measure => simp [intOf]; omega
      | false =>
        have PY : Hid (p y = false) := hpy
        have hc := Hp.out wa AB.out (del_gb G1.out KA.out) y (List.mem_of_getElem? HY.out)
        rw [hpy] at hc
        have Hc : Hid (Calls Tryz.prog K (#[y.val] ++ cs) wa fun e w' => e = .returned (.bool false) ∧ Below wa.heap.size wa w') := hc
        clear hc hpy
        go_wp2_with fail
        refine Calls.mono Hc.out ?_
        rintro e wb ⟨rfl, hb⟩
        have UW : Hid (Ub wb g L rest) := UA.out.below hb UA.out.lt
        have WB : Hid (Below base w wb) := AB.out.trans (hb.mono (Nat.le_trans HB.out.1 AB.out.size))
        have KW : Hid (Kp g w1 wb) := KA.out.trans (Kp.of hb)
        clear KA
        have XB : Hid (Unc wb ⟨z, 0, none⟩ y) := XA.out.below hb XA.out.lt
        clear hb q0 q1 q2 q3 q4 q5 q6 q7 UA AB XA Hc
        have hil : i < L.length := by rw [LL.out.1]; omega
        obtain ⟨z0, hz0⟩ : ∃ z0, L[i]? = some z0 := ⟨_, List.getElem?_eq_getElem hil⟩
        obtain ⟨q0, q1, q2, q3, q4, q5, q6, q7⟩ := XB.out
        obtain ⟨r0, r1, r2, r3, r4, r5, r6, r7⟩ := UW.out.unc hz0
        have f0 := UW.out.thaw (i * 8)
        have f1 := UW.out.thaw (i * 8 + 1)
        have f2 := UW.out.thaw (i * 8 + 2)
        have f3 := UW.out.thaw (i * 8 + 3)
        have f4 := UW.out.thaw (i * 8 + 4)
        have f5 := UW.out.thaw (i * 8 + 5)
        have f6 := UW.out.thaw (i * 8 + 6)
        have f7 := UW.out.thaw (i * 8 + 7)
        have UP : Hid (Ub ((((((((wb.setCell ⟨g, i * 8, none⟩ (.int .i64 y.id)).setCell ⟨g, i * 8 + 1, none⟩ (.int .i64 y.player)).setCell ⟨g, i * 8 + 2, none⟩ (.int .i64 y.kind)).setCell ⟨g, i * 8 + 3, none⟩ (.int .i64 y.at_)).setCell ⟨g, i * 8 + 4, none⟩ (.int .i64 y.life)).setCell ⟨g, i * 8 + 5, none⟩ (.int .i64 y.load)).setCell ⟨g, i * 8 + 6, none⟩ (.int .i64 y.task)).setCell ⟨g, i * 8 + 7, none⟩ (.int .i64 y.goal)) g (L.set i y) rest) := UW.out.put hil y
        have BP : Hid (Below base w ((((((((wb.setCell ⟨g, i * 8, none⟩ (.int .i64 y.id)).setCell ⟨g, i * 8 + 1, none⟩ (.int .i64 y.player)).setCell ⟨g, i * 8 + 2, none⟩ (.int .i64 y.kind)).setCell ⟨g, i * 8 + 3, none⟩ (.int .i64 y.at_)).setCell ⟨g, i * 8 + 4, none⟩ (.int .i64 y.life)).setCell ⟨g, i * 8 + 5, none⟩ (.int .i64 y.load)).setCell ⟨g, i * 8 + 6, none⟩ (.int .i64 y.task)).setCell ⟨g, i * 8 + 7, none⟩ (.int .i64 y.goal))) := ub_below y WB.out GG.out.1
        have KP : Hid (Kp g w1 ((((((((wb.setCell ⟨g, i * 8, none⟩ (.int .i64 y.id)).setCell ⟨g, i * 8 + 1, none⟩ (.int .i64 y.player)).setCell ⟨g, i * 8 + 2, none⟩ (.int .i64 y.kind)).setCell ⟨g, i * 8 + 3, none⟩ (.int .i64 y.at_)).setCell ⟨g, i * 8 + 4, none⟩ (.int .i64 y.life)).setCell ⟨g, i * 8 + 5, none⟩ (.int .i64 y.load)).setCell ⟨g, i * 8 + 6, none⟩ (.int .i64 y.task)).setCell ⟨g, i * 8 + 7, none⟩ (.int .i64 y.goal))) := KW.out.trans (ub_kp wb g i y)
        have DK := del_keep LL.out.2.1 LL.out.2.2 hij LL.out.1 HY.out PY.out
        have DH : Hid ((L.set i y).length = ks.length ∧ (L.set i y).take (i + 1) = (ks.take (j + 1)).filter (fun k => !p k) ∧ (L.set i y).drop (j + 1) = ks.drop (j + 1)) := ⟨by rw [List.length_set]; exact LL.out.1, DK.1, DK.2⟩
        clear DK hz0 hil
        go_wp2
        go_round
        case rel => exact ⟨i + 1, j + 1, L.set i y, by go_num, by go_num, by omega, by omega, DH.out.1, DH.out.2.1, DH.out.2.2, UP.out, BP.out, KP.out⟩
        case measure => simp [intOf]; omega
theorem del_any (K : Nat) (eK : ∀ args w, (callFunc K args).run Tryz.prog w = .ok (.enter K args) w) (u : Value) (cs : Array Value) (ks : List UnV) (p : UnV → Bool) (w : World) (base : Nat) (hu : Uno w base u ks) (hbase : base ≤ w.heap.size) (hl : ks.length ≤ 1000000)
    (hp : ∀ W, Below base w W → ∀ k ∈ ks, Calls Tryz.prog K (#[k.val] ++ cs) W fun e w' => e = .returned (.bool (p k)) ∧ Below W.heap.size W w') :
    Calls Tryz.prog 35 #[u, .func (Fn.func K) #[] cs] w fun e w' => ∃ v, e = .returned v ∧ Uno w' base v (ks.filter (fun k => !p k)) ∧ Below base w w' :=
  (del_own K eK u cs ks p w base hu hbase hl (fun W hW _ => hp W hW)).mono fun e w' h => by
    obtain ⟨v, h1, h2, h3, -⟩ := h
    exact ⟨v, h1, h2, h3⟩
end Go.Proofs.YtagnjmellcibhaaGreatDoor

namespace Go.Proofs.YtagnjmellcibhaaGreatDoor
open Go.RowKit
set_option linter.unusedVariables false

/-- of a list the first that is least. -/
def minU (d : UnV → Int) (m : UnV) (l : List UnV) : UnV := l.foldl (fun m x => if d x < d m then x else m) m
theorem minU_next (d : UnV → Int) (m y : UnV) (l : List UnV) (k : Nat) (hy : l[k]? = some y) : minU d m (l.take (k + 1)) = if d y < d (minU d m (l.take k)) then y else minU d m (l.take k) := by
  obtain ⟨hi, e⟩ := List.getElem?_eq_some_iff.1 hy
  unfold minU
  rw [List.take_succ_eq_append_getElem hi, List.foldl_append, e]
  rfl
theorem minU_mem (d : UnV → Int) : ∀ (l : List UnV) (m : UnV), minU d m l ∈ m :: l
  | [], m => by simp [minU]
  | x :: l, m => by
    have h := minU_mem d l (if d x < d m then x else m)
    show minU d (if d x < d m then x else m) l ∈ _
    rcases List.mem_cons.1 h with h | h
    · rw [h]; split <;> simp
    · exact List.mem_cons_of_mem _ (List.mem_cons_of_mem _ h)
theorem ub_one {w : World} {z : Nat} (y : UnV) (hz : w.heap.size = z) : Ub (w.alloc (Obj.cells #[.int .i64 y.id, .int .i64 y.player, .int .i64 y.kind, .int .i64 y.at_, .int .i64 y.life, .int .i64 y.load, .int .i64 y.task, .int .i64 y.goal] 59)) z [y] [] := by
  subst hz
  exact heap_alloc_new _ _

set_option maxRecDepth 100000 in
set_option maxHeartbeats 4000000 in
theorem min_gen (K : Nat) (eK : ∀ args w, (callFunc K args).run Tryz.prog w = .ok (.enter K args) w) (u : Value) (cs : Array Value) (x0 : UnV) (tl : List UnV) (d : UnV → Int) (c : UnV → UnV → Int) (w : World) (hu : Unl w u (x0 :: tl)) (hl : tl.length ≤ 1000000)
    (hcd : ∀ a ∈ x0 :: tl, ∀ b ∈ x0 :: tl, (c a b < 0 ↔ d a < d b))
    (hp : ∀ W, Below w.heap.size w W → ∀ a ∈ x0 :: tl, ∀ b ∈ x0 :: tl, Calls Tryz.prog K (#[a.val, b.val] ++ cs) W fun e w' => e = .returned (.int .i64 (c a b)) ∧ Below W.heap.size W w') :
    Calls Tryz.prog 72 #[u, .func (Fn.func K) #[] cs] w fun e w' => e = .returned (minU d x0 tl).val ∧ Below w.heap.size w w' := by
  have HCD : Hid (∀ a ∈ x0 :: tl, ∀ b ∈ x0 :: tl, (c a b < 0 ↔ d a < d b)) := hcd
  clear hcd
  have Hp : Hid (∀ W, Below w.heap.size w W → ∀ a ∈ x0 :: tl, ∀ b ∈ x0 :: tl, Calls Tryz.prog K (#[a.val, b.val] ++ cs) W fun e w' => e = .returned (.int .i64 (c a b)) ∧ Below W.heap.size W w') := hp
  obtain ⟨a, cc, rfl, h1, h2, h3⟩ := hu
  obtain ⟨x, rfl, hx, hxc⟩ := h3 (by simp)
  have XC : Hid (∀ (i : Nat) k, (x0 :: tl)[i]? = some k → Unc w (x.add (i * 8)) k) := hxc
  have XL : Hid (x.block < w.heap.size) := hx
  obtain ⟨n, hn⟩ : ∃ n, (x0 :: tl).length = n := ⟨_, rfl⟩
  have HN : Hid (tl.length + 1 = n) := by rw [← hn]; rfl
  rw [hn] at h1 ⊢
  have hn1 : 1 ≤ n := by have := HN.out; omega
  have hn0 : ¬ ((n : Nat) : Int) < 1 := by omega
  have hnp : 0 < n := by omega
  clear h3 hxc hx hp hn
  go_enter Tryz.func72, Tryz.ntmps72
  go_upto_region 1 with fail
  have BZ : Hid (Below w.heap.size w (w.alloc (Obj.cells #[.int .i64 0, .int .i64 0, .int .i64 0, .int .i64 0, .int .i64 0, .int .i64 0, .int .i64 0, .int .i64 0] 59))) := (Below.refl _ _).alloc (Nat.le_refl _) _
  have UZ : Hid (Ub (w.alloc (Obj.cells #[.int .i64 0, .int .i64 0, .int .i64 0, .int .i64 0, .int .i64 0, .int .i64 0, .int .i64 0, .int .i64 0] 59)) w.heap.size [⟨0, 0, 0, 0, 0, 0, 0, 0⟩] []) := ub_one ⟨0, 0, 0, 0, 0, 0, 0, 0⟩ rfl
  generalize (w.alloc (Obj.cells #[.int .i64 0, .int .i64 0, .int .i64 0, .int .i64 0, .int .i64 0, .int .i64 0, .int .i64 0, .int .i64 0] 59)) = wz at *
  have q := (XC.out 0 x0 rfl).below BZ.out (by rw [add_block]; exact XL.out)
  rw [Nat.zero_mul] at q
  have ex : x.add 0 = x := by unfold Addr.add; simp
  rw [ex] at q
  obtain ⟨q0, q1, q2, q3, q4, q5, q6, q7⟩ := q
  go_upto_region 4 with fail
  have BA : Hid (Below wz.heap.size wz (wz.alloc (Obj.cells #[.int .i64 x0.id, .int .i64 x0.player, .int .i64 x0.kind, .int .i64 x0.at_, .int .i64 x0.life, .int .i64 x0.load, .int .i64 x0.task, .int .i64 x0.goal] 59))) := (Below.refl _ _).alloc (Nat.le_refl _) _
  have UA : Hid (Ub (wz.alloc (Obj.cells #[.int .i64 x0.id, .int .i64 x0.player, .int .i64 x0.kind, .int .i64 x0.at_, .int .i64 x0.life, .int .i64 x0.load, .int .i64 x0.task, .int .i64 x0.goal] 59)) wz.heap.size [x0] []) := ub_one x0 rfl
  generalize (wz.alloc (Obj.cells #[.int .i64 x0.id, .int .i64 x0.player, .int .i64 x0.kind, .int .i64 x0.at_, .int .i64 x0.life, .int .i64 x0.load, .int .i64 x0.task, .int .i64 x0.goal] 59)) = wa at *
  obtain ⟨zb, hzb⟩ : ∃ z, wz.heap.size = z := ⟨_, rfl⟩
  rw [hzb] at UA ⊢
  have UZ1 : Hid (Ub wa w.heap.size [⟨0, 0, 0, 0, 0, 0, 0, 0⟩] []) := UZ.out.below BA.out UZ.out.lt
  have B1 : Hid (Below w.heap.size w wa) := BZ.out.trans (BA.out.mono BZ.out.size)
  have ZB : Hid (w.heap.size < zb) := by rw [← hzb]; exact UZ.out.lt
  clear hzb BZ UZ BA q0 q1 q2 q3 q4 q5 q6 q7 ex
  go_wp2
  go_loopw [6] (fun vi W => ∃ i k : Nat, i = k + 1 ∧ k ≤ tl.length ∧ vi = .int .i64 (i : Nat) ∧ Ub W zb [minU d x0 (tl.take k)] [] ∧ Ub W w.heap.size [⟨0, 0, 0, 0, 0, 0, 0, 0⟩] [] ∧ Below w.heap.size w W) (fun vi _ => tl.length + 1 - (intOf vi).toNat)
  case atStart => exact ⟨1, 0, rfl, Nat.zero_le _, rfl, UA.out, UZ1.out, B1.out⟩
  case round =>
    obtain ⟨i, k, hik, hk, rfl, hM, hZ, hB⟩ := hrel
    have M : Hid (Ub wr zb [minU d x0 (tl.take k)] []) := hM
    have Z0 : Hid (Ub wr w.heap.size [⟨0, 0, 0, 0, 0, 0, 0, 0⟩] []) := hZ
    have B : Hid (Below w.heap.size w wr) := hB
    clear hM hZ hB UA UZ1 B1
    obtain ⟨m, hm⟩ : ∃ m, minU d x0 (tl.take k) = m := ⟨_, rfl⟩
    have MM : Hid (minU d x0 (tl.take k) = m) := hm
    rw [hm] at M
    clear hm
    by_cases h0 : k = tl.length
    · have hkn : i = n := by have := HN.out; omega
      have hlt : ¬ (((i : Nat) : Int) < (n : Nat)) := by omega
      have MK : Hid (minU d x0 tl = m) := by have := MM.out; rw [List.take_of_length_le (by omega)] at this; exact this
      clear hkn h0 hik hk
      go_upto_region 9 with fail
      obtain ⟨q0, q1, q2, q3, q4, q5, q6, q7⟩ := M.out.unc (i := 0) (o := m) rfl
      obtain ⟨r0, r1, r2, r3, r4, r5, r6, r7⟩ := Z0.out.unc (i := 0) (o := ⟨0, 0, 0, 0, 0, 0, 0, 0⟩) rfl
      simp only [Nat.zero_mul, Nat.zero_add] at q0 q1 q2 q3 q4 q5 q6 q7 r0 r1 r2 r3 r4 r5 r6 r7
      have f0 := Z0.out.thaw 0
      have f1 := Z0.out.thaw 1
      have f2 := Z0.out.thaw 2
      have f3 := Z0.out.thaw 3
      have f4 := Z0.out.thaw 4
      have f5 := Z0.out.thaw 5
      have f6 := Z0.out.thaw 6
      have f7 := Z0.out.thaw 7
      have UP : Hid (Ub ((((((((wr.setCell ⟨w.heap.size, 0, none⟩ (.int .i64 m.id)).setCell ⟨w.heap.size, 1, none⟩ (.int .i64 m.player)).setCell ⟨w.heap.size, 2, none⟩ (.int .i64 m.kind)).setCell ⟨w.heap.size, 3, none⟩ (.int .i64 m.at_)).setCell ⟨w.heap.size, 4, none⟩ (.int .i64 m.life)).setCell ⟨w.heap.size, 5, none⟩ (.int .i64 m.load)).setCell ⟨w.heap.size, 6, none⟩ (.int .i64 m.task)).setCell ⟨w.heap.size, 7, none⟩ (.int .i64 m.goal)) w.heap.size [m] []) := by
        unfold Hid
        have := Z0.out.put (i := 0) (by simp) m
        simpa using this
      have BP : Hid (Below w.heap.size w ((((((((wr.setCell ⟨w.heap.size, 0, none⟩ (.int .i64 m.id)).setCell ⟨w.heap.size, 1, none⟩ (.int .i64 m.player)).setCell ⟨w.heap.size, 2, none⟩ (.int .i64 m.kind)).setCell ⟨w.heap.size, 3, none⟩ (.int .i64 m.at_)).setCell ⟨w.heap.size, 4, none⟩ (.int .i64 m.life)).setCell ⟨w.heap.size, 5, none⟩ (.int .i64 m.load)).setCell ⟨w.heap.size, 6, none⟩ (.int .i64 m.task)).setCell ⟨w.heap.size, 7, none⟩ (.int .i64 m.goal))) := by
        unfold Hid
        have := ub_below (g := w.heap.size) (i := 0) m B.out (Nat.le_refl _)
        simpa using this
      go_wp2
      clear q0 q1 q2 q3 q4 q5 q6 q7 r0 r1 r2 r3 r4 r5 r6 r7 f0 f1 f2 f3 f4 f5 f6 f7
      generalize ((((((((wr.setCell ⟨w.heap.size, 0, none⟩ (.int .i64 m.id)).setCell ⟨w.heap.size, 1, none⟩ (.int .i64 m.player)).setCell ⟨w.heap.size, 2, none⟩ (.int .i64 m.kind)).setCell ⟨w.heap.size, 3, none⟩ (.int .i64 m.at_)).setCell ⟨w.heap.size, 4, none⟩ (.int .i64 m.life)).setCell ⟨w.heap.size, 5, none⟩ (.int .i64 m.load)).setCell ⟨w.heap.size, 6, none⟩ (.int .i64 m.task)).setCell ⟨w.heap.size, 7, none⟩ (.int .i64 m.goal)) = w9 at *
      obtain ⟨y0, y1, y2, y3, y4, y5, y6, y7⟩ := UP.out.unc (i := 0) (o := m) rfl
      simp only [Nat.zero_mul, Nat.zero_add] at y0 y1 y2 y3 y4 y5 y6 y7
      refine bodyPost_ret (v := .agg #[.int .i64 m.id, .int .i64 m.player, .int .i64 m.kind, .int .i64 m.at_, .int .i64 m.life, .int .i64 m.load, .int .i64 m.task, .int .i64 m.goal]) (by simp [results, Tryz.results72, go_sem, y0, y1, y2, y3, y4, y5, y6, y7]) rfl ⟨by rw [MK.out]; rfl, BP.out⟩
    · have hlt : ((i : Nat) : Int) < (n : Nat) := by have := HN.out; omega
      have hln : i < n := by omega
      have wi : IntKind.i64.wrap ((i : Nat) + 1 : Int) = ((i : Nat) : Int) + 1 := by have := HN.out; rw [IntKind.wrap_i64]; omega
      obtain ⟨y, hy⟩ : ∃ y, tl[k]? = some y := ⟨_, List.getElem?_eq_getElem (by omega)⟩
      have HY : Hid (tl[k]? = some y ∧ (x0 :: tl)[i]? = some y ∧ i = k + 1 ∧ k < tl.length) := ⟨hy, by rw [hik, List.getElem?_cons_succ]; exact hy, hik, by omega⟩
      have MI : Hid (m ∈ x0 :: tl) := by
        have h := minU_mem d (tl.take k) x0
        rw [MM.out] at h
        rcases List.mem_cons.1 h with h | h
        · rw [h]; exact List.mem_cons_self ..
        · exact List.mem_cons_of_mem _ (List.mem_of_mem_take h)
      have YC : Hid (Unc w (x.add (i * 8)) y) := XC.out i y HY.out.2.1
      have CB : Hid (∀ V, Below w.heap.size w V → Ub V zb [m] [] → Unc V (x.add (i * 8)) y ∧ Unc V ⟨zb, 0, none⟩ m) := fun V hb hu => ⟨YC.out.below hb (by rw [add_block]; exact XL.out), by have := hu.unc (i := 0) (o := m) rfl; rw [Nat.zero_mul] at this; exact this⟩
      clear hy hik h0 hk
      go_upto_region 7 with fail
      refine wp_region_two [(true, 0), (true, 1), (true, 2), (true, 3), (true, 4), (true, 5), (false, 6)] [(false, 7)] (fun V => Unc V (x.add (i * 8)) y ∧ Unc V ⟨zb, 0, none⟩ m) (by kernel_rfl) (by kernel_rfl) (by kernel_rfl) (by decide +kernel) (by decide +kernel) (CB.out _ B.out.drew (M.out.below ((Below.refl _ _).drew) M.out.lt)) ?_
      have M1 : Hid (Ub { wr with drawn := wr.drawn + 1 } zb [m] []) := M.out.below ((Below.refl _ _).drew) M.out.lt
      have Z1 : Hid (Ub { wr with drawn := wr.drawn + 1 } w.heap.size [⟨0, 0, 0, 0, 0, 0, 0, 0⟩] []) := Z0.out.below ((Below.refl _ _).drew) Z0.out.lt
      have B1 : Hid (Below w.heap.size w { wr with drawn := wr.drawn + 1 }) := B.out.drew
      generalize ({ wr with drawn := wr.drawn + 1 } : World) = wd at *
      clear M Z0 B
      refine headT_read rfl (.func (Fn.func K) #[] cs) (by go_simp) (fun V hV => by go_simp) ?_
      go_simp
      refine headT_read rfl (.slice (some x) n cc) (by go_simp) (fun V hV => by go_simp) ?_
      go_simp
      refine headT_read rfl (.int .i64 (i : Nat)) (by go_simp) (fun V hV => by go_simp) ?_
      go_simp
      refine headT_read rfl (.pointer (some (x.add (i * 8)))) (by go_simp) (fun V hV => by go_simp) ?_
      go_simp
      refine headT_read rfl (.agg #[.int .i64 y.id, .int .i64 y.player, .int .i64 y.kind, .int .i64 y.at_, .int .i64 y.life, .int .i64 y.load, .int .i64 y.task, .int .i64 y.goal]) (by go_simp) (fun V hV => by obtain ⟨⟨q0, q1, q2, q3, q4, q5, q6, q7⟩, ⟨r0, r1, r2, r3, r4, r5, r6, r7⟩⟩ := hV; go_simp) ?_
      go_simp
      refine headT_read rfl (.agg #[.int .i64 m.id, .int .i64 m.player, .int .i64 m.kind, .int .i64 m.at_, .int .i64 m.life, .int .i64 m.load, .int .i64 m.task, .int .i64 m.goal]) (by go_simp) (fun V hV => by obtain ⟨⟨q0, q1, q2, q3, q4, q5, q6, q7⟩, ⟨r0, r1, r2, r3, r4, r5, r6, r7⟩⟩ := hV; go_simp) ?_
      go_simp
      refine headT_call rfl K (#[y.val, m.val] ++ cs) (by go_simp) (by go_simp; rfl) ?_
      refine (Hp.out wd B1.out y (List.mem_of_getElem? HY.out.2.1) m MI.out).mono ?_
      rintro e w2 ⟨rfl, hb⟩
      have M2 : Hid (Ub w2 zb [m] []) := M1.out.below hb M1.out.lt
      have Z2 : Hid (Ub w2 w.heap.size [⟨0, 0, 0, 0, 0, 0, 0, 0⟩] []) := Z1.out.below hb Z1.out.lt
      have B2 : Hid (Below w.heap.size w w2) := B1.out.trans (hb.mono B1.out.size)
      refine ⟨_, rfl, CB.out _ B2.out M2.out, ?_⟩
      clear hb M1 Z1 B1
      go_simp
      obtain ⟨t, ht⟩ : ∃ t, c y m = t := ⟨_, rfl⟩
      have HT : Hid (c y m = t) := ht
      have HU : Hid (t < 0 ↔ d y < d m) := by rw [← ht]; exact HCD.out y (List.mem_of_getElem? HY.out.2.1) m MI.out
      rw [ht]
      clear ht
      refine sched_value rfl (.bool (decide (t < 0))) w2 (by go_simp) (by go_simp) trivial ?_
      go_simp
      unfold wpSched
      have MN := minU_next d x0 y tl k HY.out.1
      rw [MM.out] at MN
      by_cases hlss : t < 0
      · have MN1 : Hid (minU d x0 (tl.take (k + 1)) = y) := by rw [MN, if_pos (HU.out.1 hlss)]; rfl
        clear MN
        go_upto_region 8 with fail
        obtain ⟨q0, q1, q2, q3, q4, q5, q6, q7⟩ := YC.out.below B2.out (by rw [add_block]; exact XL.out)
        obtain ⟨r0, r1, r2, r3, r4, r5, r6, r7⟩ := M2.out.unc (i := 0) (o := m) rfl
        simp only [Nat.zero_mul, Nat.zero_add] at r0 r1 r2 r3 r4 r5 r6 r7
        have f0 := M2.out.thaw 0
        have f1 := M2.out.thaw 1
        have f2 := M2.out.thaw 2
        have f3 := M2.out.thaw 3
        have f4 := M2.out.thaw 4
        have f5 := M2.out.thaw 5
        have f6 := M2.out.thaw 6
        have f7 := M2.out.thaw 7
        have UP : Hid (Ub ((((((((w2.setCell ⟨zb, 0, none⟩ (.int .i64 y.id)).setCell ⟨zb, 1, none⟩ (.int .i64 y.player)).setCell ⟨zb, 2, none⟩ (.int .i64 y.kind)).setCell ⟨zb, 3, none⟩ (.int .i64 y.at_)).setCell ⟨zb, 4, none⟩ (.int .i64 y.life)).setCell ⟨zb, 5, none⟩ (.int .i64 y.load)).setCell ⟨zb, 6, none⟩ (.int .i64 y.task)).setCell ⟨zb, 7, none⟩ (.int .i64 y.goal)) zb [y] []) := by
          unfold Hid
          have := M2.out.put (i := 0) (by simp) y
          simpa using this
        have BZ : Hid (Below zb w2 ((((((((w2.setCell ⟨zb, 0, none⟩ (.int .i64 y.id)).setCell ⟨zb, 1, none⟩ (.int .i64 y.player)).setCell ⟨zb, 2, none⟩ (.int .i64 y.kind)).setCell ⟨zb, 3, none⟩ (.int .i64 y.at_)).setCell ⟨zb, 4, none⟩ (.int .i64 y.life)).setCell ⟨zb, 5, none⟩ (.int .i64 y.load)).setCell ⟨zb, 6, none⟩ (.int .i64 y.task)).setCell ⟨zb, 7, none⟩ (.int .i64 y.goal))) := by
          unfold Hid
          have := ub_below (B := zb) (g := zb) (i := 0) y (Below.refl zb w2) (Nat.le_refl _)
          simpa using this
        have ZP : Hid (Ub ((((((((w2.setCell ⟨zb, 0, none⟩ (.int .i64 y.id)).setCell ⟨zb, 1, none⟩ (.int .i64 y.player)).setCell ⟨zb, 2, none⟩ (.int .i64 y.kind)).setCell ⟨zb, 3, none⟩ (.int .i64 y.at_)).setCell ⟨zb, 4, none⟩ (.int .i64 y.life)).setCell ⟨zb, 5, none⟩ (.int .i64 y.load)).setCell ⟨zb, 6, none⟩ (.int .i64 y.task)).setCell ⟨zb, 7, none⟩ (.int .i64 y.goal)) w.heap.size [⟨0, 0, 0, 0, 0, 0, 0, 0⟩] []) := Z2.out.below BZ.out ZB.out
        have BP : Hid (Below w.heap.size w ((((((((w2.setCell ⟨zb, 0, none⟩ (.int .i64 y.id)).setCell ⟨zb, 1, none⟩ (.int .i64 y.player)).setCell ⟨zb, 2, none⟩ (.int .i64 y.kind)).setCell ⟨zb, 3, none⟩ (.int .i64 y.at_)).setCell ⟨zb, 4, none⟩ (.int .i64 y.life)).setCell ⟨zb, 5, none⟩ (.int .i64 y.load)).setCell ⟨zb, 6, none⟩ (.int .i64 y.task)).setCell ⟨zb, 7, none⟩ (.int .i64 y.goal))) := B2.out.trans (BZ.out.mono (Nat.le_of_lt ZB.out))
        clear BZ
        go_wp2
        go_round
        case rel => exact ⟨i + 1, k + 1, by have := HY.out.2.2.1; omega, by have := HY.out.2.2.2; omega, by go_num, by rw [MN1.out]; exact UP.out, ZP.out, BP.out⟩
        case measure => have := HN.out; simp [intOf]; omega
      · have MN1 : Hid (minU d x0 (tl.take (k + 1)) = m) := by rw [MN, if_neg (fun h => hlss (HU.out.2 h))]; rfl
        clear MN
        go_wp2
        go_round
        case rel => exact ⟨i + 1, k + 1, by have := HY.out.2.2.1; omega, by have := HY.out.2.2.2; omega, by go_num, by rw [MN1.out]; exact M2.out, Z2.out, B2.out⟩
        case measure => have := HN.out; simp [intOf]; omega
theorem min_any (K : Nat) (eK : ∀ args w, (callFunc K args).run Tryz.prog w = .ok (.enter K args) w) (u : Value) (cs : Array Value) (x0 : UnV) (tl : List UnV) (d : UnV → Int) (w : World) (hu : Unl w u (x0 :: tl)) (hl : tl.length ≤ 1000000)
    (hp : ∀ W, Below w.heap.size w W → ∀ a ∈ x0 :: tl, ∀ b ∈ x0 :: tl, Calls Tryz.prog K (#[a.val, b.val] ++ cs) W fun e w' => e = .returned (.int .i64 (d a - d b)) ∧ Below W.heap.size W w') :
    Calls Tryz.prog 72 #[u, .func (Fn.func K) #[] cs] w fun e w' => e = .returned (minU d x0 tl).val ∧ Below w.heap.size w w' :=
  min_gen K eK u cs x0 tl d (fun a b => d a - d b) w hu hl (fun a _ b _ => by constructor <;> intro h <;> omega) hp
end Go.Proofs.YtagnjmellcibhaaGreatDoor

namespace Go.Proofs.YtagnjmellcibhaaGreatDoor
open Go.RowKit

set_option maxHeartbeats 400000 in
theorem within_yes (x m : Int) (w : World) (h1 : -m ≤ x) (h2 : x ≤ m) (m0 : 0 ≤ m) (m1 : m ≤ 2000000000000) :
    Calls Tryz.prog 113 #[.int .i64 x, .int .i64 m] w fun e w' => e = .returned (.bool true) ∧ w' = w := by
  go_enter Tryz.func113, Tryz.ntmps113
  go_wp2
  go_ret
  exact ⟨rfl, rfl⟩

set_option maxHeartbeats 400000 in
theorem within_no (x m : Int) (w : World) (h : x < -m ∨ m < x) (m0 : 0 ≤ m) (m1 : m ≤ 2000000000000) :
    Calls Tryz.prog 113 #[.int .i64 x, .int .i64 m] w fun e w' => e = .returned (.bool false) ∧ w' = w := by
  rcases h with h | h
  · have h' : ¬ -m ≤ x := by omega
    go_enter Tryz.func113, Tryz.ntmps113
    go_wp2
    go_ret
    exact ⟨rfl, rfl⟩
  · have h' : -m ≤ x := by omega
    have h'' : ¬ x ≤ m := by omega
    go_enter Tryz.func113, Tryz.ntmps113
    go_wp2
    go_ret
    exact ⟨rfl, rfl⟩

end Go.Proofs.YtagnjmellcibhaaGreatDoor

namespace Go.Proofs.YtagnjmellcibhaaGreatDoor.Ma

/-- r is the root of n, rounded down. -/
def Sq (r n : Int) : Prop := 0 ≤ r ∧ r * r ≤ n ∧ n < (r + 1) * (r + 1)

def pw (k : Nat) : Int := 2 ^ k

theorem pw_zero : pw 0 = 1 := rfl
theorem pw_succ (k : Nat) : pw (k + 1) = 2 * pw k := by unfold pw; rw [Int.pow_succ]; omega
theorem pw_pos (k : Nat) : 1 ≤ pw k := by
  induction k with
  | zero => rw [pw_zero]; omega
  | succ k ih => rw [pw_succ]; omega
theorem pw_mono (a b : Nat) (h : a ≤ b) : pw a ≤ pw b := by
  induction b with
  | zero => have : a = 0 := by omega
            subst this; exact Int.le_refl _
  | succ b ih =>
    by_cases e : a = b + 1
    · subst e; exact Int.le_refl _
    · have := ih (by omega)
      have p := pw_pos b
      rw [pw_succ]; omega
theorem pw_32 : pw 32 = 4294967296 := by unfold pw; decide

theorem mul_mono (a b : Int) (h0 : 0 ≤ a) (h : a ≤ b) : a * a ≤ b * b :=
  Int.mul_le_mul h h h0 (by omega)

theorem sq_expand (r d : Int) : (r + d) * (r + d) = r * r + 2 * (r * d) + d * d := by
  rw [Int.add_mul, Int.mul_add, Int.mul_add, Int.mul_comm d r]; omega

theorem lt_of_sq (a b : Int) (h0 : 0 ≤ b) (h : a * a < b * b) : a < b := by
  by_cases hc : a < b
  · exact hc
  · have := mul_mono b a h0 (by omega)
    omega

theorem le_of_sq (a b : Int) (h0 : 0 ≤ b) (h : a * a ≤ b * b) : a ≤ b := by
  have e := sq_expand b 1
  have : a < b + 1 := lt_of_sq a (b + 1) (by omega) (by omega)
  omega

theorem sq_uniq (r s n : Int) (h : Sq r n) (k : Sq s n) : r = s := by
  obtain ⟨h0, h1, h2⟩ := h
  obtain ⟨k0, k1, k2⟩ := k
  have a := lt_of_sq r (s + 1) (by omega) (by omega)
  have b := lt_of_sq s (r + 1) (by omega) (by omega)
  omega

theorem sq_self (m : Int) (h : 0 ≤ m) : Sq m (m * m) := by
  have e := sq_expand m 1
  exact ⟨h, Int.le_refl _, by omega⟩

/-- a root of an int is below this. -/
theorem root_small (r n : Int) (h : r * r ≤ n) (hn : n ≤ 9223372036854775807) : r ≤ 3037000499 := by
  have := lt_of_sq r 3037000500 (by omega) (by omega)
  omega

theorem test_iff (x n : Int) (hx : 0 < x) : x ≤ n / x ↔ x * x ≤ n := Int.le_ediv_iff_mul_le hx

end Go.Proofs.YtagnjmellcibhaaGreatDoor.Ma

namespace Go.Proofs.YtagnjmellcibhaaGreatDoor
open Go.RowKit

set_option maxHeartbeats 400000 in
theorem root_neg (n : Int) (w : World) (h : n < 0) :
    Calls Tryz.prog 114 #[.int .i64 n] w fun e w' => e = .returned (.tuple #[.int .i64 0, .iface 75 (.int .i64 1)]) ∧ w' = w := by
  go_enter Tryz.func114, Tryz.ntmps114
  go_wp2
  go_ret2
  exact ⟨rfl, rfl⟩

theorem half_pw (k : Nat) : Ma.pw (k + 1) / 2 = Ma.pw k := by rw [Ma.pw_succ]; omega

set_option maxHeartbeats 400000 in
theorem root_any (n : Int) (w : World) (h0 : 0 ≤ n) (h1 : n ≤ 9223372036854775807) :
    Calls Tryz.prog 114 #[.int .i64 n] w fun e w' => ∃ r, Ma.Sq r n ∧ e = .returned (.tuple #[.int .i64 r, .nilIface]) ∧ w' = w := by
  go_enter Tryz.func114, Tryz.ntmps114
  go_wp2
  go_loop [4, 5] (fun root bit => ∃ (k : Nat) (r b : Int), k ≤ 32 ∧ root = .int .i64 r ∧ bit = .int .i64 b ∧ b = Ma.pw k / 2 ∧ 0 ≤ r ∧ r * r ≤ n ∧ n < (r + Ma.pw k) * (r + Ma.pw k)) (fun _ bit => (intOf bit).toNat)
  case atStart => exact ⟨32, 0, 2147483648, by omega, rfl, rfl, by rw [Ma.pw_32]; omega, by omega, by omega, by rw [Ma.pw_32]; omega⟩
  case round =>
    obtain ⟨k, r, b, hk, rfl, rfl, hb, hr, hl, hu⟩ := hrel
    by_cases hz : k = 0
    · subst hz
      have hb0 : b = 0 := by rw [hb, Ma.pw_zero]; omega
      subst hb0
      clear hb
      rw [Ma.pw_zero] at hu
      go_wp2
      go_ret2
      exact ⟨r, ⟨hr, hl, hu⟩, rfl, rfl⟩
    · obtain ⟨j, rfl⟩ : ∃ j, k = j + 1 := ⟨k - 1, by omega⟩
      have hp := Ma.pw_pos j
      have hq := Ma.pw_mono j 31 (by omega)
      have e31 : Ma.pw 31 = 2147483648 := by unfold Ma.pw; decide
      rw [e31] at hq
      clear e31
      rw [half_pw] at hb
      rw [Ma.pw_succ] at hu
      have hb1 : 0 < b := by omega
      have hb2 : b ≤ 2147483648 := by omega
      have hr2 := Ma.root_small r n hl h1
      have hsum : r + 2 * Ma.pw j = r + b + b := by omega
      rw [hsum] at hu
      clear hsum
      have Hb : Hid (b = Ma.pw j) := hb
      have HH : Hid (b / 2 = Ma.pw j / 2) := by rw [hb]; rfl
      clear hb hp hq
      have Hu : Hid (n < (r + b + b) * (r + b + b)) := hu
      have Hl : Hid (r * r ≤ n) := hl
      clear hu hl
      by_cases ht : r + b ≤ n / (r + b)
      · have Ht : Hid ((r + b) * (r + b) ≤ n) := (Ma.test_iff (r + b) n (by omega)).1 ht
        go_wp2
        go_round
        case rel => exact ⟨j, r + b, b / 2, by omega, rfl, rfl, HH, by omega, Ht, by rw [← Hb]; exact Hu⟩
        case measure => simp [intOf]; omega
      · have Ht : Hid (n < (r + b) * (r + b)) := by
          have := mt (Ma.test_iff (r + b) n (by omega)).2 ht
          unfold Hid; omega
        go_wp2
        go_round
        case rel => exact ⟨j, r, b / 2, by omega, rfl, rfl, HH, by omega, Hl, by rw [← Hb]; exact Ht⟩
        case measure => simp [intOf]; omega

end Go.Proofs.YtagnjmellcibhaaGreatDoor

namespace Go.Proofs.YtagnjmellcibhaaGreatDoor
open Go.RowKit

def In6 (x : Int) : Prop := -1000000 ≤ x ∧ x ≤ 1000000

section
variable (a b c d : Int) (w : World)
theorem idx0 : (Instr.index 157 (.agg #[.int .i64 a, .int .i64 b, .int .i64 c, .int .i64 d]) (.int .i64 0)).run Tryz.prog w = .ok (.int .i64 a) w := by kernel_rfl
theorem idx1 : (Instr.index 157 (.agg #[.int .i64 a, .int .i64 b, .int .i64 c, .int .i64 d]) (.int .i64 1)).run Tryz.prog w = .ok (.int .i64 b) w := by kernel_rfl
theorem idx2 : (Instr.index 157 (.agg #[.int .i64 a, .int .i64 b, .int .i64 c, .int .i64 d]) (.int .i64 2)).run Tryz.prog w = .ok (.int .i64 c) w := by kernel_rfl
theorem idx3 : (Instr.index 157 (.agg #[.int .i64 a, .int .i64 b, .int .i64 c, .int .i64 d]) (.int .i64 3)).run Tryz.prog w = .ok (.int .i64 d) w := by kernel_rfl
end

theorem sqb (x : Int) (h1 : -2000000 ≤ x) (h2 : x ≤ 2000000) : 0 ≤ x * x ∧ x * x ≤ 4000000000000 := by
  rcases Int.le_total 0 x with h | h
  · exact ⟨Int.mul_nonneg h h, Ma.mul_mono x 2000000 h h2⟩
  · have e : x * x = (-x) * (-x) := by rw [Int.neg_mul_neg]
    rw [e]
    exact ⟨Int.mul_nonneg (by omega) (by omega), Ma.mul_mono (-x) 2000000 (by omega) (by omega)⟩

set_option maxHeartbeats 400000 in
theorem far_ok (a b c d : Int) (w : World) (ha : In6 a) (hb : In6 b) (hc : In6 c) (hd : In6 d) :
    Calls Tryz.prog 97 #[.int .i64 a, .int .i64 b, .int .i64 c, .int .i64 d] w fun e w' => ∃ r, Ma.Sq r ((a - c) * (a - c) + (b - d) * (b - d)) ∧ e = .returned (.tuple #[.int .i64 r, .nilIface]) ∧ w' = w := by
  obtain ⟨ha1, ha2⟩ := ha
  obtain ⟨hb1, hb2⟩ := hb
  obtain ⟨hc1, hc2⟩ := hc
  obtain ⟨hd1, hd2⟩ := hd
  have i0 := idx0 a b c d
  have i1 := idx1 a b c d
  have i2 := idx2 a b c d
  have i3 := idx3 a b c d
  go_enter Tryz.func97, Tryz.ntmps97
  go_wp2
  go_loop [19] (fun i => ∃ k : Nat, k ≤ 4 ∧ i = .int .i64 k) (fun i => 4 - (intOf i).toNat)
  case atStart => exact ⟨0, by omega, rfl⟩
  case round =>
    obtain ⟨k, hk, rfl⟩ := hrel
    match k, hk with
    | 0, _ =>
      go_wp2_with (go_at_call 113; refine (within_yes _ _ _ (by omega) (by omega) (by omega) (by omega)).mono ?_; rintro e w' ⟨rfl, rfl⟩)
      go_round
      case rel => exact ⟨1, by omega, rfl⟩
      case measure => simp [intOf]
    | 1, _ =>
      go_wp2_with (go_at_call 113; refine (within_yes _ _ _ (by omega) (by omega) (by omega) (by omega)).mono ?_; rintro e w' ⟨rfl, rfl⟩)
      go_round
      case rel => exact ⟨2, by omega, rfl⟩
      case measure => simp [intOf]
    | 2, _ =>
      go_wp2_with (go_at_call 113; refine (within_yes _ _ _ (by omega) (by omega) (by omega) (by omega)).mono ?_; rintro e w' ⟨rfl, rfl⟩)
      go_round
      case rel => exact ⟨3, by omega, rfl⟩
      case measure => simp [intOf]
    | 3, _ =>
      go_wp2_with (go_at_call 113; refine (within_yes _ _ _ (by omega) (by omega) (by omega) (by omega)).mono ?_; rintro e w' ⟨rfl, rfl⟩)
      go_round
      case rel => exact ⟨4, by omega, rfl⟩
      case measure => simp [intOf]
    | 4, _ =>
      have s1 := sqb (a - c) (by omega) (by omega)
      have s2 := sqb (b - d) (by omega) (by omega)
      obtain ⟨s10, s11⟩ := s1
      obtain ⟨s20, s21⟩ := s2
      go_wp2_with (go_at_call 114; refine (root_any _ _ (by omega) (by omega)).mono ?_; rintro e w' ⟨r, hr, rfl, rfl⟩)
      go_ret2
      exact ⟨r, hr, rfl, rfl⟩

end Go.Proofs.YtagnjmellcibhaaGreatDoor

namespace Go.Proofs.YtagnjmellcibhaaGreatDoor
open Go.RowKit
set_option linter.unusedVariables false

/-- any. -/
theorem Ro.lit {w : World} {z : Nat} (xs : List Int) (cs : Array Value) (hc : cs.toList = xs.map (Value.int .i64)) (hl : xs.length ≤ 1000) (hz : w.heap.size = z) : Ro (w.alloc (.cells cs 3)) (.slice (some ⟨z, 0, none⟩) xs.length xs.length) xs := by
  subst hz
  refine ⟨_, xs.length, rfl, Nat.le_refl _, by omega, fun _ => ⟨_, rfl, by simp, fun i d hd => ?_⟩⟩
  rw [Addr.add_lit, Nat.zero_add]
  have hh := heap_alloc_new w (.cells cs 3)
  simp only [World.cell?, hh]
  rw [← Array.getElem?_toList, hc, List.getElem?_map, hd]
  rfl
end Go.Proofs.YtagnjmellcibhaaGreatDoor

namespace Go.Proofs.YtagnjmellcibhaaGreatDoor
open Go.RowKit
set_option linter.unusedVariables false

/-- up to which list they are there. -/
def nums1 (W : WV) : Nat → List Int
  | 0 => [W.turn, W.next, W.wide, W.high]
  | 1 => [W.turn, W.next, W.wide, W.high] ++ ((W.gs.length : Int) :: W.gs)
  | 2 => [W.turn, W.next, W.wide, W.high] ++ ((W.gs.length : Int) :: W.gs) ++ ((W.os.length : Int) :: W.os)
  | _ => [W.turn, W.next, W.wide, W.high] ++ ((W.gs.length : Int) :: W.gs) ++ ((W.os.length : Int) :: W.os) ++ ((W.gold.length : Int) :: W.gold)
def nums2 (W : WV) (k : Nat) : List Int := nums1 W 3 ++ ((W.us.length : Int) :: (W.us.take k).flatMap Wd.unums)
def nums3 (W : WV) (k : Nat) : List Int := nums2 W W.us.length ++ ((W.qs.length : Int) :: (W.qs.take k).flatMap Wd.jnums)
theorem nums3_all (W : WV) : nums3 W W.qs.length = Wd.nums W := by
  simp [nums3, nums2, nums1, Wd.nums]
structure WSmall (W : WV) : Prop where
  g : W.gs.length ≤ 1048576
  o : W.os.length ≤ 1048576
  p : W.gold.length ≤ 1048576
  u : W.us.length ≤ 1048576
  q : W.qs.length ≤ 1048576
theorem nums1_len {W : WV} (h : WSmall W) (k : Nat) : (nums1 W k).length ≤ 4000000 := by
  obtain ⟨h1, h2, h3, h4, h5⟩ := h
  match k with
  | 0 => simp [nums1]
  | 1 => simp [nums1]; omega
  | 2 => simp [nums1]; omega
  | _ + 3 => simp [nums1]; omega
theorem flat_len {α : Type} {f : α → List Int} {n : Nat} (hf : ∀ x, (f x).length = n) : ∀ l : List α, (l.flatMap f).length = n * l.length
  | [] => by simp
  | x :: l => by rw [List.flatMap_cons, List.length_append, flat_len hf l, hf, List.length_cons, Nat.mul_add]; omega
theorem nums2_len {W : WV} (h : WSmall W) (k : Nat) : (nums2 W k).length ≤ 13000000 := by
  have h1 := nums1_len h 3
  have h2 := h.u
  unfold nums2
  rw [List.length_append, List.length_cons, flat_len (n := 8) (fun x => rfl), List.length_take]
  omega
theorem nums3_len {W : WV} (h : WSmall W) (k : Nat) : (nums3 W k).length ≤ 18000000 := by
  have h1 := nums2_len h W.us.length
  have h2 := h.q
  unfold nums3
  rw [List.length_append, List.length_cons, flat_len (n := 4) (fun x => rfl), List.length_take]
  omega
theorem nums2_next {W : WV} {k : Nat} {u : UnV} (h : W.us[k]? = some u) : nums2 W (k + 1) = nums2 W k ++ Wd.unums u := by
  obtain ⟨hi, e⟩ := List.getElem?_eq_some_iff.1 h
  unfold nums2
  rw [List.take_succ_eq_append_getElem hi, List.flatMap_append, e]
  simp
theorem nums3_next {W : WV} {k : Nat} {u : JbV} (h : W.qs[k]? = some u) : nums3 W (k + 1) = nums3 W k ++ Wd.jnums u := by
  obtain ⟨hi, e⟩ := List.getElem?_eq_some_iff.1 h
  unfold nums3
  rw [List.take_succ_eq_append_getElem hi, List.flatMap_append, e]
  simp
theorem Bw.grown {w w' : World} {z : Nat} {W : WV} {u1 u2 u3 u4 u5 : Value} {row : Option Nat} (h : Bw w z W u1 u2 u3 u4 u5) (hg : w.grownBy w' row) (hr : ∀ k, row = some k → z < k) : Bw w' z W u1 u2 u3 u4 u5 :=
  h.below (n := z + 1) ((Below.refl _ _).grown hg h.lt (fun k hk => hr k hk)) (Nat.lt_succ_self _)
theorem cell_of_new {w : World} {z i : Nat} {cs : Array Value} {T : TypeId} {v : Value} (hz : w.heap.size = z) (hv : cs[i]? = some v) : (w.alloc (.cells cs T)).cell? ⟨z, i, none⟩ = some v := by
  subst hz
  simp only [World.cell?, heap_alloc_new]
  simpa using hv
/-- what is there as long as lists are written. -/
structure Nm1 (w : World) (W : WV) (u1 u2 u3 u4 u5 : Value) (zl : Nat) (lv : Value) (l : List Int) (W' : World) : Prop where
  o : Ow W' (w.heap.size + 2) lv l
  ne : lv.ownBlock ≠ some zl
  b : Bw W' w.heap.size W u1 u2 u3 u4 u5
  c0 : W'.cell? ⟨zl, 0, none⟩ = some u1
  c1 : W'.cell? ⟨zl, 1, none⟩ = some u2
  c2 : W'.cell? ⟨zl, 2, none⟩ = some u3
  bl : Below w.heap.size w W'
theorem Nm1.step {w : World} {W : WV} {u1 u2 u3 u4 u5 : Value} {zl : Nat} {lv lv' : Value} {l l' : List Int} {W' W'' X : World} (h : Nm1 w W u1 u2 u3 u4 u5 zl lv l W') (hX1 : Below W'.heap.size W' X) (hg : X.grownBy W'' lv.ownBlock) (ho : Ow W'' (w.heap.size + 2) lv' l') (hb : lv'.ownBlock = lv.ownBlock ∨ lv'.ownBlock = some X.heap.size) : Nm1 w W u1 u2 u3 u4 u5 zl lv' l' W'' := by
  have hzl : zl < W'.heap.size := cell_lt h.c0
  have hXs := hX1.size
  have hob : ∀ k, lv.ownBlock = some k → w.heap.size + 2 ≤ k := fun k hk => (h.o.block k hk).1
  have far : ∀ p : Addr, p.block < W'.heap.size → some p.block ≠ lv.ownBlock → W''.cell? p = W'.cell? p := fun p hp hne => by
    rw [hg.cell_far p (by omega) hne, hX1.cell hp]
  have lz := h.b.lt
  have bw : Below w.heap.size w W'' := (h.bl.trans (hX1.mono (by omega))).grown hg (by omega) (fun k hk => by have := hob k hk; omega)
  refine ⟨ho, ?_, (h.b.below hX1 h.b.lt).grown hg (fun k hk => by have := hob k hk; omega), ?_, ?_, ?_, bw⟩
  · rcases hb with hb | hb
    · rw [hb]; exact h.ne
    · rw [hb]; intro e; injection e with e; omega
  · rw [far ⟨zl, 0, none⟩ hzl (fun e => h.ne e.symm)]; exact h.c0
  · rw [far ⟨zl, 1, none⟩ hzl (fun e => h.ne e.symm)]; exact h.c1
  · rw [far ⟨zl, 2, none⟩ hzl (fun e => h.ne e.symm)]; exact h.c2
theorem own_is {v : Value} {g n cap z : Nat} (h : v.ownBlock = some g ∨ g = z) : (Value.slice (some ⟨g, 0, none⟩) n cap).ownBlock = v.ownBlock ∨ (Value.slice (some ⟨g, 0, none⟩) n cap).ownBlock = some z := by
  rcases h with h | h
  · exact .inl (by rw [h]; rfl)
  · exact .inr (by rw [h]; rfl)
theorem Wl.slices {w : World} {W : WV} {u1 u2 u3 u4 u5 : Value} (h : Wl w (.agg #[.int .i64 W.turn, .int .i64 W.next, .int .i64 W.wide, .int .i64 W.high, u1, u2, u3, u4, u5]) W) : Ro w u1 W.gs ∧ Ro w u2 W.os ∧ Ro w u3 W.gold ∧ Unl w u4 W.us ∧ Jbl w u5 W.qs := by
  obtain ⟨v1, v2, v3, v4, v5, ev, r⟩ := h
  simp only [Value.agg.injEq, Array.mk.injEq, List.cons.injEq, and_true, true_and] at ev
  obtain ⟨rfl, rfl, rfl, rfl, rfl⟩ := ev
  exact r
end Go.Proofs.YtagnjmellcibhaaGreatDoor

namespace Go.Proofs.YtagnjmellcibhaaGreatDoor
open Go.RowKit
set_option linter.unusedVariables false

theorem wwithin_any (x lo hi : Int) (w : World) : Calls Tryz.prog 87 #[.int .i64 x, .int .i64 lo, .int .i64 hi] w fun e w' => e = .returned (.bool (decide (lo ≤ x ∧ x ≤ hi))) ∧ w' = w := by
  by_cases h1 : lo ≤ x
  · by_cases h2 : x ≤ hi
    · go_enter Tryz.func87, Tryz.ntmps87
      go_wp2
      go_ret
      refine ⟨?_, rfl⟩
      rw [decide_eq_true ⟨h1, h2⟩]
      rfl
    · go_enter Tryz.func87, Tryz.ntmps87
      go_wp2
      go_ret
      refine ⟨?_, rfl⟩
      rw [decide_eq_false (by omega)]
      rfl
  · go_enter Tryz.func87, Tryz.ntmps87
    go_wp2
    go_ret
    refine ⟨?_, rfl⟩
    rw [decide_eq_false (by omega)]
    rfl
end Go.Proofs.YtagnjmellcibhaaGreatDoor

namespace Go.Proofs.YtagnjmellcibhaaGreatDoor
open Go.RowKit
set_option linter.unusedVariables false

theorem any_next {p : Int → Bool} {xs : List Int} {k : Nat} (h : k < xs.length) : (xs.take (k + 1)).any p = ((xs.take k).any p || p xs[k]) := by
  rw [List.take_succ_eq_append_getElem h, List.any_append]
  simp

/-- r is where the first is; -1: there is none. -/
def Fst (p : Int → Bool) (xs : List Int) (r : Int) : Prop := (r = -1 ∧ xs.any p = false) ∨ ∃ (k : Nat) (x : Int), r = k ∧ xs[k]? = some x ∧ p x = true ∧ (xs.take k).any p = false

set_option maxHeartbeats 1000000 in
theorem idxf_any (K : Nat) (eK : ∀ args w, (callFunc K args).run Tryz.prog w = .ok (.enter K args) w) (u : Value) (cs : Array Value) (xs : List Int) (p : Int → Bool) (w : World) (hu : Ro w u xs)
    (hp : ∀ m, ∀ x ∈ xs, Calls Tryz.prog K (#[.int .i64 x] ++ cs) (w.drewN m) fun e w' => e = .returned (.bool (p x)) ∧ ∃ q, w' = w.drewN q) :
    Calls Tryz.prog 108 #[u, .func (Fn.func K) #[] cs] w fun e w' => ∃ r : Int, e = .returned (.int .i64 r) ∧ Fst p xs r ∧ ∃ q, w' = w.drewN q := by
  obtain ⟨a, c, rfl, c1, c2, ca⟩ := hu
  have Ca : Hid (Cells w a xs) := ca
  have Hp : Hid (∀ m, ∀ x ∈ xs, Calls Tryz.prog K (#[.int .i64 x] ++ cs) (w.drewN m) fun e w' => e = .returned (.bool (p x)) ∧ ∃ q, w' = w.drewN q) := hp
  clear ca hp
  go_enter Tryz.func108, Tryz.ntmps108
  go_wp2
  go_loopw [8] (fun i W' => ∃ k q : Nat, k ≤ xs.length ∧ i = .int .i64 (k : Nat) ∧ (xs.take k).any p = false ∧ W' = w.drewN q) (fun i _ => xs.length - (intOf i).toNat)
  case atStart => exact ⟨0, 0, Nat.zero_le _, rfl, by simp, rfl⟩
  case round =>
    obtain ⟨k, q, hk, rfl, ht, rfl⟩ := hrel
    have Ht : Hid ((xs.take k).any p = false) := ht
    clear ht
    by_cases h0 : k = xs.length
    · subst h0
      go_wp2
      go_ret
      refine ⟨_, rfl, .inl ⟨rfl, ?_⟩, _, rfl⟩
      have := Ht.out
      rw [List.take_of_length_le (Nat.le_refl _)] at this
      exact this
    · have hkx : k < xs.length := by omega
      obtain ⟨x, rfl, -, hx⟩ := Ca.out (by intro h; rw [h] at hkx; simp at hkx)
      have cx : (w.drewN q).cell? (x.add k) = some (.int .i64 xs[k]) := hx k xs[k] (List.getElem?_eq_getElem hkx)
      have hc := Hp.out q xs[k] (List.getElem_mem hkx)
      have Hs : Hid _ := any_next (p := p) hkx
      have Hm : Hid (xs[k]? = some xs[k]) := List.getElem?_eq_getElem hkx
      generalize xs[k] = y at *
      generalize w.drewN q = w1 at *
      clear hx
      cases hy : p y with
      | true =>
        rw [hy] at hc
        have Hc : Hid (Calls Tryz.prog K (#[.int .i64 y] ++ cs) w1 fun e w' => e = .returned (.bool true) ∧ ∃ q, w' = w.drewN q) := hc
        have Hy : Hid (p y = true) := hy
        clear hc hy
        go_wp2_with fail
        refine Calls.mono Hc.out ?_
        rintro e w1 ⟨rfl, q1, rfl⟩
        go_wp2
        go_ret
        exact ⟨_, rfl, .inr ⟨k, y, rfl, Hm, Hy, Ht⟩, q1, rfl⟩
      | false =>
        rw [hy] at hc
        have Hc : Hid (Calls Tryz.prog K (#[.int .i64 y] ++ cs) w1 fun e w' => e = .returned (.bool false) ∧ ∃ q, w' = w.drewN q) := hc
        have Hy : Hid (p y = false) := hy
        clear hc hy
        go_wp2_with fail
        refine Calls.mono Hc.out ?_
        rintro e w1 ⟨rfl, q1, rfl⟩
        go_wp2
        go_round
        case rel => exact ⟨k + 1, q1, by omega, by go_num, by have := Hs.out; rw [Ht.out, Hy.out] at this; exact this, rfl⟩
        case measure => simp [intOf]; omega

theorem Fst.has {p : Int → Bool} {xs : List Int} {r : Int} (h : Fst p xs r) : decide (0 ≤ r) = xs.any p := by
  rcases h with ⟨rfl, h⟩ | ⟨k, x, rfl, h1, h2, _⟩
  · rw [h]; decide
  · rw [decide_eq_true (by omega)]
    exact (List.any_eq_true.2 ⟨x, List.mem_of_getElem? h1, h2⟩).symm

set_option maxHeartbeats 1000000 in
theorem hasf_any (K : Nat) (eK : ∀ args w, (callFunc K args).run Tryz.prog w = .ok (.enter K args) w) (u : Value) (cs : Array Value) (xs : List Int) (p : Int → Bool) (w : World) (hu : Ro w u xs)
    (hp : ∀ m, ∀ x ∈ xs, Calls Tryz.prog K (#[.int .i64 x] ++ cs) (w.drewN m) fun e w' => e = .returned (.bool (p x)) ∧ ∃ q, w' = w.drewN q) :
    Calls Tryz.prog 88 #[u, .func (Fn.func K) #[] cs] w fun e w' => e = .returned (.bool (xs.any p)) ∧ ∃ q, w' = w.drewN q := by
  have H := idxf_any K eK u cs xs p w hu hp
  have H' : Hid (Calls Tryz.prog 108 #[u, .func (Fn.func K) #[] cs] w fun e w' => ∃ r : Int, e = .returned (.int .i64 r) ∧ Fst p xs r ∧ ∃ q, w' = w.drewN q) := H
  clear H hp
  go_enter Tryz.func88, Tryz.ntmps88
  go_wp2_with fail
  refine Calls.mono H'.out ?_
  rintro e w1 ⟨r, rfl, hr, q, rfl⟩
  have Hr : Hid (decide (0 ≤ r) = xs.any p) := hr.has
  clear hr
  go_wp2
  go_ret
  exact ⟨by show Ending.returned (.bool (decide (0 ≤ r))) = _; rw [Hr.out], q, rfl⟩
end Go.Proofs.YtagnjmellcibhaaGreatDoor

namespace Go.Proofs.YtagnjmellcibhaaGreatDoor
open Go.RowKit
set_option linter.unusedVariables false

theorem FstU.one {p : UnV → Bool} {us : List UnV} {r r' : Int} (h : FstU p us r) (h' : FstU p us r') : r = r' := by
  rcases h with ⟨rfl, h1⟩ | ⟨k, x, rfl, h1, h2, h3⟩
  · rcases h' with ⟨rfl, _⟩ | ⟨k, x, rfl, g1, g2, g3⟩
    · rfl
    · have : us.any p = true := List.any_eq_true.2 ⟨x, List.mem_of_getElem? g1, g2⟩
      rw [h1] at this; cases this
  · rcases h' with ⟨rfl, g⟩ | ⟨k', x', rfl, g1, g2, g3⟩
    · have : us.any p = true := List.any_eq_true.2 ⟨x, List.mem_of_getElem? h1, h2⟩
      rw [g] at this; cases this
    · rcases Nat.lt_trichotomy k k' with hl | hl | hl
      · have : (us.take k').any p = true := List.any_eq_true.2 ⟨x, List.mem_of_getElem? (by rw [List.getElem?_take, if_pos hl]; exact h1), h2⟩
        rw [g3] at this; cases this
      · rw [hl]
      · have : (us.take k).any p = true := List.any_eq_true.2 ⟨x', List.mem_of_getElem? (by rw [List.getElem?_take, if_pos hl]; exact g1), g2⟩
        rw [h3] at this; cases this
set_option maxHeartbeats 1000000 in
theorem fid_any (u : UnV) (id : Int) (b : Nat) (w : World) (hc : w.cell? ⟨b, 0, none⟩ = some (.int .i64 id)) :
    Calls Tryz.prog 62 #[u.val, .pointer (some ⟨b, 0, none⟩)] w fun e w' => e = .returned (.bool (u.id == id)) ∧ Below w.heap.size w w' := by
  have hb : b < w.heap.size := cell_lt hc
  have hne : b ≠ w.heap.size := by omega
  unfold UnV.val
  go_enter Tryz.func62, Tryz.ntmps62
  go_wp2
  go_ret
  exact ⟨rfl, (Below.refl _ _).alloc (Nat.le_refl _) _⟩
set_option maxHeartbeats 1000000 in
theorem wfind_any (v : Value) (W : WV) (id : Int) (w : World) (h : Wl w v W) :
    Calls Tryz.prog 37 #[v, .int .i64 id] w fun e w' => ∃ r : Int, e = .returned (.int .i64 r) ∧ FstU (fun u => u.id == id) W.us r ∧ Below w.heap.size w w' := by
  have H : Hid (Wl w v W) := h
  obtain ⟨u1, u2, u3, u4, u5, rfl, -, -, -, h4, -⟩ := h
  have U : Hid (Unl w u4 W.us) := h4
  clear h4
  go_enter Tryz.func37, Tryz.ntmps37
  go_wp2_with fail
  have B0 : Hid (Below w.heap.size w ((w.alloc (Obj.cells #[.int .i64 W.turn, .int .i64 W.next, .int .i64 W.wide, .int .i64 W.high, u1, u2, u3, u4, u5] 29)).alloc (Obj.cells #[.int .i64 id] 3))) := ((Below.refl _ _).alloc (Nat.le_refl _) _).alloc (by simp) _
  have C0 : Hid (((w.alloc (Obj.cells #[.int .i64 W.turn, .int .i64 W.next, .int .i64 W.wide, .int .i64 W.high, u1, u2, u3, u4, u5] 29)).alloc (Obj.cells #[.int .i64 id] 3)).cell? ⟨w.heap.size + 1, 0, none⟩ = some (.int .i64 id)) := cell_of_new (by simp) rfl
  generalize ((w.alloc (Obj.cells #[.int .i64 W.turn, .int .i64 W.next, .int .i64 W.wide, .int .i64 W.high, u1, u2, u3, u4, u5] 29)).alloc (Obj.cells #[.int .i64 id] 3)) = w0 at *
  refine (idxu_any 62 (by intro args w; go_simp) u4 #[.pointer (some ⟨w.heap.size + 1, 0, none⟩)] W.us (fun u => u.id == id) w0 (U.out.below B0.out) (fun V hV k => fid_any k id (w.heap.size + 1) V (by rw [hV.cell (p := ⟨w.heap.size + 1, 0, none⟩) (cell_lt C0.out)]; exact C0.out))).mono ?_
  rintro e w1 ⟨r, rfl, hf, hb⟩
  have F : Hid (FstU (fun u => u.id == id) W.us r ∧ Below w.heap.size w w1) := ⟨hf, B0.out.trans (hb.mono B0.out.size)⟩
  clear hf hb
  go_wp2
  go_ret
  exact ⟨r, rfl, F.out.1, F.out.2⟩
set_option maxHeartbeats 1000000 in
theorem isone_ints (a : Option Addr) (n c : Nat) (i : Int) (w : World) (hn : n ≤ 9223372036854775807) :
    Calls Tryz.prog 89 #[.slice a n c, .int .i64 i] w fun e w' => e = .returned (.bool (decide (0 ≤ i ∧ i < (n : Int)))) ∧ w' = w := by
  have hw : IntKind.i64.wrap ((n : Int) - 1) = (n : Int) - 1 := by rw [IntKind.wrap_i64]; omega
  go_enter Tryz.func89, Tryz.ntmps89
  go_wp2_with fail
  refine (wwithin_any i 0 ((n : Int) - 1) w).mono ?_
  rintro e w1 ⟨rfl, rfl⟩
  have E : decide (0 ≤ i ∧ i ≤ (n : Int) - 1) = decide (0 ≤ i ∧ i < (n : Int)) := decide_eq_decide.2 ⟨fun h => by omega, fun h => by omega⟩
  rw [E]
  obtain ⟨b, hb⟩ : ∃ b, decide (0 ≤ i ∧ i < (n : Int)) = b := ⟨_, rfl⟩
  rw [hb]
  have HB : Hid (decide (0 ≤ i ∧ i < (n : Int)) = b) := hb
  clear hb E
  go_wp2
  go_ret
  exact ⟨by rw [HB.out]; rfl, rfl⟩
set_option maxHeartbeats 1000000 in
theorem isone_kinds (a : Option Addr) (n c : Nat) (i : Int) (w : World) (hn : n ≤ 9223372036854775807) :
    Calls Tryz.prog 90 #[.slice a n c, .int .i64 i] w fun e w' => e = .returned (.bool (decide (0 ≤ i ∧ i < (n : Int)))) ∧ w' = w := by
  have hw : IntKind.i64.wrap ((n : Int) - 1) = (n : Int) - 1 := by rw [IntKind.wrap_i64]; omega
  go_enter Tryz.func90, Tryz.ntmps90
  go_wp2_with fail
  refine (wwithin_any i 0 ((n : Int) - 1) w).mono ?_
  rintro e w1 ⟨rfl, rfl⟩
  have E : decide (0 ≤ i ∧ i ≤ (n : Int) - 1) = decide (0 ≤ i ∧ i < (n : Int)) := decide_eq_decide.2 ⟨fun h => by omega, fun h => by omega⟩
  rw [E]
  obtain ⟨b, hb⟩ : ∃ b, decide (0 ≤ i ∧ i < (n : Int)) = b := ⟨_, rfl⟩
  rw [hb]
  have HB : Hid (decide (0 ≤ i ∧ i < (n : Int)) = b) := hb
  clear hb E
  go_wp2
  go_ret
  exact ⟨by rw [HB.out]; rfl, rfl⟩
end Go.Proofs.YtagnjmellcibhaaGreatDoor

namespace Go.Proofs.YtagnjmellcibhaaGreatDoor.Tx

/-- a text at each byte c. -/
def cut (c : UInt8) : List UInt8 → List (List UInt8)
  | [] => [[]]
  | b :: r => if b = c then [] :: cut c r else match cut c r with
    | [] => [[b]]
    | w :: ws => (b :: w) :: ws
/-- and back. -/
def join (c : UInt8) : List (List UInt8) → List UInt8
  | [] => []
  | [w] => w
  | w :: v :: ws => w ++ c :: join c (v :: ws)

theorem cut_ne (c : UInt8) (l : List UInt8) : cut c l ≠ [] := by
  cases l with
  | nil => simp [cut]
  | cons b r =>
    unfold cut
    split
    · simp
    · split <;> simp
theorem join_cons {c : UInt8} {w : List UInt8} {ws : List (List UInt8)} (h : ws ≠ []) : join c (w :: ws) = w ++ c :: join c ws := by
  cases ws with
  | nil => exact absurd rfl h
  | cons v ws => rfl
theorem join_cut (c : UInt8) (l : List UInt8) : join c (cut c l) = l := by
  induction l with
  | nil => rfl
  | cons b r ih =>
    unfold cut
    split
    · rename_i h
      rw [join_cons (cut_ne c r), ih, h]
      rfl
    · cases hw : cut c r with
      | nil => exact absurd hw (cut_ne c r)
      | cons w ws =>
        rw [hw] at ih
        cases ws with
        | nil => rw [← ih]; rfl
        | cons v ws => rw [← ih]; rfl
/-- no word has the byte. -/
theorem cut_free (c : UInt8) (l : List UInt8) : ∀ w ∈ cut c l, c ∉ w := by
  induction l with
  | nil => intro w hw; simp [cut] at hw; subst hw; simp
  | cons b r ih =>
    intro w hw
    unfold cut at hw
    split at hw
    · rcases List.mem_cons.1 hw with rfl | hw
      · simp
      · exact ih w hw
    · rename_i hb
      cases hc : cut c r with
      | nil => exact absurd hc (cut_ne c r)
      | cons v vs =>
        rw [hc] at hw ih
        rcases List.mem_cons.1 hw with rfl | hw
        · intro h
          rcases List.mem_cons.1 h with h | h
          · exact hb h.symm
          · exact ih v (List.mem_cons_self ..) h
        · exact ih w (List.mem_cons_of_mem _ hw)
theorem cut_cons {c b : UInt8} {r w : List UInt8} {ws : List (List UInt8)} (h : b ≠ c) (hr : cut c r = w :: ws) : cut c (b :: r) = (b :: w) :: ws := by
  rw [cut, if_neg h, hr]
theorem cut_word {c : UInt8} {w : List UInt8} (h : c ∉ w) : cut c w = [w] := by
  induction w with
  | nil => rfl
  | cons b w ih =>
    rw [List.mem_cons, not_or] at h
    unfold cut
    rw [if_neg (fun e => h.1 e.symm), ih h.2]
theorem cut_app {c : UInt8} {w : List UInt8} (h : c ∉ w) (r : List UInt8) : cut c (w ++ c :: r) = w :: cut c r := by
  induction w with
  | nil => simp [cut]
  | cons b w ih =>
    rw [List.mem_cons, not_or] at h
    rw [List.cons_append, cut_cons (fun e => h.1 e.symm) (ih h.2)]
theorem cut_join {c : UInt8} : ∀ {ws : List (List UInt8)}, ws ≠ [] → (∀ w ∈ ws, c ∉ w) → cut c (join c ws) = ws
  | [], h, _ => absurd rfl h
  | [w], _, h => cut_word (h w (List.mem_cons_self ..))
  | w :: v :: ws, _, h => by
    rw [join_cons (by simp), cut_app (h w (List.mem_cons_self ..)), cut_join (by simp) (fun x hx => h x (List.mem_cons_of_mem _ hx))]

/-- a digit. -/
def isDig (b : UInt8) : Bool := decide (48 ≤ b.toNat) && decide (b.toNat ≤ 57)
/-- the digits of a number. -/
def dig (n : Nat) : List UInt8 := if n < 10 then [(48 + n).toUInt8] else dig (n / 10) ++ [(48 + n % 10).toUInt8]
termination_by n
/-- the number of some digits. -/
def val (l : List UInt8) : Nat := l.foldl (fun n b => n * 10 + (b.toNat - 48)) 0
/-- a whole number of at most so many digits, without a needless 0. -/
def whole (most : Nat) (l : List UInt8) : Option Nat := if l = [] ∨ most < l.length ∨ (l.head? = some 48 ∧ 1 < l.length) then none else if l.all isDig then some (val l) else none

theorem dig_small {n : Nat} (h : n < 10) : dig n = [(48 + n).toUInt8] := by rw [dig, if_pos h]
theorem dig_big {n : Nat} (h : ¬ n < 10) : dig n = dig (n / 10) ++ [(48 + n % 10).toUInt8] := by rw [dig, if_neg h]
theorem sign_nat {d : Nat} (h : d < 10) : ((48 + d).toUInt8).toNat = 48 + d := by
  show (48 + d) % 256 = 48 + d
  omega
theorem val_snoc (l : List UInt8) (b : UInt8) : val (l ++ [b]) = val l * 10 + (b.toNat - 48) := by
  unfold val
  rw [List.foldl_append]
  rfl
theorem dig_ne (n : Nat) : dig n ≠ [] := by
  rw [dig]
  split <;> simp
theorem dig_all (n : Nat) : (dig n).all isDig = true := by
  induction n using Nat.strongRecOn with
  | ind n ih =>
    by_cases h : n < 10
    · rw [dig_small h]
      simp [isDig]
      omega
    · rw [dig_big h, List.all_append, ih (n / 10) (by omega)]
      simp [isDig]
      omega
theorem val_dig (n : Nat) : val (dig n) = n := by
  induction n using Nat.strongRecOn with
  | ind n ih =>
    by_cases h : n < 10
    · rw [dig_small h]
      show 0 * 10 + (((48 + n).toUInt8).toNat - 48) = n
      rw [sign_nat h]
      omega
    · rw [dig_big h, val_snoc, ih (n / 10) (by omega), sign_nat (show n % 10 < 10 by omega)]
      omega
theorem dig_head (n : Nat) : (dig n).head? = some 48 → n = 0 := by
  induction n using Nat.strongRecOn with
  | ind n ih =>
    intro h
    by_cases hn : n < 10
    · rw [dig_small hn] at h
      simp only [List.head?_cons, Option.some.injEq] at h
      have h2 : ((48 + n).toUInt8).toNat = 48 := by rw [h]; rfl
      rw [sign_nat hn] at h2
      omega
    · rw [dig_big hn] at h
      cases hd : dig (n / 10) with
      | nil => exact absurd hd (dig_ne _)
      | cons b r =>
        rw [hd] at h
        have := ih (n / 10) (by omega) (by rw [hd]; simpa using h)
        omega
theorem dig_len {n : Nat} : ∀ {k : Nat}, 0 < k → n < 10 ^ k → (dig n).length ≤ k := by
  induction n using Nat.strongRecOn with
  | ind n ih =>
    intro k hk h
    by_cases hn : n < 10
    · rw [dig_small hn]
      simp
      omega
    · rw [dig_big hn, List.length_append]
      cases k with
      | zero => omega
      | succ k =>
        have hk0 : 0 < k := by
          rcases Nat.eq_zero_or_pos k with rfl | hp
          · simp at h; omega
          · exact hp
        have h2 : n / 10 < 10 ^ k := by
          rw [Nat.pow_succ] at h
          omega
        have := ih (n / 10) (by omega) hk0 h2
        simp
        omega
theorem whole_dig {n most : Nat} (h0 : 0 < most) (h : n < 10 ^ most) : whole most (dig n) = some n := by
  unfold whole
  rw [if_neg, if_pos (dig_all n), val_dig]
  rintro (h1 | h1 | ⟨h1, h2⟩)
  · exact dig_ne n h1
  · have := dig_len h0 h
    omega
  · have := dig_head n h1
    subst this
    rw [dig_small (by decide)] at h2
    simp at h2
theorem dig_val : ∀ (k : Nat) (l : List UInt8), l.length = k → l ≠ [] → ¬ (l.head? = some 48 ∧ 1 < l.length) → l.all isDig = true → dig (val l) = l := by
  intro k
  induction k with
  | zero => intro l h1 h2; exact absurd (List.length_eq_zero_iff.1 h1) h2
  | succ k ih =>
    intro l hl hne hz hd
    obtain ⟨r, b, rfl⟩ : ∃ r b, l = r ++ [b] := ⟨l.dropLast, l.getLast hne, (List.dropLast_concat_getLast hne).symm⟩
    have hb : isDig b = true := by
      rw [List.all_append] at hd
      simp at hd
      exact hd.2
    have hbn : 48 ≤ b.toNat ∧ b.toNat ≤ 57 := by
      unfold isDig at hb
      simpa using hb
    have back : ((48 + (b.toNat - 48)).toUInt8) = b := by
      rw [show 48 + (b.toNat - 48) = b.toNat by omega]
      simp
    rw [val_snoc]
    by_cases hr : r = []
    · subst hr
      rw [show val [] = 0 from rfl, Nat.zero_mul, Nat.zero_add, dig_small (by omega), back]
      rfl
    · have hrd : r.all isDig = true := by
        rw [List.all_append] at hd
        simp at hd
        rw [List.all_eq_true]
        exact hd.1
      have hrl : r.length = k := by simpa using hl
      have hhead : (r ++ [b]).head? = r.head? := by
        cases r with
        | nil => exact absurd rfl hr
        | cons a r => rfl
      have hr0 : 0 < r.length := List.length_pos_iff.2 hr
      have hz' : ¬ r.head? = some 48 := fun h => hz ⟨by rw [hhead]; exact h, by simp; omega⟩
      have hi := ih r hrl hr (fun h => hz' h.1) hrd
      have hv : val r ≠ 0 := by
        intro h
        rw [h, dig_small (by decide)] at hi
        rw [← hi] at hz'
        exact hz' rfl
      have e : (val r * 10 + (b.toNat - 48)) / 10 = val r := by omega
      have e2 : (val r * 10 + (b.toNat - 48)) % 10 = b.toNat - 48 := by omega
      rw [dig_big (by omega), e, e2, hi, back]
theorem dig_whole {most n : Nat} {l : List UInt8} (h : whole most l = some n) : dig n = l := by
  unfold whole at h
  split at h
  · cases h
  · rename_i hc
    rw [not_or, not_or] at hc
    split at h
    · rename_i hd
      injection h with h
      rw [← h]
      exact dig_val l.length l rfl hc.1 hc.2.2 hd
    · cases h
theorem whole_lt {most n : Nat} {l : List UInt8} (h : whole most l = some n) : l.length ≤ most := by
  unfold whole at h
  split at h
  · cases h
  · rename_i hc
    rw [not_or, not_or] at hc
    omega
theorem whole_ne {most n : Nat} {l : List UInt8} (h : whole most l = some n) : l ≠ [] := by
  rintro rfl
  simp [whole] at h
/-- digits are no blank and no end of a line. -/
theorem dig_free (n : Nat) (c : UInt8) (h : c.toNat < 48) : c ∉ dig n := by
  intro hm
  have := List.all_eq_true.1 (dig_all n) c hm
  unfold isDig at this
  simp at this
  omega
end Go.Proofs.YtagnjmellcibhaaGreatDoor.Tx

namespace Go.Proofs.YtagnjmellcibhaaGreatDoor.Kd
open Tx

/-- a kind: Life, Hit, Range, Sight, Speed, Price, Turns, Carry are its numbers. -/
structure K where
  name : List UInt8
  nums : List Int
  flies : Bool
  trains : Bool

def isLetter (b : UInt8) : Bool := decide (97 ≤ b.toNat) && decide (b.toNat ≤ 122)
def nameOk (l : List UInt8) : Bool := !l.isEmpty && (decide (l.length ≤ 8) && l.all isLetter)
def numsFault (ns : List Int) : Int := if ns.any (fun x => decide (x < 0 ∨ 1000 < x)) then 1 else if ns.getD 0 0 < 1 ∨ 4 < ns.getD 4 0 ∨ 12 < ns.getD 2 0 ∨ 12 < ns.getD 3 0 then 1 else 0
/-- what is wrong with one, those ahead being right. -/
def kindFault (ahead : List K) (k : K) : Int := if nameOk k.name then (if ahead.any (fun a => a.name == k.name) then 8 else numsFault k.nums) else 2
def kindsGo (ahead : List K) : List K → Int
  | [] => 0
  | k :: r => if kindFault ahead k = 0 then kindsGo (ahead ++ [k]) r else kindFault ahead k
/-- what is wrong with some. -/
def kindsFault (l : List K) : Int := if 8 < l.length then 4 else kindsGo [] l

def flag (b : Bool) (c : UInt8) : List UInt8 := if b then [c] else [45]
def words (k : K) : List (List UInt8) := k.name :: ((k.nums.map fun n => dig n.toNat) ++ [flag k.flies 102, flag k.trains 116])
def kline (k : K) : List UInt8 := join 32 (words k)
def prt (l : List K) : List UInt8 := l.flatMap fun k => kline k ++ [10]

def unflag (c : UInt8) (w : List UInt8) : Option Bool := if w = [c] then some true else if w = [45] then some false else none
def wholes : List (List UInt8) → Option (List Int)
  | [] => some []
  | w :: r => match whole 4 w, wholes r with
    | some n, some ns => some ((n : Int) :: ns)
    | _, _ => none
/-- the kind of a line's words. -/
def kwords (ws : List (List UInt8)) : Option K := if ws.length = 11 then
    match wholes ((ws.drop 1).take 8), unflag 102 (ws.getD 9 []), unflag 116 (ws.getD 10 []) with
    | some ns, some f, some t => some ⟨ws.getD 0 [], ns, f, t⟩
    | _, _, _ => none
  else none
/-- the kinds of some lines; else the line, and the fault. -/
def kparse (acc : List K) : List (List UInt8) → (Nat × Int) ⊕ List K
  | [] => .inr acc
  | [w] => if w = [] then .inr acc else .inl (acc.length, 2)
  | w :: v :: r => match kwords (cut 32 w) with
    | none => .inl (acc.length, 2)
    | some k => if acc.length = 8 then .inl (acc.length, 4) else if kindFault acc k = 0 then kparse (acc ++ [k]) (v :: r) else .inl (acc.length, kindFault acc k)
def parse (s : List UInt8) : (Nat × Int) ⊕ List K := kparse [] (cut 10 s)

/-- the form of a kind whose numbers can be told. -/
structure Fit (k : K) : Prop where
  len : k.nums.length = 8
  low : ∀ n ∈ k.nums, 0 ≤ n ∧ n < 10000

theorem fault_fit {ahead : List K} {k : K} (h : kindFault ahead k = 0) (hl : k.nums.length = 8) : Fit k ∧ nameOk k.name = true := by
  unfold kindFault at h
  split at h
  · rename_i hn
    split at h
    · omega
    · refine ⟨⟨hl, fun n hm => ?_⟩, hn⟩
      unfold numsFault at h
      split at h
      · omega
      · rename_i hx
        rw [Bool.not_eq_true, List.any_eq_false] at hx
        have := hx n hm
        simp at this
        omega
  · omega
theorem name_free {l : List UInt8} (h : nameOk l = true) (c : UInt8) (hc : c.toNat < 97) : c ∉ l := by
  intro hm
  unfold nameOk at h
  simp only [Bool.and_eq_true, List.all_eq_true] at h
  have := h.2.2 c hm
  unfold isLetter at this
  simp at this
  omega
theorem flag_free (b : Bool) (c d : UInt8) (h1 : d ≠ c) (h2 : d ≠ 45) : d ∉ flag b c := by
  unfold flag
  split
  · simpa using h1
  · simpa using h2
theorem words_free {k : K} (hn : nameOk k.name = true) (c : UInt8) (hc : c.toNat < 45) : ∀ w ∈ words k, c ∉ w := by
  intro w hw
  have h102 : c ≠ 102 := by rintro rfl; revert hc; decide
  have h116 : c ≠ 116 := by rintro rfl; revert hc; decide
  have h45 : c ≠ 45 := by rintro rfl; revert hc; decide
  unfold words at hw
  simp only [List.mem_cons, List.mem_append, List.mem_map, List.not_mem_nil, or_false] at hw
  rcases hw with rfl | ⟨n, _, rfl⟩ | rfl | rfl
  · exact name_free hn c (by omega)
  · exact dig_free _ c (by omega)
  · exact flag_free _ _ _ h102 h45
  · exact flag_free _ _ _ h116 h45
theorem mem_join {c d : UInt8} : ∀ {ws : List (List UInt8)}, d ∈ join c ws → d = c ∨ ∃ w ∈ ws, d ∈ w
  | [], h => by simp [join] at h
  | [w], h => .inr ⟨w, List.mem_cons_self .., h⟩
  | w :: v :: ws, h => by
    rw [join_cons (by simp), List.mem_append, List.mem_cons] at h
    rcases h with h | h | h
    · exact .inr ⟨w, List.mem_cons_self .., h⟩
    · exact .inl h
    · rcases mem_join h with h | ⟨x, hx, hd⟩
      · exact .inl h
      · exact .inr ⟨x, List.mem_cons_of_mem _ hx, hd⟩
theorem kline_free {k : K} (hn : nameOk k.name = true) : (10 : UInt8) ∉ kline k := by
  intro h
  rcases mem_join h with h | ⟨w, hw, hd⟩
  · revert h; decide
  · exact words_free hn 10 (by decide) w hw hd

theorem wholes_dig : ∀ {ns : List Int}, (∀ n ∈ ns, 0 ≤ n ∧ n < 10000) → wholes (ns.map fun n => dig n.toNat) = some ns
  | [], _ => rfl
  | n :: ns, h => by
    have h1 := h n (List.mem_cons_self ..)
    have e : whole 4 (dig n.toNat) = some n.toNat := whole_dig (by decide) (by show n.toNat < 10000; omega)
    have e2 := wholes_dig (ns := ns) (fun x hx => h x (List.mem_cons_of_mem _ hx))
    rw [List.map_cons, wholes, e, e2]
    simp
    omega
theorem wholes_back : ∀ {ws : List (List UInt8)} {ns : List Int}, wholes ws = some ns → (ns.map fun n => dig n.toNat) = ws ∧ ∀ n ∈ ns, 0 ≤ n
  | [], ns, h => by
    simp [wholes] at h
    subst h
    simp
  | w :: r, ns, h => by
    unfold wholes at h
    split at h
    · rename_i n ns' h1 h2
      injection h with h
      subst h
      obtain ⟨a1, a2⟩ := wholes_back h2
      refine ⟨?_, ?_⟩
      · rw [List.map_cons, a1, Int.toNat_natCast, dig_whole h1]
      · intro x hx
        rcases List.mem_cons.1 hx with rfl | hx
        · omega
        · exact a2 x hx
    · cases h
theorem unflag_flag (b : Bool) (c : UInt8) (h : c ≠ 45) : unflag c (flag b c) = some b := by
  unfold unflag flag
  cases b
  · have : ¬ ([45] : List UInt8) = [c] := by simp; exact fun e => h e.symm
    simp [this]
  · simp
theorem unflag_back {c : UInt8} {w : List UInt8} {b : Bool} (h : unflag c w = some b) : flag b c = w := by
  unfold unflag at h
  split at h
  · rename_i hw
    injection h with h
    subst h
    rw [hw]
    rfl
  · split at h
    · rename_i hw
      injection h with h
      subst h
      rw [hw]
      rfl
    · cases h
theorem kwords_words {k : K} (hf : Fit k) : kwords (words k) = some k := by
  obtain ⟨name, nums, f, t⟩ := k
  have hl : nums.length = 8 := hf.len
  have e1 : ((words ⟨name, nums, f, t⟩).drop 1).take 8 = nums.map fun n => dig n.toNat := by
    show ((nums.map fun n => dig n.toNat) ++ [flag f 102, flag t 116]).take 8 = _
    rw [List.take_left' (by rw [List.length_map]; exact hl)]
  have e2 : (words ⟨name, nums, f, t⟩).getD 9 [] = flag f 102 := by
    show (name :: ((nums.map fun n => dig n.toNat) ++ [flag f 102, flag t 116])).getD 9 [] = _
    rw [List.getD_cons_succ, List.getD_eq_getElem?_getD, List.getElem?_append_right (by rw [List.length_map]; omega), List.length_map, hl]
    rfl
  have e3 : (words ⟨name, nums, f, t⟩).getD 10 [] = flag t 116 := by
    show (name :: ((nums.map fun n => dig n.toNat) ++ [flag f 102, flag t 116])).getD 10 [] = _
    rw [List.getD_cons_succ, List.getD_eq_getElem?_getD, List.getElem?_append_right (by rw [List.length_map]; omega), List.length_map, hl]
    rfl
  unfold kwords
  rw [if_pos (by simp [words, hl]), e1, e2, e3, wholes_dig hf.low, unflag_flag f 102 (by decide), unflag_flag t 116 (by decide)]
  rfl
theorem list11 {ws : List (List UInt8)} (h : ws.length = 11) : ws = ws.getD 0 [] :: ((ws.drop 1).take 8 ++ [ws.getD 9 [], ws.getD 10 []]) := by
  match ws, h with
  | [w0, w1, w2, w3, w4, w5, w6, w7, w8, w9, w10], _ => rfl
theorem words_kwords {ws : List (List UInt8)} {k : K} (h : kwords ws = some k) : words k = ws ∧ k.nums.length = 8 := by
  unfold kwords at h
  split at h
  · rename_i hl
    split at h
    · rename_i ns f t h1 h2 h3
      injection h with h
      subst h
      have a := wholes_back h1
      refine ⟨?_, ?_⟩
      · unfold words
        rw [a.1, unflag_back h2, unflag_back h3]
        exact (list11 hl).symm
      · show ns.length = 8
        have := congrArg List.length a.1
        rw [List.length_map, List.length_take, List.length_drop] at this
        omega
    · cases h
  · cases h

theorem cut_prt : ∀ {l : List K}, (∀ k ∈ l, nameOk k.name = true) → cut 10 (prt l) = l.map kline ++ [[]]
  | [], _ => rfl
  | k :: l, h => by
    show cut 10 ((kline k ++ [10]) ++ prt l) = _
    rw [List.append_assoc]
    show cut 10 (kline k ++ 10 :: prt l) = _
    rw [cut_app (kline_free (h k (List.mem_cons_self ..))), cut_prt (fun x hx => h x (List.mem_cons_of_mem _ hx))]
    rfl
theorem kindsGo_all : ∀ {l acc : List K}, kindsGo acc l = 0 → (∀ k ∈ l, k.nums.length = 8) → ∀ k ∈ l, Fit k ∧ nameOk k.name = true
  | [], _, _, _, k, hk => by simp at hk
  | x :: l, acc, h, hl, k, hk => by
    unfold kindsGo at h
    split at h
    · rename_i h0
      rcases List.mem_cons.1 hk with rfl | hk
      · exact fault_fit h0 (hl k (List.mem_cons_self ..))
      · exact kindsGo_all h (fun y hy => hl y (List.mem_cons_of_mem _ hy)) k hk
    · rename_i h0
      exact absurd h h0
theorem kparse_lines : ∀ {l acc : List K}, kindsGo acc l = 0 → (∀ k ∈ l, k.nums.length = 8) → acc.length + l.length ≤ 8 → kparse acc (l.map kline ++ [[]]) = .inr (acc ++ l)
  | [], acc, _, _, _ => by simp [kparse]
  | k :: l, acc, h, hl, hn => by
    unfold kindsGo at h
    split at h
    · rename_i h0
      have hk := fault_fit h0 (hl k (List.mem_cons_self ..))
      have e : cut 32 (kline k) = words k := cut_join (by simp [words]) (words_free hk.2 32 (by decide))
      have ih := kparse_lines (l := l) (acc := acc ++ [k]) h (fun y hy => hl y (List.mem_cons_of_mem _ hy)) (by simp at hn ⊢; omega)
      simp only [List.length_cons] at hn
      cases l with
      | nil =>
        show kparse acc [kline k, []] = _
        rw [kparse, e, kwords_words hk.1]
        simp only
        rw [if_neg (by simp at hn; omega), if_pos h0]
        simpa using ih
      | cons k2 l =>
        show kparse acc (kline k :: kline k2 :: (l.map kline ++ [[]])) = _
        rw [kparse, e, kwords_words hk.1]
        simp only
        rw [if_neg (by simp at hn; omega), if_pos h0]
        simpa using ih
    · rename_i h0
      exact absurd h h0
/-- what is printed is read as it was. -/
theorem parse_prt {l : List K} (h : kindsFault l = 0) (hl : ∀ k ∈ l, k.nums.length = 8) : parse (prt l) = .inr l := by
  unfold kindsFault at h
  split at h
  · omega
  · have a := kindsGo_all h hl
    unfold parse
    rw [cut_prt (fun k hk => (a k hk).2), kparse_lines h hl (by simp; omega)]
    rfl
theorem prt_lines : ∀ {ls : List (List UInt8)} {acc l : List K}, ls ≠ [] → kparse acc ls = .inr l → acc.length ≤ 8 → ∃ l', l = acc ++ l' ∧ prt l' = join 10 ls ∧ kindsGo acc l' = 0 ∧ l.length ≤ 8 ∧ ∀ k ∈ l', k.nums.length = 8
  | [], _, _, h, _, _ => absurd rfl h
  | [w], acc, l, _, h, ha => by
    unfold kparse at h
    split at h
    · rename_i hw
      injection h with h
      subst h
      subst hw
      exact ⟨[], by simp, rfl, rfl, ha, by simp⟩
    · cases h
  | w :: v :: r, acc, l, _, h, ha => by
    unfold kparse at h
    split at h
    · cases h
    · rename_i k hk
      split at h
      · cases h
      · rename_i h8
        split at h
        · rename_i h0
          obtain ⟨l', e1, e2, e3, e4, e5⟩ := prt_lines (by simp) h (by simp; omega)
          have a := words_kwords hk
          refine ⟨k :: l', by rw [e1]; simp, ?_, ?_, e4, ?_⟩
          · show (kline k ++ [10]) ++ prt l' = _
            rw [join_cons (by simp), e2, show kline k = w by unfold kline; rw [a.1, join_cut]]
            simp
          · unfold kindsGo
            rw [if_pos h0]
            exact e3
          · intro x hx
            rcases List.mem_cons.1 hx with rfl | hx
            · exact a.2
            · exact e5 x hx
        · cases h
/-- what any text is read as is printed as that text. -/
theorem prt_parse {s : List UInt8} {l : List K} (h : parse s = .inr l) : prt l = s ∧ kindsFault l = 0 ∧ ∀ k ∈ l, k.nums.length = 8 := by
  unfold parse at h
  obtain ⟨l', e1, e2, e3, e4, e5⟩ := prt_lines (cut_ne 10 s) h (by simp)
  rw [List.nil_append] at e1
  subst e1
  refine ⟨by rw [e2, join_cut], ?_, e5⟩
  unfold kindsFault
  rw [if_neg (by omega)]
  exact e3
end Go.Proofs.YtagnjmellcibhaaGreatDoor.Kd

namespace Go.Proofs.YtagnjmellcibhaaGreatDoor
open Go.RowKit
set_option linter.unusedVariables false

/-- a kind as memory has it. -/
structure KV where
  b : ByteArray
  n0 : Int
  n1 : Int
  n2 : Int
  n3 : Int
  n4 : Int
  n5 : Int
  n6 : Int
  n7 : Int
  f : Bool
  t : Bool
def KV.k (k : KV) : Kd.K := ⟨k.b.data.toList, [k.n0, k.n1, k.n2, k.n3, k.n4, k.n5, k.n6, k.n7], k.f, k.t⟩
def KV.val (k : KV) : Value := .agg #[.string k.b, .int .i64 k.n0, .int .i64 k.n1, .int .i64 k.n2, .int .i64 k.n3, .int .i64 k.n4, .int .i64 k.n5, .int .i64 k.n6, .int .i64 k.n7, .bool k.f, .bool k.t]
/-- its cells, from an address on. -/
structure Kc (w : World) (y : Addr) (k : KV) : Prop where
  c0 : w.cell? y = some (.string k.b)
  c1 : w.cell? ⟨y.block, y.off + 1, none⟩ = some (.int .i64 k.n0)
  c2 : w.cell? ⟨y.block, y.off + 2, none⟩ = some (.int .i64 k.n1)
  c3 : w.cell? ⟨y.block, y.off + 3, none⟩ = some (.int .i64 k.n2)
  c4 : w.cell? ⟨y.block, y.off + 4, none⟩ = some (.int .i64 k.n3)
  c5 : w.cell? ⟨y.block, y.off + 5, none⟩ = some (.int .i64 k.n4)
  c6 : w.cell? ⟨y.block, y.off + 6, none⟩ = some (.int .i64 k.n5)
  c7 : w.cell? ⟨y.block, y.off + 7, none⟩ = some (.int .i64 k.n6)
  c8 : w.cell? ⟨y.block, y.off + 8, none⟩ = some (.int .i64 k.n7)
  c9 : w.cell? ⟨y.block, y.off + 9, none⟩ = some (.bool k.f)
  c10 : w.cell? ⟨y.block, y.off + 10, none⟩ = some (.bool k.t)
theorem Kc.lt {w : World} {y : Addr} {k : KV} (h : Kc w y k) : y.block < w.heap.size := cell_lt h.c0
theorem Kc.below {w w' : World} {y : Addr} {k : KV} {B : Nat} (h : Kc w y k) (hb : Below B w w') (hy : y.block < B) : Kc w' y k :=
  ⟨by rw [hb.cell (p := y) hy]; exact h.c0, by rw [hb.cell (p := ⟨y.block, y.off + 1, none⟩) hy]; exact h.c1, by rw [hb.cell (p := ⟨y.block, y.off + 2, none⟩) hy]; exact h.c2, by rw [hb.cell (p := ⟨y.block, y.off + 3, none⟩) hy]; exact h.c3, by rw [hb.cell (p := ⟨y.block, y.off + 4, none⟩) hy]; exact h.c4, by rw [hb.cell (p := ⟨y.block, y.off + 5, none⟩) hy]; exact h.c5, by rw [hb.cell (p := ⟨y.block, y.off + 6, none⟩) hy]; exact h.c6, by rw [hb.cell (p := ⟨y.block, y.off + 7, none⟩) hy]; exact h.c7, by rw [hb.cell (p := ⟨y.block, y.off + 8, none⟩) hy]; exact h.c8, by rw [hb.cell (p := ⟨y.block, y.off + 9, none⟩) hy]; exact h.c9, by rw [hb.cell (p := ⟨y.block, y.off + 10, none⟩) hy]; exact h.c10⟩
/-- v is a slice of the kinds ks. -/
def Kl (w : World) (v : Value) (ks : List KV) : Prop := ∃ a c, v = .slice a ks.length c ∧ ks.length ≤ c ∧ c ≤ 9223372036854775807 ∧ (ks ≠ [] → ∃ x, a = some x ∧ x.block < w.heap.size ∧ ∀ (i : Nat) k, ks[i]? = some k → Kc w (x.add (i * 11)) k)
theorem Kl.below {w w' : World} {v : Value} {ks : List KV} (h : Kl w v ks) (hb : Below w.heap.size w w') : Kl w' v ks := by
  obtain ⟨a, c, h1, h2, h3, h4⟩ := h
  refine ⟨a, c, h1, h2, h3, fun hn => ?_⟩
  obtain ⟨x, e, hx, hk⟩ := h4 hn
  exact ⟨x, e, Nat.lt_of_lt_of_le hx hb.size, fun i k hi => (hk i k hi).below hb (by rw [add_block]; exact hx)⟩

theorem Kc.mk' {w : World} {z : Nat} (k : KV) (hz : w.heap.size = z) : Kc (w.alloc (.cells #[.string k.b, .int .i64 k.n0, .int .i64 k.n1, .int .i64 k.n2, .int .i64 k.n3, .int .i64 k.n4, .int .i64 k.n5, .int .i64 k.n6, .int .i64 k.n7, .bool k.f, .bool k.t] 61)) ⟨z, 0, none⟩ k := by
  subst hz
  constructor <;> simp
end Go.Proofs.YtagnjmellcibhaaGreatDoor

namespace Go.Proofs.YtagnjmellcibhaaGreatDoor
set_option linter.unusedVariables false

/-- the greatest number up to k whose square is not above n. -/
def rt : Nat → Int → Int
  | 0, _ => 0
  | k + 1, n => if ((k : Int) + 1) * ((k : Int) + 1) ≤ n then (k : Int) + 1 else rt k n
theorem rt_eq : ∀ (k : Nat) (r n : Int), Ma.Sq r n → r ≤ k → rt k n = r
  | 0, r, n, h, hk => by
    have := h.1
    show (0 : Int) = r
    omega
  | k + 1, r, n, h, hk => by
    unfold rt
    split
    · rename_i hc
      have := Ma.lt_of_sq ((k : Int) + 1) (r + 1) (by have := h.1; omega) (by have := h.2.2; omega)
      omega
    · rename_i hc
      have := Ma.lt_of_sq r ((k : Int) + 1) (by omega) (by have := h.2.1; omega)
      exact rt_eq k r n h (by omega)
theorem rt_ge : ∀ (k : Nat) (n : Int), 0 ≤ rt k n ∧ rt k n ≤ k
  | 0, n => by unfold rt; omega
  | k + 1, n => by
    unfold rt
    have := rt_ge k n
    split <;> omega
/-- how far two cells of a field are. -/
def farN (W a b : Nat) : Int := rt 200 ((((a % W : Nat) : Int) - ((b % W : Nat) : Int)) * (((a % W : Nat) : Int) - ((b % W : Nat) : Int)) + (((a / W : Nat) : Int) - ((b / W : Nat) : Int)) * (((a / W : Nat) : Int) - ((b / W : Nat) : Int)))
theorem farN_ge (W a b : Nat) : 0 ≤ farN W a b ∧ farN W a b ≤ 200 := rt_ge 200 _
theorem sq_abs_le (x : Int) (m : Int) (h1 : -m ≤ x) (h2 : x ≤ m) : x * x ≤ m * m := by
  rcases Int.le_total 0 x with h | h
  · exact Ma.mul_mono x m h h2
  · have e : x * x = (-x) * (-x) := by rw [Int.neg_mul_neg]
    rw [e]
    exact Ma.mul_mono (-x) m (by omega) (by omega)
theorem farN_eq {W a b : Nat} {r : Int} (hW : W ≤ 12) (ha : a ≤ 144) (hb : b ≤ 144) (hW0 : 0 < W)
    (h : Ma.Sq r ((((a % W : Nat) : Int) - ((b % W : Nat) : Int)) * (((a % W : Nat) : Int) - ((b % W : Nat) : Int)) + (((a / W : Nat) : Int) - ((b / W : Nat) : Int)) * (((a / W : Nat) : Int) - ((b / W : Nat) : Int)))) : farN W a b = r := by
  unfold farN
  refine rt_eq 200 r _ h ?_
  have a1 := Nat.mod_lt a hW0
  have b1 := Nat.mod_lt b hW0
  have a2 := Nat.div_le_self a W
  have b2 := Nat.div_le_self b W
  generalize a / W = x at *
  generalize b / W = y at *
  generalize a % W = x' at *
  generalize b % W = y' at *
  have s1 := sq_abs_le ((x' : Int) - (y' : Int)) 12 (by omega) (by omega)
  have s2 := sq_abs_le ((x : Int) - (y : Int)) 144 (by omega) (by omega)
  have := h.2.1
  exact Ma.le_of_sq r 200 (by omega) (by omega)

/-- how far a unit is from another one. -/
def farU (W : Nat) (u o : UnV) : Int := farN W u.at_.toNat o.at_.toNat
/-- one whom a unit does not strike. -/
def safeU (W : Nat) (u : UnV) (rng : Int) (o : UnV) : Bool := (o.player == u.player) || decide (rng < farU W u o)
/-- those that it may strike. -/
def foesU (W : Nat) (u : UnV) (rng : Int) (us : List UnV) : List UnV := us.filter (fun o => !safeU W u rng o)
/-- who comes first. -/
def keyU (W : Nat) (u o : UnV) : Int := farU W u o * 2000000 + o.life
def soonU (W : Nat) (u a b : UnV) : Int := if farU W u a - farU W u b = 0 then a.life - b.life else farU W u a - farU W u b
theorem soon_key {W : Nat} {u a b : UnV} (ha : 0 ≤ a.life ∧ a.life ≤ 1000000) (hb : 0 ≤ b.life ∧ b.life ≤ 1000000) : soonU W u a b < 0 ↔ keyU W u a < keyU W u b := by
  unfold soonU keyU
  have h1 := farN_ge W u.at_.toNat a.at_.toNat
  have h2 := farN_ge W u.at_.toNat b.at_.toNat
  unfold farU
  split <;> omega
/-- whom a unit strikes. -/
def TgSays (W : Nat) (u : UnV) (k : KV) (us : List UnV) (t : Int) : Prop :=
  (k.n1 = 0 ∧ t = -1) ∨ (k.n1 ≠ 0 ∧ foesU W u k.n2 us = [] ∧ t = -1)
  ∨ (k.n1 ≠ 0 ∧ ∃ x0 tl, foesU W u k.n2 us = x0 :: tl ∧ FstU (fun o => o.id == (minU (keyU W u) x0 tl).id) us t)
theorem minU_le (d : UnV → Int) : ∀ (l : List UnV) (m : UnV), ∀ x ∈ m :: l, d (minU d m l) ≤ d x
  | [], m, x, hx => by simp at hx; subst hx; exact Int.le_refl _
  | y :: l, m, x, hx => by
    show d (minU d (if d y < d m then y else m) l) ≤ d x
    have h0 := minU_le d l (if d y < d m then y else m) (if d y < d m then y else m) (by simp)
    rcases List.mem_cons.1 hx with rfl | hx
    · split at h0 <;> rename_i hc
      · rw [if_pos hc]; omega
      · rw [if_neg hc]; exact h0
    · rcases List.mem_cons.1 hx with rfl | hx
      · split at h0 <;> rename_i hc
        · rw [if_pos hc]; exact h0
        · rw [if_neg hc]; omega
      · exact minU_le d l _ x (List.mem_cons_of_mem _ hx)
end Go.Proofs.YtagnjmellcibhaaGreatDoor

namespace Go.Proofs.YtagnjmellcibhaaGreatDoor.Fd

/-- what is wrong with a cell. -/
def cellFault (g o : Int) : Int := if g < 0 ∨ 3 < g ∨ o < 0 ∨ 1000000 < o then 1 else if 0 < o ∧ g ≠ 0 then 7 else 0
def cellsFault : List Int → List Int → Int
  | g :: gs, o :: os => if cellFault g o = 0 then cellsFault gs os else cellFault g o
  | _, _ => 0
/-- what is wrong with a field. -/
def fault (W H : Int) (gs os : List Int) : Int :=
  if W < 1 ∨ 12 < W ∨ H < 1 ∨ 12 < H then 1 else if (gs.length : Int) ≠ W * H ∨ (os.length : Int) ≠ W * H then 3 else cellsFault gs os

/-- a field with which nothing is wrong. -/
structure Good (W H : Nat) (gs os : List Int) : Prop where
  w1 : 1 ≤ W
  w2 : W ≤ 12
  h1 : 1 ≤ H
  h2 : H ≤ 12
  gl : gs.length = W * H
  ol : os.length = W * H
  cell : ∀ (i : Nat) g o, gs[i]? = some g → os[i]? = some o → 0 ≤ g ∧ g ≤ 3 ∧ 0 ≤ o ∧ o ≤ 1000000 ∧ (0 < o → g = 0)

theorem cellFault_zero {g o : Int} (h : cellFault g o = 0) : 0 ≤ g ∧ g ≤ 3 ∧ 0 ≤ o ∧ o ≤ 1000000 ∧ (0 < o → g = 0) := by
  unfold cellFault at h
  split at h
  · omega
  · split at h
    · omega
    · omega
theorem cellsFault_zero : ∀ (gs os : List Int), cellsFault gs os = 0 → ∀ (i : Nat) g o, gs[i]? = some g → os[i]? = some o → cellFault g o = 0
  | [], _, _, i, g, o, h1, _ => by simp at h1
  | _ :: _, [], _, i, g, o, _, h2 => by simp at h2
  | g0 :: gs, o0 :: os, h, i, g, o, h1, h2 => by
    unfold cellsFault at h
    split at h
    · rename_i hc
      cases i with
      | zero => simp at h1 h2; subst h1; subst h2; exact hc
      | succ i => exact cellsFault_zero gs os h i g o (by simpa using h1) (by simpa using h2)
    · rename_i hc
      exact absurd h hc
theorem cellsFault_range (gs os : List Int) : cellsFault gs os = 0 ∨ cellsFault gs os = 1 ∨ cellsFault gs os = 7 := by
  induction gs generalizing os with
  | nil => left; unfold cellsFault; rfl
  | cons g gs ih =>
    cases os with
    | nil => left; unfold cellsFault; rfl
    | cons o os =>
      unfold cellsFault
      split
      · exact ih os
      · unfold cellFault
        split
        · right; left; rfl
        · split
          · right; right; rfl
          · left; rfl
theorem fault_range (W H : Int) (gs os : List Int) : fault W H gs os = 0 ∨ fault W H gs os = 1 ∨ fault W H gs os = 3 ∨ fault W H gs os = 7 := by
  unfold fault
  split
  · omega
  · split
    · omega
    · have := cellsFault_range gs os; omega
theorem fault_zero {W H : Int} {gs os : List Int} (h : fault W H gs os = 0) : ∃ W' H' : Nat, W = W' ∧ H = H' ∧ Good W' H' gs os := by
  unfold fault at h
  split at h
  · omega
  · split at h
    · omega
    · rename_i h1 h2
      refine ⟨W.toNat, H.toNat, by omega, by omega, by omega, by omega, by omega, by omega, ?_, ?_, fun i g o hg ho => cellFault_zero (cellsFault_zero gs os h i g o hg ho)⟩
      · have e : ((W.toNat * H.toNat : Nat) : Int) = W * H := by rw [Int.natCast_mul, Int.toNat_of_nonneg (by omega), Int.toNat_of_nonneg (by omega)]
        omega
      · have e : ((W.toNat * H.toNat : Nat) : Int) = W * H := by rw [Int.natCast_mul, Int.toNat_of_nonneg (by omega), Int.toNat_of_nonneg (by omega)]
        omega
theorem cellFault_of {g o : Int} (h : 0 ≤ g ∧ g ≤ 3 ∧ 0 ≤ o ∧ o ≤ 1000000 ∧ (0 < o → g = 0)) : cellFault g o = 0 := by
  unfold cellFault
  rw [if_neg (by omega), if_neg (by omega)]
theorem cellsFault_of : ∀ (gs os : List Int), (∀ (i : Nat) g o, gs[i]? = some g → os[i]? = some o → cellFault g o = 0) → cellsFault gs os = 0
  | [], _, _ => by unfold cellsFault; rfl
  | _ :: _, [], _ => by unfold cellsFault; rfl
  | g :: gs, o :: os, h => by
    unfold cellsFault
    rw [if_pos (h 0 g o rfl rfl)]
    exact cellsFault_of gs os fun i g' o' h1 h2 => h (i + 1) g' o' (by simpa using h1) (by simpa using h2)
theorem fault_good {W H : Nat} {gs os : List Int} (h : Good W H gs os) : fault W H gs os = 0 := by
  have e : ((W * H : Nat) : Int) = (W : Int) * H := Int.natCast_mul _ _
  have := h.gl; have := h.ol; have := h.w1; have := h.w2; have := h.h1; have := h.h2
  unfold fault
  rw [if_neg (by omega), if_neg (by omega)]
  exact cellsFault_of gs os fun i g o h1 h2 => cellFault_of (h.cell i g o h1 h2)
theorem Good.pos {W H : Nat} {gs os : List Int} (h : Good W H gs os) : 1 ≤ W * H ∧ W * H ≤ 144 := by
  have h1 := Nat.mul_le_mul h.w1 h.h1
  have h2 := Nat.mul_le_mul h.w2 h.h2
  omega
theorem cellsFault_drop (gs os : List Int) (k : Nat) (g o : Int) (hg : gs[k]? = some g) (ho : os[k]? = some o) :
    cellsFault (gs.drop k) (os.drop k) = if cellFault g o = 0 then cellsFault (gs.drop (k + 1)) (os.drop (k + 1)) else cellFault g o := by
  obtain ⟨h1, e1⟩ := List.getElem?_eq_some_iff.1 hg
  obtain ⟨h2, e2⟩ := List.getElem?_eq_some_iff.1 ho
  rw [List.drop_eq_getElem_cons h1, List.drop_eq_getElem_cons h2, e1, e2]
  rfl

/-- the fault of a cell's number. -/
def askFault (F : Int) (n : Nat) (xs : List Int) : Int := if F ≠ 0 then F else if xs.all (fun x => decide (0 ≤ x ∧ x < n)) then 0 else 6

/-- the cells beside one. -/
def near (W H a : Nat) : List Int :=
  (if 0 < a / W then [(a : Int) - W] else []) ++ ((if 0 < a % W then [(a : Int) - 1] else []) ++ ((if a % W + 1 < W then [(a : Int) + 1] else []) ++ (if a / W + 1 < H then [(a : Int) + W] else [])))

/-- how far it is onto a ground. -/
def onto (g : Int) (flies : Bool) : Int := if g = 1 then 0 else if g = 2 then (if flies then 1 else 0) else if g = 3 then (if flies then 1 else 2) else 1
end Go.Proofs.YtagnjmellcibhaaGreatDoor.Fd

namespace Go.Proofs.YtagnjmellcibhaaGreatDoor
set_option linter.unusedVariables false
namespace Wd

/-- not from least to 1000000. -/
def off (least n : Int) : Bool := !decide (least ≤ n ∧ n ≤ 1000000)
def numsBad (W : WV) : Bool := off 0 W.turn || (off 1 W.next || (!decide (1 ≤ (W.gold.length : Int) ∧ (W.gold.length : Int) ≤ 4) || W.gold.any (off 0)))
def has (n : Nat) (i : Int) : Bool := decide (0 ≤ i ∧ i < (n : Int))
/-- one who goes, or flies, may stand there. -/
def open_ (gs : List Int) (ahead : List UnV) (at_ : Int) (fl : Bool) : Bool := decide (0 < Fd.onto (gs.getD at_.toNat 0) fl) && !ahead.any (fun u => u.at_ == at_)
/-- what is wrong with the i-th unit, as far as its kind does not matter; as far as it does. -/
def kindPart (W : WV) (ahead : List UnV) (u : UnV) (k : KV) : Int :=
  if !decide (1 ≤ u.life ∧ u.life ≤ k.n0) || (!decide (0 ≤ u.load ∧ u.load ≤ k.n7) || !decide (0 ≤ u.task ∧ u.task ≤ 2)) then 1
  else if !has W.gs.length u.at_ || !has W.gs.length u.goal then 6
  else if !open_ W.gs ahead u.at_ k.f || (u.goal != 0 && u.task == 0) then 7 else 0
def notAbove (us : List UnV) (i : Nat) (u : UnV) : Bool := match i with
  | 0 => false
  | j + 1 => match us[j]? with
    | none => false
    | some x => decide (u.id ≤ x.id)
def unitFault (ks : List KV) (W : WV) (i : Nat) (u : UnV) : Int :=
  if !decide (1 ≤ u.id ∧ u.id ≤ W.next - 1) then 1
  else if notAbove W.us i u then 5
  else if !has W.gold.length u.player || !has ks.length u.kind then 1
  else match ks[u.kind.toNat]? with
    | none => 1
    | some k => kindPart W (W.us.take i) u k
def unitsGo (ks : List KV) (W : WV) (i : Nat) : List UnV → Int
  | [] => 0
  | u :: r => if unitFault ks W i u = 0 then unitsGo ks W (i + 1) r else unitFault ks W i u
def jobFault (ks : List KV) (W : WV) (j : JbV) : Int := match W.us.find? (fun u => u.id == j.unit) with
  | none => 6
  | some u => match ks[u.kind.toNat]? with
    | none => 7
    | some k => if u.player != j.player || !k.t then 7 else if !has ks.length j.kind || !decide (1 ≤ j.left ∧ j.left ≤ 1000) then 1 else 0
def jobsGo (ks : List KV) (W : WV) : List JbV → Int
  | [] => 0
  | j :: r => if jobFault ks W j = 0 then jobsGo ks W r else jobFault ks W j
def ground (ks : List KV) (W : WV) : Int := if Kd.kindsFault (ks.map KV.k) = 0 then Fd.fault W.wide W.high W.gs W.os else Kd.kindsFault (ks.map KV.k)
/-- what is wrong with a world. -/
def wfault (ks : List KV) (W : WV) : Int :=
  if ground ks W ≠ 0 then ground ks W
  else if numsBad W then 1
  else if 40 < W.us.length then 4
  else if unitsGo ks W 0 W.us ≠ 0 then unitsGo ks W 0 W.us
  else if 12 < W.qs.length then 4
  else jobsGo ks W W.qs
theorem unitsGo_at {ks : List KV} {W : WV} {i : Nat} {u : UnV} (h : W.us[i]? = some u) : unitsGo ks W i (W.us.drop i) = if unitFault ks W i u = 0 then unitsGo ks W (i + 1) (W.us.drop (i + 1)) else unitFault ks W i u := by
  obtain ⟨hi, e⟩ := List.getElem?_eq_some_iff.1 h
  rw [List.drop_eq_getElem_cons hi, e]
  rfl
theorem jobsGo_at {ks : List KV} {W : WV} {i : Nat} {j : JbV} (h : W.qs[i]? = some j) : jobsGo ks W (W.qs.drop i) = if jobFault ks W j = 0 then jobsGo ks W (W.qs.drop (i + 1)) else jobFault ks W j := by
  obtain ⟨hi, e⟩ := List.getElem?_eq_some_iff.1 h
  rw [List.drop_eq_getElem_cons hi, e]
  rfl
end Wd
end Go.Proofs.YtagnjmellcibhaaGreatDoor

namespace Go.Proofs.YtagnjmellcibhaaGreatDoor

/-- v tells the fault n. -/
def Er (v : Value) (n : Int) : Prop := (n = 0 ∧ v = .nilIface) ∨ (n ≠ 0 ∧ v = .iface 75 (.int .i64 n))
theorem Er.nil : Er .nilIface 0 := .inl ⟨rfl, rfl⟩
theorem Er.no {n : Int} (h : n ≠ 0) : Er (.iface 75 (.int .i64 n)) n := .inr ⟨h, rfl⟩
end Go.Proofs.YtagnjmellcibhaaGreatDoor

