/- A list of integers from which the first is taken, and that is added to at its end. · A block of integers that may be written. · slices.Repeat, of a list of one. · Cells beside one another: plain mathematics. · Ways: plain mathematics. nb: the cells beside one; st: how far it is from one to another one that is beside; t: whereto. · How far each cell is from one, as the program finds it: it goes on from the cells of a list till there is none. · Lands: how far it is to a cell, and from one. · The next cell on a way, the way, and what may be reached: plain mathematics. · The calls of package path: what they say where something is wrong; how far it is. · path.From: how far it is from a cell to each. · api.Unit: records in memory. · Slices of api.Unit that the call itself makes, by append. · Lists of integers: a whole list behind another one. · Slices of api.Unit: a whole list behind another one. · Units in a block that may be written. · slices.IndexFunc and ContainsFunc of units. · Numbers in bytes. Plain mathematics. · api.Job: records in memory. -/
import Derived.Test.YtagnjmellcibhaaGreatDoorZMoveGoes1
import Derived.ArgAppend
import Derived.OwnWalk
import Derived.Laws.CopyRow
import Derived.Deep.AppendLies
import Derived.Laws.AppendOwnNone
import Derived.Laws.Closers25
import Derived.IntWalk
import Derived.Test.YtagnjmellcibhaaGreatDoorRows
namespace Go.Proofs.YtagnjmellcibhaaGreatDoor
open Go.RowKit
set_option linter.unusedVariables false

/-- v is a slice of the integers xs, somewhere in a block from base on. -/
def Qu (w : World) (base : Nat) (v : Value) (xs : List Int) : Prop := ∃ g off cap cur, v = .slice (some ⟨g, off, none⟩) xs.length cap ∧ base ≤ g ∧ w.heap[g]? = some (.cells cur 3 (0, 0)) ∧ xs.length ≤ cap ∧ cap ≤ maxLen ∧ off + cap ≤ cur.size ∧ ∀ (j : Nat) d, xs[j]? = some d → cur[off + j]? = some (.int .i64 d)

theorem Qu.kept {w w' : World} {base : Nat} {v : Value} {xs : List Int} (h : Qu w base v xs) (hk : ∀ k, base ≤ k → k < w.heap.size → w'.heap[k]? = w.heap[k]?) : Qu w' base v xs := by
  obtain ⟨g, off, cap, cur, h1, h2, h3, h4⟩ := h
  exact ⟨g, off, cap, cur, h1, h2, by rw [hk g h2 (lt_of_block h3)]; exact h3, h4⟩
theorem Qu.below {w w' : World} {base : Nat} {v : Value} {xs : List Int} (h : Qu w base v xs) (hb : Below w.heap.size w w') : Qu w' base v xs := h.kept fun k _ hk => hb.block k hk
theorem Qu.kp {w w' : World} {base b : Nat} {v : Value} {xs : List Int} (h : Qu w base v xs) (hk : Kp b w w') (hb : b < base) : Qu w' base v xs := h.kept fun k h1 h2 => hk.block k h2 (by omega)
theorem Qu.drewN {w : World} {base : Nat} {v : Value} {xs : List Int} (h : Qu w base v xs) (n : Nat) : Qu (w.drewN n) base v xs := h
theorem Qu.one {w : World} {base z : Nat} (d : Int) (hb : base ≤ w.heap.size) (hz : w.heap.size = z) : Qu (w.alloc (.cells #[.int .i64 d] 3)) base (.slice (some ⟨z, 0, none⟩) 1 1) [d] := by
  subst hz
  refine ⟨_, 0, 1, _, rfl, hb, heap_alloc_new w _, Nat.le_refl _, by unfold maxLen; decide, Nat.le_refl _, fun j e he => ?_⟩
  match j, he with
  | 0, he => simp at he; subst he; rfl
/-- the first one. -/
theorem Qu.first {w : World} {base : Nat} {v : Value} {x : Int} {xs : List Int} (h : Qu w base v (x :: xs)) : ∃ g off cap, v = .slice (some ⟨g, off, none⟩) (xs.length + 1) cap ∧ xs.length + 1 ≤ cap ∧ cap ≤ 9223372036854775807 ∧ w.cell? ⟨g, off, none⟩ = some (.int .i64 x) := by
  obtain ⟨g, off, cap, cur, h1, h2, h3, h4, h5, h6, h7⟩ := h
  refine ⟨g, off, cap, h1, h4, by unfold maxLen at h5; omega, ?_⟩
  have := h7 0 x rfl
  simp only [World.cell?, h3]
  exact this

theorem info_int2 : (Tryz.prog.info? 3).map (·.size) = some 1 := by kernel_rfl
/-- without the first one. -/
theorem Qu.rest {w : World} {base : Nat} {v : Value} {x : Int} {xs : List Int} (h : Qu w base v (x :: xs)) : ∃ v', Qu w base v' xs ∧ ∀ W, (Instr.slice 23 v (some (.int .i64 1)) none none).run Tryz.prog W = .ok v' W := by
  obtain ⟨g, off, cap, cur, h1, h2, h3, h4, h5, h6, h7⟩ := h
  subst h1
  obtain ⟨i0, hi, hz0, hz1, hz2⟩ := info_parts info_int
  have hu : Tryz.prog.underlying 23 = some (.slice 3) := Tryz.underlying23
  have he : Tryz.prog.elem 23 = 3 := by simp [Program.elem, hu]
  simp only [List.length_cons] at h4 h6
  have h5' : cap ≤ 9223372036854775807 := by unfold maxLen at h5; omega
  by_cases hc : cap = 1
  · subst hc
    have hx : xs = [] := List.length_eq_zero_iff.1 (by omega)
    subst hx
    refine ⟨.slice (some ⟨g, off, none⟩) 0 0, ⟨g, off, 0, cur, rfl, h2, h3, Nat.le_refl _, by omega, by omega, fun j d hd => by simp at hd⟩, fun W => ?_⟩
    refine (run_slice_l (P := Tryz.prog) W 23 (some ⟨g, off, none⟩) 1 1 (by rw [he]; exact hu) .i64 1 (by decide) (by decide)).trans ?_
    rw [he]
    simp [sizeOf, typeInfo, hi, hz1, sliced]
  · refine ⟨.slice (some ⟨g, off + 1, none⟩) xs.length (cap - 1), ⟨g, off + 1, cap - 1, cur, rfl, h2, h3, by omega, by omega, by omega, fun j d hd => ?_⟩, fun W => ?_⟩
    · have := h7 (j + 1) d (by simpa using hd)
      rwa [show off + (j + 1) = off + 1 + j by omega] at this
    · refine (run_slice_l (P := Tryz.prog) W 23 (some ⟨g, off, none⟩) (xs.length + 1) cap (by rw [he]; exact hu) .i64 1 (by decide) (by omega)).trans ?_
      rw [he]
      simp [sizeOf, typeInfo, hi, hz1, sliced, hc, Addr.add_lit]

/-- one more. -/
theorem app_q {ops : Array Oper} {rest : List Oper} {o : Oper} {a : Act} {Q : Exit → Act → World → Prop} (w : World) (hgd : o.guard = none) (s x : Operand)
    (ho : o.op = .call { callee := .builtin .append, args := #[s, x], argTypes := #[23, 23] }) (base : Nat) (v : Value) (xs : List Int) (hs : a.eval s = v) (hq : Qu w base v xs)
    (ad : Addr) (d : Int) (hx : a.eval x = .slice (some ad) 1 1) (hd : w.cell? ad = some (.int .i64 d)) (hl : xs.length ≤ 1000000) (hbase : base ≤ w.heap.size)
    (h : ∀ v' w', Qu w' base v' (xs ++ [d]) → Below base w w' → wpList Tryz.prog ops Q rest (a.put o.dst v') w') :
    wpList Tryz.prog ops Q (o :: rest) a w := by
  obtain ⟨i0, hi, hz0, hz1, hz2⟩ := info_parts info_int
  obtain ⟨g, off, cap, cur, h1, h2, h3, h4, h5, h6, h7⟩ := hq
  subst h1
  have hcell : ∀ k, k < cur.size → w.cell? ⟨g, k, none⟩ = cur[k]? := fun k hk => by simp [World.cell?, h3]
  refine wpList_append_arg w hgd s x 23 ho 3 i0 (.int .i64 0) 1 8 Tryz.underlying23 hi hz0 hz1 hz2 rfl (by decide) g off xs.length cap (xs.map (Value.int .i64)) hs (by simp) ?_ ad 1 1 [.int .i64 d] hx rfl ?_ ?_ ?_ (by unfold maxLen; omega) (by omega) ?_ ?_
  · intro j u hj
    rw [List.getElem?_map] at hj
    cases hxj : xs[j]? with
    | none => rw [hxj] at hj; cases hj
    | some y =>
      rw [hxj] at hj
      simp only [Option.map_some, Option.some.injEq] at hj
      have hlt : j < xs.length := (List.getElem?_eq_some_iff.1 hxj).1
      rw [hcell _ (by omega), h7 j y hxj, hj]
  · intro j u hj
    match j, hj with
    | 0, hj => simp at hj; subst hj; exact hd
  · intro u hu
    simp at hu
    subst hu
    rfl
  · intro hr j hj
    have hj0 : j = 0 := by
      have : [Value.int .i64 d].length = 1 := rfl
      omega
    subst hj0
    rw [hcell _ (by omega)]
    refine ⟨?_, by simp [World.frozen?, h3]⟩
    rw [Array.getElem?_eq_getElem (by omega)]
    rfl
  · intro hr
    refine h _ _ ?_ ?_
    · refine ⟨g, off, cap, cur.setIfInBounds (off + xs.length) (.int .i64 d), by simp, h2, ?_, by simpa using hr, h5, by simpa using h6, fun j e he => ?_⟩
      · have := heap_setCell_same w g (off + xs.length) _ _ (.int .i64 d) h3
        simpa [World.setCells] using this
      · rw [List.getElem?_append] at he
        by_cases hj : j < xs.length
        · rw [if_pos hj] at he
          rw [Array.getElem?_setIfInBounds_ne (by omega)]
          exact h7 j e he
        · rw [if_neg hj] at he
          have hj0 : j - xs.length = 0 := by
            rcases Nat.eq_zero_or_pos (j - xs.length) with h | h
            · exact h
            · rw [List.getElem?_eq_none (by simp; omega)] at he; cases he
          rw [hj0] at he
          simp at he
          subst he
          rw [show off + j = off + xs.length by omega, Array.getElem?_setIfInBounds_self_of_lt (by omega)]
    · simp only [World.setCells, Nat.mul_one]
      exact ⟨rfl, rfl, rfl, by simp [World.setCell], fun k hk => Below.heap_setCell _ _ _ _ (by show k ≠ g; omega)⟩
  · intro hg v' w' ho' hgr
    refine h _ _ ?_ ((Below.refl _ _).grown hgr hbase (fun k hk => by cases hk))
    rcases ho'.2 with ⟨_, h0⟩ | ⟨g', cap', cur', e1, e2, e3, e4, e5, e6, e7⟩
    · omega
    · refine ⟨g', 0, cap', cur', by rw [e1]; simp, by omega, e3, by simpa using e4, e5, by omega, fun j e he => ?_⟩
      rw [Nat.zero_add, ← Array.getElem?_toList]
      have hj : j < xs.length + 1 := by
        have := (List.getElem?_eq_some_iff.1 he).1
        simpa using this
      have : (cur'.toList.take ((xs.length + 1) * 1))[j]? = some (.int .i64 e) := by
        rw [e7, show xs.map (Value.int .i64) ++ [Value.int .i64 d] = (xs ++ [d]).map (Value.int .i64) by simp, List.getElem?_map, he]
        rfl
      rw [List.getElem?_take, if_pos (by omega)] at this
      exact this
end Go.Proofs.YtagnjmellcibhaaGreatDoor

namespace Go.Proofs.YtagnjmellcibhaaGreatDoor
open Go.RowKit

def intCells (ds : List Int) : List Value := ds.map fun d => .int .i64 d

/-- block b holds the integers ds, and some cells behind. -/
def Bk (w : World) (b : Nat) (ds : List Int) (r : Array Value) : Prop := w.heap[b]? = some (.cells ((intCells ds).toArray ++ r) 3 (0, 0))

theorem Bk.cell {w : World} {b : Nat} {ds : List Int} {r : Array Value} (h : Bk w b ds r) {i : Nat} {d : Int} (hd : ds[i]? = some d) : w.cell? ⟨b, i, none⟩ = some (.int .i64 d) := by
  have hi : i < ds.length := (List.getElem?_eq_some_iff.1 hd).1
  unfold Bk at h
  simp only [World.cell?, h]
  simp [intCells, Array.getElem?_append, hi]
  exact (List.getElem?_eq_some_iff.1 hd).2
theorem Bk.thaw {w : World} {b : Nat} {ds : List Int} {r : Array Value} (h : Bk w b ds r) (i : Nat) : w.frozen? ⟨b, i, none⟩ = false := by
  unfold Bk at h
  simp [World.frozen?, h]
theorem Bk.set {w : World} {b : Nat} {ds : List Int} {r : Array Value} (h : Bk w b ds r) (i : Nat) (d : Int) (hi : i < ds.length) : Bk (w.setCell ⟨b, i, none⟩ (.int .i64 d)) b (ds.set i d) r := by
  unfold Bk at *
  rw [heap_setCell_same w b i _ _ _ h]
  have e : (intCells (ds.set i d)).toArray = (intCells ds).toArray.setIfInBounds i (.int .i64 d) := by
    simp [intCells, List.map_set]
  rw [e]
  have hl : i < (intCells ds).toArray.size := by simpa [intCells] using hi
  rw [Array.setIfInBounds_append_left hl]
theorem Bk.drewN {w : World} {b : Nat} {ds : List Int} {r : Array Value} (h : Bk w b ds r) (n : Nat) : Bk (w.drewN n) b ds r := h
theorem Bk.kp {w w' : World} {b z : Nat} {ds : List Int} {r : Array Value} (h : Bk w b ds r) (hk : Kp z w w') (hne : b ≠ z) : Bk w' b ds r := by
  unfold Bk at *
  rw [hk.block b (lt_of_block h) hne]; exact h
theorem Bk.below {w w' : World} {b : Nat} {ds : List Int} {r : Array Value} (h : Bk w b ds r) (hb : Below w.heap.size w w') : Bk w' b ds r := by
  unfold Bk at *
  rw [hb.block b (lt_of_block h)]; exact h
theorem Bk.lt {w : World} {b : Nat} {ds : List Int} {r : Array Value} (h : Bk w b ds r) : b < w.heap.size := lt_of_block h
theorem Bk.ro {w : World} {b c : Nat} {ds : List Int} {r : Array Value} (h : Bk w b ds r) (h1 : ds.length ≤ c) (h2 : c ≤ 9223372036854775807) : Ro w (.slice (some ⟨b, 0, none⟩) ds.length c) ds :=
  ⟨_, c, rfl, h1, h2, fun _ => ⟨_, rfl, h.lt, fun i d hd => by rw [Addr.add_lit, Nat.zero_add]; exact h.cell hd⟩⟩
/-- another cell, another block. -/
theorem Bk.other {w : World} {b : Nat} {ds : List Int} {r : Array Value} (h : Bk w b ds r) {g : Nat} (hne : b ≠ g) (i : Nat) (u : Value) : Bk (w.setCell ⟨g, i, none⟩ u) b ds r := by
  unfold Bk at *
  rw [Below.heap_setCell _ _ _ _ hne]; exact h
theorem Bk.low {w w' : World} {b B : Nat} {ds : List Int} {r : Array Value} (h : Bk w b ds r) (hb : Below B w w') (hB : b < B) : Bk w' b ds r := by
  unfold Bk at *
  rw [hb.block b hB]; exact h
end Go.Proofs.YtagnjmellcibhaaGreatDoor

namespace Go.Proofs.YtagnjmellcibhaaGreatDoor
open Go.RowKit
set_option linter.unusedVariables false

theorem and_low (n : Nat) (h : n ≤ 144) : n &&& 4294967295 = n := by
  have := Nat.and_two_pow_sub_one_eq_mod n 32
  rw [show 2 ^ 32 - 1 = 4294967295 from rfl] at this
  rw [this]
  exact Nat.mod_eq_of_lt (by omega)

set_option maxHeartbeats 1000000 in
theorem mul64_one (n : Nat) (w : World) (h : n ≤ 144) :
    Calls Tryz.prog 148 #[.int .u64 1, .int .u64 (n : Nat)] w fun e w' => e = .returned (.tuple #[.int .u64 0, .int .u64 (n : Nat)]) ∧ w' = w := by
  have e1 : bits BinOp.and IntKind.u64 1 4294967295 = 1 := bits_and_u64_nat 1 4294967295 (by omega) (by omega)
  have e2 : bits BinOp.and IntKind.u64 (n : Int) 4294967295 = (n : Int) := by
    have := bits_and_u64_nat n 4294967295 (by omega) (by omega)
    rw [and_low n h] at this
    exact this
  have e3 : (n : Int) / 4294967296 = 0 := by omega
  have e4 : bits BinOp.and IntKind.u64 0 4294967295 = 0 := bits_and_u64_nat 0 4294967295 (by omega) (by omega)
  go_enter Tryz.func148, Tryz.ntmps148
  go_wp2
  go_ret2
  exact ⟨rfl, rfl⟩

set_option maxHeartbeats 1000000 in
theorem mul_one (n : Nat) (w : World) (h : n ≤ 144) :
    Calls Tryz.prog 145 #[.int .u64 1, .int .u64 (n : Nat)] w fun e w' => e = .returned (.tuple #[.int .u64 0, .int .u64 (n : Nat)]) ∧ w' = w := by
  go_enter Tryz.func145, Tryz.ntmps145
  go_wp2_with (go_at_call 148; refine (mul64_one _ _ h).mono ?_; rintro e w' ⟨rfl, rfl⟩)
  go_ret2
  exact ⟨rfl, rfl⟩

theorem wpList_copy_is {P : Program} (w : World) {ops : Array Oper} {rest : List Oper} {o : Oper} {a : Act} {Q : Exit → Act → World → Prop} (hgd : o.guard = none) (s x : Operand) (t tx : TypeId)
    (ho : o.op = .call { callee := .builtin .copy, args := #[s, x], argTypes := #[t, tx] }) (v xv v' : Value) (w' : World) (hv : a.eval s = v) (hx : a.eval x = xv)
    (hrun : (Builtin.copy_ #[t, tx] o.type #[v, xv]).run P w = .ok v' w') (h : wpList P ops Q rest (a.put o.dst v') w') : wpList P ops Q (o :: rest) a w :=
  wpList_plain hgd fun K hK => by
    unfold Oper.wp
    simp [execOp, ho, resolve, invoke, builtin, hv, hx, hrun, Result.andThen]
    exact hK _ _ h

/-- the first m are vv, of n. -/
def rpCells (vv : Int) (n m : Nat) : Array Value := (List.replicate m (Value.int .i64 vv) ++ List.replicate (n - m) (Value.int .i64 0)).toArray
def Rp (vv : Int) (w : World) (b n m : Nat) : Prop := w.heap[b]? = some (.cells (rpCells vv n m) 3 (0, 0))
theorem Rp.bk {vv : Int} {w : World} {b n : Nat} (h : Rp vv w b n n) : Bk w b (List.replicate n vv) #[] := by
  unfold Rp at h
  unfold Bk
  rw [h]
  simp [intCells, rpCells]
theorem Rp.cell {vv : Int} {w : World} {b n m : Nat} (h : Rp vv w b n m) {i : Nat} (hi : i < m) : w.cell? ⟨b, i, none⟩ = some (.int .i64 vv) := by
  unfold Rp at h
  simp only [World.cell?, h]
  simp [rpCells, List.getElem?_append, hi]
theorem Rp.lt {vv : Int} {w : World} {b n m : Nat} (h : Rp vv w b n m) : b < w.heap.size := lt_of_block h
theorem Rp.drewN {vv : Int} {w : World} {b n m : Nat} (h : Rp vv w b n m) (k : Nat) : Rp vv (w.drewN k) b n m := h

theorem info_int1 : (Tryz.prog.info? 3).map (·.size) = some 1 := by kernel_rfl

theorem rep_more (a z : Value) (n m k : Nat) (h : m + k ≤ n) : (List.replicate m a ++ List.replicate (n - m) z).take m ++ List.replicate k a ++ (List.replicate m a ++ List.replicate (n - m) z).drop (m + k) = List.replicate (m + k) a ++ List.replicate (n - (m + k)) z := by
  rw [List.take_left' (by simp), List.drop_append, List.length_replicate, List.drop_eq_nil_of_le (by simp), List.nil_append, List.drop_replicate, List.replicate_append_replicate]
  congr 2
  omega

/-- k more of them. -/
theorem rp_copy (vv : Int) (w : World) (b n m k : Nat) (dLen dCap sLen sCap : Nat) (x : Addr) (h : Rp vv w b n m) (hn : k = Nat.min sLen dLen) (hk : m + k ≤ n) (hs : ∀ j, j < k → w.cell? (x.add j) = some (.int .i64 vv)) :
    (Builtin.copy_ #[23, 23] 3 #[.slice (some ⟨b, m, none⟩) dLen dCap, .slice (some x) sLen sCap]).run Tryz.prog w = .ok (.int .i64 (k : Nat)) (w.setRow b (rpCells vv n (m + k))) ∧ Rp vv (w.setRow b (rpCells vv n (m + k))) b n (m + k) ∧ Kp b w (w.setRow b (rpCells vv n (m + k))) := by
  unfold Rp at h
  have r := run_copy_row (P := Tryz.prog) w 23 23 3 3 b m dLen dCap x sLen sCap _ 3 (List.replicate k (.int .i64 vv)) Tryz.underlying23 info_int1 h (by simp [hn]) (fun j v hv => by
    rw [List.getElem?_replicate] at hv
    split at hv
    · injection hv with hv
      rw [← hv]
      exact hs j (by assumption)
    · cases hv) (by simp [rpCells]; omega) (fun v hv => by rw [List.eq_of_mem_replicate hv]; rfl)
  rw [List.length_replicate, show (rpCells vv n m).toList = List.replicate m (Value.int .i64 vv) ++ List.replicate (n - m) (Value.int .i64 0) from rfl, rep_more _ _ n m k hk] at r
  exact ⟨r, setRow_heap w b _ _ _ _ h, ⟨rfl, rfl, rfl, by simp, fun i _ hi => setRow_other w b i _ hi⟩⟩

set_option maxRecDepth 100000 in
set_option maxHeartbeats 2000000 in
theorem repeat_ok (vv : Int) (u : Value) (n : Nat) (w : World) (hu : Ro w u [vv]) (n0 : 0 < n) (n1 : n ≤ 144) :
    Calls Tryz.prog 142 #[u, .int .i64 (n : Nat)] w fun e w' => ∃ b, e = .returned (.slice (some ⟨b, 0, none⟩) n n) ∧ w.heap.size ≤ b ∧ Bk w' b (List.replicate n vv) #[] ∧ Below w.heap.size w w' := by
  obtain ⟨a, c, rfl, c1, c2, ca⟩ := hu
  obtain ⟨x, rfl, xl, hx⟩ := ca (by simp)
  have cx : Hid (w.cell? (x.add 0) = some (.int .i64 vv) ∧ x.block < w.heap.size) := ⟨hx 0 _ rfl, xl⟩
  clear ca hx xl
  simp only [List.length_cons, List.length_nil, Nat.zero_add] at c1 ⊢
  go_enter Tryz.func142, Tryz.ntmps142
  go_wp2_with fail
  refine (mul_one _ _ n1).mono ?_
  rintro e w' ⟨rfl, rfl⟩
  have h9 : ¬ (9223372036854775807 : Int) < (n : Int) := by omega
  go_wp2_with (at_make; obtain ⟨i0, hi, hz0, hz1, hz2⟩ := info_parts info_int; refine wpList_make_full _ rfl _ _ 23 rfl w'.heap.size 3 i0 (.int .i64 0) 1 Tryz.underlying23 hi hz0 hz1 _ _ _ _ n rfl rfl rfl rfl (by rw [hz2]; omega) (by unfold maxLen; omega) (Nat.le_refl _) ?_)
  intro w1 o1 g1
  clear hi hz0 hz1 hz2 h9
  have P1 : Hid (Rp vv w1 w'.heap.size n 0) := by
    rcases o1.2 with ⟨h, _⟩ | ⟨g, cap, cur, hv, hb, hg, h1, h2, h3, h4⟩
    · cases h
    · cases hv
      unfold Hid Rp rpCells
      rw [hg]
      congr 1
      have e : cur.toList = List.replicate n (Value.int .i64 0) := by
        have := toList_madeCells_one (.int .i64 0) n
        rw [List.take_of_length_le (by simp; omega)] at h4
        rw [h4]
        exact this
      simp only [List.replicate_zero, List.nil_append, Nat.sub_zero]
      rw [← e]
  have B1 : Hid (Below w'.heap.size w' w1) := (Below.refl _ _).grown g1 (Nat.le_refl _) (fun k hk => by cases hk)
  clear o1 g1
  obtain ⟨r2, p2, k2⟩ := rp_copy vv w1 w'.heap.size n 0 1 n n 1 c x P1.out (by show 1 = min 1 n; omega) (by omega) (fun j hj => by
    rw [show j = 0 by omega, B1.out.cell (p := x.add 0) (by rw [add_block]; exact cx.out.2)]
    exact cx.out.1)
  simp only [Nat.zero_add] at r2 p2 k2
  generalize w1.setRow w'.heap.size (rpCells vv n 1) = w2 at *
  have P2 : Hid (Rp vv w2 w'.heap.size n 1) := p2
  have B2 : Hid (Below w'.heap.size w' w2) := k2.below B1.out B1.out.size (Nat.le_refl _)
  clear p2 k2 P1 B1
  go_wp2
  clear r2
  obtain ⟨z, hz⟩ : ∃ z, w'.heap.size = z := ⟨_, rfl⟩
  rw [hz] at P2 B2
  simp only [hz]
  have Hz : Hid (w'.heap.size = z) := hz
  clear hz
  go_loopw [8] (fun i W' => ∃ m : Nat, 1 ≤ m ∧ m ≤ n ∧ i = .int .i64 (m : Nat) ∧ Rp vv W' z n m ∧ Below z w' W') (fun i _ => n - (intOf i).toNat)
  case atStart => exact ⟨1, Nat.le_refl _, n0, rfl, P2, B2⟩
  case round =>
    obtain ⟨m, m1, m2, rfl, hp, hb⟩ := hrel
    have P : Hid (Rp vv wr z n m) := hp
    have B : Hid (Below z w' wr) := hb
    clear hp hb P2 B2
    by_cases h0 : m = n
    · subst h0
      go_wp2
      go_ret
      exact ⟨z, rfl, by rw [Hz.out]; exact Nat.le_refl _, P.out.bk, by rw [Hz.out]; exact B⟩
    · have hm : m < n := by omega
      obtain ⟨k, hk⟩ : ∃ k, k = Nat.min m (n - m) := ⟨_, rfl⟩
      have hk' : k ≤ m ∧ k ≤ n - m ∧ 0 < k := by
        have : k = min m (n - m) := hk
        omega
      have rr : (Builtin.copy_ #[23, 23] 3 #[.slice (some ⟨z, m, none⟩) (n - m) (n - m), .slice (some ⟨z, 0, none⟩) m n]).run Tryz.prog wr.drew = .ok (.int .i64 (k : Nat)) (wr.drew.setRow z (rpCells vv n (m + k))) ∧ _ :=
        rp_copy vv wr.drew z n m k (n - m) (n - m) m n ⟨z, 0, none⟩ P.out hk (by omega) (fun j hj => by
          rw [Addr.add_lit, Nat.zero_add]
          exact Rp.cell (w := wr) P.out (by omega))
      obtain ⟨r1, p1, q1⟩ := rr
      have P1 : Hid (Rp vv (wr.drew.setRow z (rpCells vv n (m + k))) z n (m + k)) := p1
      have B1 : Hid (Below z w' (wr.drew.setRow z (rpCells vv n (m + k)))) := q1.below B.out.drew (by have := P.out.lt; show z ≤ wr.heap.size; omega) (Nat.le_refl _)
      obtain ⟨k1, k2, k3⟩ := hk'
      clear hk p1 q1
      generalize wr.drew.setRow z (rpCells vv n (m + k)) = w3 at *
      go_wp2
      go_region
      clear r1
      go_wp2
      go_round
      case rel => exact ⟨m + k, by omega, by omega, by go_num, P1, B1⟩
      case measure => simp [intOf]; omega
end Go.Proofs.YtagnjmellcibhaaGreatDoor

namespace Go.Proofs.YtagnjmellcibhaaGreatDoor.Fd

theorem near_mem {W H a : Nat} {x : Int} : x ∈ near W H a ↔ (0 < a / W ∧ x = (a : Int) - W) ∨ (0 < a % W ∧ x = (a : Int) - 1) ∨ (a % W + 1 < W ∧ x = (a : Int) + 1) ∨ (a / W + 1 < H ∧ x = (a : Int) + W) := by
  unfold near
  simp only [List.mem_append]
  constructor
  · rintro (h | h | h | h)
    · split at h
      · simp at h; left; exact ⟨by assumption, h⟩
      · simp at h
    · split at h
      · simp at h; right; left; exact ⟨by assumption, h⟩
      · simp at h
    · split at h
      · simp at h; right; right; left; exact ⟨by assumption, h⟩
      · simp at h
    · split at h
      · simp at h; right; right; right; exact ⟨by assumption, h⟩
      · simp at h
  · rintro (⟨h, e⟩ | ⟨h, e⟩ | ⟨h, e⟩ | ⟨h, e⟩)
    · left; rw [if_pos h, e]; simp
    · right; left; rw [if_pos h, e]; simp
    · right; right; left; rw [if_pos h, e]; simp
    · right; right; right; rw [if_pos h, e]; simp
theorem near_len (W H a : Nat) : (near W H a).length ≤ 4 := by
  unfold near
  simp only [List.length_append]
  have h : ∀ (c : Prop) [Decidable c] (x : Int), (if c then [x] else []).length ≤ 1 := by
    intro c _ x
    split <;> simp
  have h1 := h (0 < a / W) ((a : Int) - W)
  have h2 := h (0 < a % W) ((a : Int) - 1)
  have h3 := h (a % W + 1 < W) ((a : Int) + 1)
  have h4 := h (a / W + 1 < H) ((a : Int) + W)
  omega

/-- where a cell beside one lies; and that it has that one beside. -/
theorem near_cell {W H a : Nat} {x : Int} (hW : 0 < W) (ha : a < W * H) (h : x ∈ near W H a) : ∃ t : Nat, x = t ∧ t < W * H ∧ (a : Int) ∈ near W H t := by
  have e := Nat.div_add_mod a W
  have hr : a / W < H := Nat.div_lt_of_lt_mul ha
  have hc := Nat.mod_lt a hW
  have key : ∀ r c : Nat, c < W → (W * r + c) / W = r ∧ (W * r + c) % W = c := by
    intro r c h
    constructor
    · rw [Nat.mul_add_div hW, Nat.div_eq_of_lt h]; omega
    · rw [Nat.mul_add_mod, Nat.mod_eq_of_lt h]
  have bd : ∀ r c : Nat, r < H → c < W → W * r + c < W * H := by
    intro r c h1 h2
    have := Nat.mul_le_mul_left W (show r + 1 ≤ H by omega)
    rw [Nat.mul_add, Nat.mul_one] at this
    omega
  generalize a / W = r at *
  generalize a % W = c at *
  have ei : (a : Int) = (W : Int) * r + c := by rw [← e]; simp
  have hh := near_mem.1 h
  have e1 := (key r c hc).1
  have e2 := (key r c hc).2
  rw [e] at e1 e2
  rw [e1, e2] at hh
  rcases hh with ⟨h1, hx⟩ | ⟨h1, hx⟩ | ⟨h1, hx⟩ | ⟨h1, hx⟩
  · obtain ⟨r', rfl⟩ : ∃ r', r = r' + 1 := ⟨r - 1, by omega⟩
    have k := key r' c hc
    refine ⟨W * r' + c, ?_, bd r' c (by omega) hc, near_mem.2 ?_⟩
    · rw [hx, ei]; simp [Int.mul_add]; omega
    · rw [k.1, k.2]
      right; right; right
      refine ⟨hr, ?_⟩
      rw [ei]; simp [Int.mul_add]; omega
  · obtain ⟨c', rfl⟩ : ∃ c', c = c' + 1 := ⟨c - 1, by omega⟩
    have k := key r c' (by omega)
    refine ⟨W * r + c', ?_, bd r c' hr (by omega), near_mem.2 ?_⟩
    · rw [hx, ei]; simp; omega
    · rw [k.1, k.2]
      right; right; left
      refine ⟨hc, ?_⟩
      rw [ei]; simp; omega
  · have k := key r (c + 1) h1
    refine ⟨W * r + (c + 1), ?_, bd r (c + 1) hr h1, near_mem.2 ?_⟩
    · rw [hx, ei]; simp; omega
    · rw [k.1, k.2]
      right; left
      refine ⟨by omega, ?_⟩
      rw [ei]; simp; omega
  · have k := key (r + 1) c hc
    refine ⟨W * (r + 1) + c, ?_, bd (r + 1) c h1 hc, near_mem.2 ?_⟩
    · rw [hx, ei]; simp [Int.mul_add]; omega
    · rw [k.1, k.2]
      left
      refine ⟨by omega, ?_⟩
      rw [ei]; simp [Int.mul_add]; omega

theorem pair_app {l m : List Int} (h1 : l.Pairwise (· < ·)) (h2 : m.Pairwise (· < ·)) (h3 : ∀ x ∈ l, ∀ y ∈ m, x < y) : (l ++ m).Pairwise (· < ·) := List.pairwise_append.2 ⟨h1, h2, h3⟩
theorem pair_if (c : Prop) [Decidable c] (x : Int) : (if c then [x] else []).Pairwise (· < ·) := by
  split <;> simp
theorem mem_if {c : Prop} [Decidable c] {x y : Int} (h : y ∈ (if c then [x] else [])) : c ∧ y = x := by
  split at h
  · simp at h; exact ⟨by assumption, h⟩
  · simp at h
/-- the cells beside one rise (a field is 2 wide at least where there are two beside one another in a row). -/
theorem near_rise (W H a : Nat) (hW : 0 < W) : (near W H a).Pairwise (· ≠ ·) := by
  unfold near
  by_cases h1 : W = 1
  · subst h1
    rw [if_neg (show ¬ 0 < a % 1 by omega), if_neg (show ¬ a % 1 + 1 < 1 by omega), List.nil_append, List.nil_append]
    refine (pair_app (pair_if _ _) (pair_if _ _) ?_).imp (fun h => by omega)
    intro x hx y hy
    have := mem_if hx
    have := mem_if hy
    omega
  · refine (pair_app (pair_if _ _) (pair_app (pair_if _ _) (pair_app (pair_if _ _) (pair_if _ _) ?_) ?_) ?_).imp (fun h => by omega)
    · intro x hx y hy
      have := mem_if hx
      have := mem_if hy
      omega
    · intro x hx y hy
      have := mem_if hx
      rcases List.mem_append.1 hy with hy | hy
      · have := mem_if hy; omega
      · have := mem_if hy; omega
    · intro x hx y hy
      have := mem_if hx
      rcases List.mem_append.1 hy with hy | hy
      · have := mem_if hy; omega
      · rcases List.mem_append.1 hy with hy | hy
        · have := mem_if hy; omega
        · have := mem_if hy; omega
end Go.Proofs.YtagnjmellcibhaaGreatDoor.Fd

namespace Go.Proofs.YtagnjmellcibhaaGreatDoor.Wy

/-- there is a way from a cell to t whose steps come to d. -/
inductive Way (nb : Nat → List Int) (st : Nat → Nat → Int) (t : Nat) : Nat → Int → Prop
  | here : Way nb st t t 0
  | step {i j : Nat} {d : Int} : (j : Int) ∈ nb i → 0 < st i j → Way nb st t j d → Way nb st t i (st i j + d)

section
variable {nb : Nat → List Int} {st : Nat → Nat → Int} {t : Nat}

theorem Way.nonneg {i : Nat} {d : Int} (h : Way nb st t i d) : 0 ≤ d := by
  induction h with
  | here => omega
  | step _ h1 _ ih => omega

/-- x is how far it is from i: -1, if there is no way. -/
def Least (nb : Nat → List Int) (st : Nat → Nat → Int) (t i : Nat) (x : Int) : Prop :=
  (x = -1 ∧ ∀ d, ¬ Way nb st t i d) ∨ (Way nb st t i x ∧ ∀ d, Way nb st t i d → x ≤ d)
theorem Least.uniq {i : Nat} {x y : Int} (hx : Least nb st t i x) (hy : Least nb st t i y) : x = y := by
  rcases hx with ⟨rfl, hx⟩ | ⟨h1, h2⟩
  · rcases hy with ⟨rfl, _⟩ | ⟨h3, _⟩
    · rfl
    · exact absurd h3 (hx _)
  · rcases hy with ⟨rfl, hy⟩ | ⟨h3, h4⟩
    · exact absurd h1 (hy _)
    · have := h2 _ h3
      have := h4 _ h1
      omega
theorem Least.ge {i : Nat} {x : Int} (h : Least nb st t i x) : -1 ≤ x := by
  rcases h with ⟨rfl, _⟩ | ⟨h, _⟩
  · omega
  · have := h.nonneg; omega

/-- the list of all. -/
def IsFar (nb : Nat → List Int) (st : Nat → Nat → Int) (t n : Nat) (l : List Int) : Prop := l.length = n ∧ ∀ (i : Nat) x, l[i]? = some x → Least nb st t i x
theorem IsFar.uniq {n : Nat} {l m : List Int} (hl : IsFar nb st t n l) (hm : IsFar nb st t n m) : l = m := by
  apply List.ext_getElem?
  intro i
  by_cases h : i < n
  · have h1 : i < l.length := by rw [hl.1]; exact h
    have h2 : i < m.length := by rw [hm.1]; exact h
    rw [List.getElem?_eq_getElem h1, List.getElem?_eq_getElem h2, (hl.2 i _ (List.getElem?_eq_getElem h1)).uniq (hm.2 i _ (List.getElem?_eq_getElem h2))]
  · rw [List.getElem?_eq_none (by rw [hl.1]; omega), List.getElem?_eq_none (by rw [hm.1]; omega)]

/-- what is told is so: there is such a way. -/
def Sound (nb : Nat → List Int) (st : Nat → Nat → Int) (t : Nat) (l : List Int) : Prop := ∀ (i : Nat) x, l[i]? = some x → x = -1 ∨ Way nb st t i x
/-- from no cell is it further than from one beside it, and the step onto that. -/
def Shut (nb : Nat → List Int) (st : Nat → Nat → Int) (l : List Int) (i : Nat) : Prop := ∀ (j : Nat) x y, l[i]? = some x → l[j]? = some y → (j : Int) ∈ nb i → 0 < st i j → 0 ≤ y → 0 ≤ x ∧ x ≤ st i j + y

/-- what is sound and shut is how far it is. -/
theorem far_of {n : Nat} {l : List Int} (hn : l.length = n) (hnb : ∀ (i j : Nat), i < n → (j : Int) ∈ nb i → j < n) (ht : l[t]? = some 0) (hs : Sound nb st t l) (hc : ∀ i, i < n → Shut nb st l i) : IsFar nb st t n l := by
  have key : ∀ i d, Way nb st t i d → i < n → ∃ x, l[i]? = some x ∧ 0 ≤ x ∧ x ≤ d := by
    intro i d h
    induction h with
    | here => intro _; exact ⟨0, ht, by omega, by omega⟩
    | @step i j d h1 h2 h3 ih =>
      intro hi
      obtain ⟨y, hy, y0, yd⟩ := ih (hnb i j hi h1)
      have hx : i < l.length := by rw [hn]; exact hi
      have := hc i hi j _ y (List.getElem?_eq_getElem hx) hy h1 h2 y0
      exact ⟨_, List.getElem?_eq_getElem hx, this.1, by omega⟩
  refine ⟨hn, fun i x hx => ?_⟩
  have hi : i < n := by rw [← hn]; exact (List.getElem?_eq_some_iff.1 hx).1
  rcases hs i x hx with rfl | hw
  · refine .inl ⟨rfl, fun d hd => ?_⟩
    obtain ⟨x, h1, h2, -⟩ := key i d hd hi
    rw [hx] at h1
    injection h1 with h1
    omega
  · refine .inr ⟨hw, fun d hd => ?_⟩
    obtain ⟨y, h1, h2, h3⟩ := key i d hd hi
    rw [hx] at h1
    injection h1 with h1
    omega
/-- and the other way round. -/
theorem IsFar.sound {n : Nat} {l : List Int} (h : IsFar nb st t n l) : Sound nb st t l := fun i x hx => by
  rcases h.2 i x hx with ⟨rfl, _⟩ | ⟨h, _⟩
  · exact .inl rfl
  · exact .inr h
theorem IsFar.shut {n : Nat} {l : List Int} (h : IsFar nb st t n l) (i : Nat) : Shut nb st l i := by
  intro j x y hx hy hj hs y0
  rcases h.2 j y hy with ⟨rfl, _⟩ | ⟨hy1, _⟩
  · omega
  · have hw := Way.step hj hs hy1
    rcases h.2 i x hx with ⟨rfl, hx1⟩ | ⟨hx1, hx2⟩
    · exact absurd hw (hx1 _)
    · exact ⟨hx1.nonneg, hx2 _ hw⟩
theorem IsFar.here {n : Nat} {l : List Int} (h : IsFar nb st t n l) (ht : t < n) : l[t]? = some 0 := by
  have hl : t < l.length := by rw [h.1]; exact ht
  have h1 := List.getElem?_eq_getElem hl
  rcases h.2 t _ h1 with ⟨_, h2⟩ | ⟨h2, h3⟩
  · exact absurd Way.here (h2 0)
  · have := h3 0 .here
    have := h2.nonneg
    rw [h1, show l[t] = 0 by omega]
/-- from where there is a way, one is beside that is on a shortest. -/
theorem IsFar.next {n : Nat} {l : List Int} (h : IsFar nb st t n l) (hnb : ∀ (i j : Nat), i < n → (j : Int) ∈ nb i → j < n) {i : Nat} {x : Int} (hx : l[i]? = some x) (x0 : 0 ≤ x) (hi : i ≠ t) :
    ∃ (j : Nat) (y : Int), (j : Int) ∈ nb i ∧ l[j]? = some y ∧ 0 < st i j ∧ 0 ≤ y ∧ x = st i j + y := by
  have hin : i < n := by rw [← h.1]; exact (List.getElem?_eq_some_iff.1 hx).1
  rcases h.2 i x hx with ⟨rfl, _⟩ | ⟨hw, hl⟩
  · omega
  · cases hw with
    | here => exact absurd rfl hi
    | @step _ j d h1 h2 h3 =>
      have hj : j < l.length := by rw [h.1]; exact hnb i j hin h1
      have hy := List.getElem?_eq_getElem hj
      refine ⟨j, _, h1, hy, h2, ?_, ?_⟩
      · rcases h.2 j _ hy with ⟨_, h4⟩ | ⟨h4, _⟩
        · exact absurd h3 (h4 _)
        · exact h4.nonneg
      · rcases h.2 j _ hy with ⟨_, h4⟩ | ⟨h4, h5⟩
        · exact absurd h3 (h4 _)
        · have a1 := h5 _ h3
          have a2 := hl _ (Way.step h1 h2 h4)
          omega

/-- one cell nearer. -/
theorem Sound.set {l : List Int} {i j : Nat} {y : Int} (h : Sound nb st t l) (hy : l[j]? = some y) (hj : (j : Int) ∈ nb i) (hs : 0 < st i j) (y0 : 0 ≤ y) : Sound nb st t (l.set i (st i j + y)) := by
  intro k x hk
  rw [List.getElem?_set] at hk
  by_cases e : i = k
  · subst e
    by_cases hl : i < l.length
    · simp only [hl, if_true] at hk
      injection hk with hk
      subst hk
      rcases h j y hy with rfl | hw
      · omega
      · exact .inr (.step hj hs hw)
    · simp [hl] at hk
  · rw [if_neg e] at hk
    exact h k x hk
end

/-! how often a cell may get nearer. -/
/-- what is left. -/
def left (M : Nat) (l : List Int) : Nat := (l.map fun x => if x < 0 then M else x.toNat).sum
/-- how many are told. -/
def told (l : List Int) : Nat := (l.map fun x => if x < 0 then 0 else 1).sum
theorem sum_set (f : Int → Nat) (l : List Int) (i : Nat) (x v : Int) (h : l[i]? = some x) : ((l.set i v).map f).sum + f x = (l.map f).sum + f v := by
  induction l generalizing i with
  | nil => simp at h
  | cons a l ih =>
    cases i with
    | zero =>
      simp at h
      subst h
      simp
      omega
    | succ i =>
      simp at h
      have := ih i h
      simp only [List.set_cons_succ, List.map_cons, List.sum_cons]
      omega
theorem left_le (M : Nat) (l : List Int) (h : ∀ x ∈ l, x ≤ M) : left M l ≤ l.length * M := by
  unfold left
  induction l with
  | nil => simp
  | cons a l ih =>
    have h1 := ih (fun x hx => h x (List.mem_cons_of_mem _ hx))
    have h2 := h a (List.mem_cons_self ..)
    simp only [List.map_cons, List.sum_cons, List.length_cons, Nat.add_mul, Nat.one_mul]
    split <;> omega
theorem told_le (l : List Int) : told l ≤ l.length := by
  unfold told
  induction l with
  | nil => simp
  | cons a l ih =>
    simp only [List.map_cons, List.sum_cons, List.length_cons]
    split <;> omega
/-- no cell is further than two for each that is told, but one. -/
def Flat (l : List Int) : Prop := ∀ (i : Nat) x, l[i]? = some x → x < 0 ∨ x + 2 ≤ 2 * told l
theorem Flat.set {l : List Int} {i j : Nat} {x y s : Int} (h : Flat l) (hx : l[i]? = some x) (hy : l[j]? = some y) (y0 : 0 ≤ y) (s0 : 0 < s) (s2 : s ≤ 2) (hn : x < 0 ∨ s + y < x) : Flat (l.set i (s + y)) := by
  have e := sum_set (fun x => if x < 0 then 0 else 1) l i x (s + y) hx
  have ht : told (l.set i (s + y)) + (if x < 0 then 0 else 1) = told l + 1 := by
    unfold told
    rw [e, if_neg (show ¬ s + y < 0 by omega)]
  have hyl := h j y hy
  have hxl := h i x hx
  intro k z hk
  rw [List.getElem?_set] at hk
  by_cases ek : i = k
  · subst ek
    have hl : i < l.length := (List.getElem?_eq_some_iff.1 hx).1
    simp only [hl, if_true] at hk
    injection hk with hk
    subst hk
    right
    by_cases q : x < 0
    · rw [if_pos q] at ht; omega
    · rw [if_neg q] at ht; omega
  · rw [if_neg ek] at hk
    have hz := h k z hk
    by_cases q : x < 0
    · rw [if_pos q] at ht; omega
    · rw [if_neg q] at ht; omega
theorem left_set {l : List Int} {i j n : Nat} {x y s : Int} (h : Flat l) (hl : l.length = n) (hx : l[i]? = some x) (hy : l[j]? = some y) (y0 : 0 ≤ y) (s0 : 0 < s) (s2 : s ≤ 2) (hn : x < 0 ∨ s + y < x) : left (2 * n + 1) (l.set i (s + y)) < left (2 * n + 1) l := by
  have e := sum_set (fun x => if x < 0 then 2 * n + 1 else x.toNat) l i x (s + y) hx
  have hyl := h j y hy
  have ht := told_le l
  unfold left
  rw [if_neg (show ¬ s + y < 0 by omega)] at e
  by_cases q : x < 0
  · rw [if_pos q] at e; omega
  · rw [if_neg q] at e; omega
/-! a list of cells to go on from. -/
section
variable {nb : Nat → List Int} {st : Nat → Nat → Int} {t n : Nat}

/-- Shut, of one pair. -/
def Pr (nb : Nat → List Int) (st : Nat → Nat → Int) (l : List Int) (i j : Nat) : Prop := ∀ x y, l[i]? = some x → l[j]? = some y → (j : Int) ∈ nb i → 0 < st i j → 0 ≤ y → 0 ≤ x ∧ x ≤ st i j + y

/-- cells beside one another are so either way; none is beside itself; a step is 2 at most. -/
structure Even (nb : Nat → List Int) (st : Nat → Nat → Int) (n : Nat) : Prop where
  cell : ∀ (i : Nat) x, i < n → x ∈ nb i → ∃ j : Nat, x = j ∧ j < n ∧ (i : Int) ∈ nb j
  other : ∀ (i : Nat), i < n → (i : Int) ∉ nb i
  two : ∀ i j, st i j ≤ 2
theorem Even.lt (h : Even nb st n) : ∀ (i j : Nat), i < n → (j : Int) ∈ nb i → j < n := fun i j hi hj => by
  obtain ⟨k, e, hk, -⟩ := h.cell i j hi hj
  have : j = k := by omega
  omega
theorem Even.back (h : Even nb st n) {i j : Nat} (hi : i < n) (hj : (j : Int) ∈ nb i) : (i : Int) ∈ nb j := by
  obtain ⟨k, e, hk, hb⟩ := h.cell i j hi hj
  have : j = k := by omega
  rw [this]
  exact hb

/-- between two rounds: td, the cells to go on from. -/
structure Wk (nb : Nat → List Int) (st : Nat → Nat → Int) (t n : Nat) (l : List Int) (td : List Nat) : Prop where
  len : l.length = n
  here : l[t]? = some 0
  sound : Sound nb st t l
  flat : Flat l
  todo : ∀ j ∈ td, ∃ y, l[j]? = some y ∧ 0 ≤ y
  shut : ∀ i j, j ∉ td → Pr nb st l i j
/-- in a round: k cells beside the first one have been looked at. -/
structure Wi (nb : Nat → List Int) (st : Nat → Nat → Int) (t n : Nat) (l : List Int) (a : Nat) (rest : List Nat) (k : Nat) : Prop where
  wk : Wk nb st t n l (a :: rest)
  mid : ∀ (q i : Nat), q < k → (nb a)[q]? = some (i : Int) → Pr nb st l i a

theorem Wk.start (ht : t < n) : Wk nb st t n ((List.replicate n (-1)).set t 0) [t] := by
  have get : ∀ (i : Nat) x, ((List.replicate n (-1 : Int)).set t 0)[i]? = some x → (i = t ∧ x = 0) ∨ (i ≠ t ∧ x = -1) := by
    intro i x hx
    rw [List.getElem?_set] at hx
    by_cases e : t = i
    · subst e
      rw [if_pos rfl, List.length_replicate, if_pos ht] at hx
      injection hx with hx
      exact .inl ⟨rfl, hx.symm⟩
    · rw [if_neg e, List.getElem?_replicate] at hx
      split at hx
      · injection hx with hx
        exact .inr ⟨fun h => e h.symm, hx.symm⟩
      · cases hx
  have h0 : ((List.replicate n (-1 : Int)).set t 0)[t]? = some 0 := by
    rw [List.getElem?_set, if_pos rfl, List.length_replicate, if_pos ht]
  refine ⟨by simp, h0, fun i x hx => ?_, fun i x hx => ?_, fun j hj => ?_, fun i j hj x y hx hy => ?_⟩
  · rcases get i x hx with ⟨rfl, rfl⟩ | ⟨_, rfl⟩
    · exact .inr .here
    · exact .inl rfl
  · rcases get i x hx with ⟨rfl, rfl⟩ | ⟨_, rfl⟩
    · right
      have e := sum_set (fun x => if x < 0 then 0 else 1) (List.replicate n (-1)) i (-1) 0 (by rw [List.getElem?_replicate, if_pos ht])
      have : told ((List.replicate n (-1)).set i 0) = ((List.replicate n (-1 : Int)).map fun x => if x < 0 then 0 else 1).sum + 1 := by
        unfold told
        simpa using e
      omega
    · left; omega
  · simp at hj
    subst hj
    exact ⟨0, h0, by omega⟩
  · intro _ _ y0
    rcases get j y hy with ⟨rfl, rfl⟩ | ⟨_, rfl⟩
    · simp at hj
    · omega

theorem left_start (ht : t < n) (hn : n ≤ 144) : left (2 * n + 1) ((List.replicate n (-1)).set t 0) ≤ 41616 := by
  refine Nat.le_trans (left_le _ _ fun x hx => ?_) ?_
  · rcases List.mem_or_eq_of_mem_set hx with h | h
    · rw [List.eq_of_mem_replicate h]; omega
    · omega
  · rw [List.length_set, List.length_replicate]
    exact Nat.mul_le_mul hn (show 2 * n + 1 ≤ 289 by omega)

theorem Wi.skip {l : List Int} {a b k : Nat} {rest : List Nat} {x y : Int} (h : Wi nb st t n l a rest k) (hb : (nb a)[k]? = some (b : Int)) (hx : l[b]? = some x) (hy : l[a]? = some y) (hs : 0 < st b a → 0 ≤ x ∧ x ≤ st b a + y) : Wi nb st t n l a rest (k + 1) := by
  refine ⟨h.wk, fun q i hq hi => ?_⟩
  by_cases e : q = k
  · subst e
    rw [hb] at hi
    injection hi with hi
    have : b = i := by omega
    subst this
    intro x' y' hx' hy' _ h0 _
    rw [hx] at hx'
    rw [hy] at hy'
    injection hx' with hx'
    injection hy' with hy'
    subst hx'
    subst hy'
    exact hs h0
  · exact h.mid q i (by omega) hi

theorem Wi.set {l : List Int} {a b k : Nat} {rest : List Nat} {x y : Int} (E : Even nb st n) (h : Wi nb st t n l a rest k) (hb : (nb a)[k]? = some (b : Int)) (hx : l[b]? = some x) (hy : l[a]? = some y) (h0 : 0 < st b a) (hn : x < 0 ∨ st b a + y < x) :
    Wi nb st t n (l.set b (st b a + y)) a (rest ++ [b]) (k + 1) ∧ left (2 * n + 1) (l.set b (st b a + y)) < left (2 * n + 1) l := by
  have an : a < n := by rw [← h.wk.len]; exact (List.getElem?_eq_some_iff.1 hy).1
  have bn : b < l.length := (List.getElem?_eq_some_iff.1 hx).1
  have hm : (b : Int) ∈ nb a := List.mem_of_getElem? hb
  have hm' := E.back an hm
  have hab : b ≠ a := by
    rintro rfl
    exact E.other b an hm
  obtain ⟨y1, hy1, y0⟩ := h.wk.todo a (List.mem_cons_self ..)
  rw [hy] at hy1
  injection hy1 with hy1
  subst hy1
  have hbt : b ≠ t := by
    rintro rfl
    rw [h.wk.here] at hx
    injection hx with hx
    omega
  have get : ∀ (i : Nat) z, (l.set b (st b a + y))[i]? = some z → (i = b ∧ z = st b a + y) ∨ (i ≠ b ∧ l[i]? = some z) := by
    intro i z hz
    rw [List.getElem?_set] at hz
    by_cases e : b = i
    · subst e
      rw [if_pos rfl, if_pos bn] at hz
      injection hz with hz
      exact .inl ⟨rfl, hz.symm⟩
    · rw [if_neg e] at hz
      exact .inr ⟨fun h => e h.symm, hz⟩
  have keep : ∀ (i : Nat), i ≠ b → (l.set b (st b a + y))[i]? = l[i]? := by
    intro i hi
    rw [List.getElem?_set, if_neg (fun h => hi h.symm)]
  refine ⟨⟨⟨by simp [h.wk.len], ?_, h.wk.sound.set hy hm' h0 y0, h.wk.flat.set hx hy y0 h0 (E.two _ _) hn, fun j hj => ?_, fun i j hj => ?_⟩, fun q i hq hi => ?_⟩, left_set h.wk.flat h.wk.len hx hy y0 h0 (E.two _ _) hn⟩
  · rw [keep t (fun h => hbt h.symm)]
    exact h.wk.here
  · by_cases e : j = b
    · subst e
      exact ⟨st j a + y, by rw [List.getElem?_set, if_pos rfl, if_pos bn], by omega⟩
    · rw [keep j e]
      refine h.wk.todo j ?_
      simp only [List.mem_cons, List.mem_append, List.not_mem_nil, or_false] at hj ⊢
      rcases hj with hj | hj | hj
      · exact .inl hj
      · exact .inr hj
      · exact absurd hj e
  · have hj1 : j ∉ a :: rest := by
      simp only [List.mem_cons, List.mem_append, List.not_mem_nil, or_false, not_or] at hj ⊢
      exact ⟨hj.1, hj.2.1⟩
    have hj2 : j ≠ b := by
      simp only [List.mem_cons, List.mem_append, List.not_mem_nil, or_false, not_or] at hj
      exact hj.2.2
    have P := h.wk.shut i j hj1
    intro x' y' hx' hy' hn' h0' y0'
    rw [keep j hj2] at hy'
    rcases get i x' hx' with ⟨rfl, rfl⟩ | ⟨_, hx1⟩
    · have := P x y' hx hy' hn' h0' y0'
      omega
    · exact P x' y' hx1 hy' hn' h0' y0'
  · intro x' y' hx' hy' hn' h0' y0'
    rw [keep a (fun h => hab h.symm), hy] at hy'
    injection hy' with hy'
    subst hy'
    rcases get i x' hx' with ⟨rfl, rfl⟩ | ⟨ib, hx1⟩
    · omega
    · have hq' : q < k := by
        rcases Nat.lt_or_ge q k with h | h
        · exact h
        · have : q = k := by omega
          subst this
          rw [hb] at hi
          injection hi with hi
          exact absurd (by omega) ib
      exact h.mid q i hq' hi x' y hx1 hy hn' h0' y0'

theorem Wi.done {l : List Int} {a : Nat} {rest : List Nat} (E : Even nb st n) (h : Wi nb st t n l a rest (nb a).length) : Wk nb st t n l rest := by
  refine ⟨h.wk.len, h.wk.here, h.wk.sound, h.wk.flat, fun j hj => h.wk.todo j (List.mem_cons_of_mem _ hj), fun i j hj => ?_⟩
  by_cases e : j = a
  · subst e
    intro x y hx hy hn h0 y0
    have hi : i < n := by rw [← h.wk.len]; exact (List.getElem?_eq_some_iff.1 hx).1
    obtain ⟨q, hq⟩ := List.mem_iff_getElem?.1 (E.back hi hn)
    exact h.mid q i (List.getElem?_eq_some_iff.1 hq).1 hq x y hx hy hn h0 y0
  · exact h.wk.shut i j (by simp [e, hj])
theorem Wk.far {l : List Int} (E : Even nb st n) (h : Wk nb st t n l []) : IsFar nb st t n l := far_of h.len E.lt h.here h.sound fun i hi j => h.shut i j (by simp)
end

/-! there and back. -/
theorem Way.snoc {nb : Nat → List Int} {s : Nat → Int} {a i j : Nat} {d : Int} (h : Way nb (fun _ j => s j) j a d) (hi : (i : Int) ∈ nb j) (h0 : 0 < s i) : Way nb (fun _ j => s j) i a (d + s i) := by
  induction h with
  | here =>
    have := Way.step (st := fun _ j => s j) hi h0 .here
    rwa [show s i + 0 = 0 + s i by omega] at this
  | @step p q d h1 h2 h3 ih =>
    have := Way.step (st := fun _ j => s j) h1 h2 ih
    rwa [show s q + (d + s i) = s q + d + s i by omega] at this
theorem Way.snoc' {nb : Nat → List Int} {s : Nat → Int} {a i j : Nat} {d : Int} (h : Way nb (fun i _ => s i) j a d) (hi : (i : Int) ∈ nb j) (h0 : 0 < s j) : Way nb (fun i _ => s i) i a (d + s j) := by
  induction h with
  | here =>
    have := Way.step (st := fun i _ => s i) hi h0 .here
    rwa [show s j + 0 = 0 + s j by omega] at this
  | @step p q d h1 h2 h3 ih =>
    have := Way.step (st := fun i _ => s i) h1 h2 ih
    rwa [show s p + (d + s j) = s p + d + s j by omega] at this
theorem Way.turn {nb : Nat → List Int} {s : Nat → Int} {n : Nat} (E : Even nb (fun _ j => s j) n) {t i : Nat} {d : Int} (h : Way nb (fun i _ => s i) t i d) (hi : i < n) : Way nb (fun _ j => s j) i t d := by
  induction h with
  | here => exact .here
  | @step i j d h1 h2 h3 ih =>
    have := (ih (E.lt _ _ hi h1)).snoc (E.back hi h1) h2
    rwa [show d + s i = s i + d by omega] at this
theorem Way.turn' {nb : Nat → List Int} {s : Nat → Int} {n : Nat} (E : Even nb (fun _ j => s j) n) {t i : Nat} {d : Int} (h : Way nb (fun _ j => s j) t i d) (hi : i < n) : Way nb (fun i _ => s i) i t d := by
  induction h with
  | here => exact .here
  | @step i j d h1 h2 h3 ih =>
    have := (ih (E.lt _ _ hi h1)).snoc' (E.back hi h1) h2
    rwa [show d + s j = s j + d by omega] at this
theorem Least.turn {nb : Nat → List Int} {s : Nat → Int} {n : Nat} (E : Even nb (fun _ j => s j) n) {t i : Nat} {x : Int} (h : Least nb (fun i _ => s i) t i x) (hi : i < n) (ht : t < n) : Least nb (fun _ j => s j) i t x := by
  rcases h with ⟨rfl, h⟩ | ⟨h1, h2⟩
  · exact .inl ⟨rfl, fun d hd => h d (hd.turn' E ht)⟩
  · exact .inr ⟨h1.turn E hi, fun d hd => h2 d (hd.turn' E ht)⟩

/-- a field's. -/
theorem even_near {W H : Nat} (hW : 0 < W) {st : Nat → Nat → Int} (h2 : ∀ i j, st i j ≤ 2) : Even (Fd.near W H) st (W * H) := by
  refine ⟨fun i x hi hx => ?_, fun i hi hx => ?_, h2⟩
  · obtain ⟨t, h1, h3, h4⟩ := Fd.near_cell hW hi hx
    exact ⟨t, h1, h3, h4⟩
  · have := Fd.near_mem.1 hx
    omega
end Go.Proofs.YtagnjmellcibhaaGreatDoor.Wy

namespace Go.Proofs.YtagnjmellcibhaaGreatDoor
open Go.RowKit Wy
set_option linter.unusedVariables false

/-- what is left, as memory has it. -/
def wleft (w : World) (b M : Nat) : Nat := match w.heap[b]? with
  | some (.cells cs _ _) => left M (cs.toList.map intOf)
  | _ => 0
theorem Bk.left {w : World} {b : Nat} {l : List Int} (h : Bk w b l #[]) (M : Nat) : wleft w b M = Wy.left M l := by
  unfold Bk at h
  unfold wleft
  rw [h]
  simp [intCells, intOf, Function.comp_def]
/-- how long a slice is. -/
def vlen : Value → Nat
  | .slice _ n _ => n
  | _ => 0
theorem Qu.vlen {w : World} {base : Nat} {v : Value} {xs : List Int} (h : Qu w base v xs) : vlen v = xs.length := by
  obtain ⟨g, off, cap, cur, h1, -⟩ := h
  rw [h1]
  rfl

theorem cell_new {w : World} {z : Nat} (d : Value) (hz : w.heap.size = z) : (w.alloc (Obj.cells #[d] 3)).cell? ⟨z, 0, none⟩ = some d := by
  subst hz
  simp

def ints (td : List Nat) : List Int := td.map Int.ofNat
theorem ints_len (td : List Nat) : (ints td).length = td.length := by simp [ints]

set_option maxRecDepth 100000 in
set_option maxHeartbeats 4000000 in
theorem spread_ok (K : Nat) (eK : ∀ args w, (callFunc K args).run Tryz.prog w = .ok (.enter K args) w) (q v : Value) (n t : Nat) (nb : Nat → List Int) (ss : List Int) (st : Nat → Nat → Int) (w : World) (h : Ld w v n nb ss) (E : Even nb st n) (ht : t < n) (hn : n ≤ 144) (h4 : ∀ i, (nb i).length ≤ 4)
    (hon : ∀ w' (i j : Nat), i < n → j < n → Below w.heap.size w w' → Calls Tryz.prog K #[.int .i64 (i : Nat), .int .i64 (j : Nat), q] w' fun e w'' => e = .returned (.int .i64 (st j i)) ∧ w'' = w') :
    Calls Tryz.prog 131 #[v, .int .i64 (t : Nat), .func (Fn.func K) #[] #[q]] w fun e w' => ∃ b l, e = .returned (.slice (some ⟨b, 0, none⟩) n n) ∧ w.heap.size ≤ b ∧ Bk w' b l #[] ∧ (IsFar nb st t n l ∧ Flat l) ∧ Below w.heap.size w w' := by
  obtain ⟨u1, u2, rfl, ⟨x, c, rfl, c1, c2, hx⟩, ⟨a2, d, rfl, d1, d2, ca⟩, hl⟩ := h
  rw [hl] at d1 ⊢
  have Hx : Hid (∀ i, i < n → ∃ u, w.cell? (x.add i) = some u ∧ Ro w u (nb i)) := hx
  have Ho : Hid (∀ w' (i j : Nat), i < n → j < n → Below w.heap.size w w' → Calls Tryz.prog K #[.int .i64 (i : Nat), .int .i64 (j : Nat), q] w' fun e w'' => e = .returned (.int .i64 (st j i)) ∧ w'' = w') := hon
  have H4 : Hid (∀ i, (nb i).length ≤ 4) := h4
  have E0 : Hid (Even nb st n) := E
  clear hx ca hon h4 E hl
  go_enter Tryz.func131, Tryz.ntmps131
  go_wp2_with fail
  refine (repeat_ok (-1) _ n _ (Ro.lit1 (w := w.alloc _) (-1) (by simp)) (by omega) hn).mono ?_
  rintro e w1 ⟨b, rfl, hbz, hbk, hbel⟩
  have bz : Hid (w.heap.size + 2 ≤ b) := by unfold Hid; simpa using hbz
  have B1 : Hid (Below w.heap.size w w1) := (((Below.refl _ _).alloc (Nat.le_refl _) _).alloc (by simp) _).trans (hbel.mono (by simp; omega))
  have X1 : Hid (Bl w1 w.heap.size (.slice (some x) n c) (.slice a2 n d)) := ((Bl.mk' (w := w) (.slice (some x) n c) (.slice a2 n d) rfl).below ((Below.refl _ _).alloc (Nat.le_refl _) (Obj.cells #[Value.int IntKind.i64 (-1)] 3)) (by simp)).below hbel (by simp; omega)
  have K1 : Hid (Bk w1 b (List.replicate n (-1)) #[]) := hbk
  have ct := hbk.cell (i := t) (d := -1) (by rw [List.getElem?_replicate, if_pos ht])
  have ft := hbk.thaw t
  clear hbz hbk hbel
  have k12 := Kp.set (z := b) w1 t (.int .i64 0)
  have K2 : Hid (Bk (w1.setCell ⟨b, t, none⟩ (.int .i64 0)) b ((List.replicate n (-1)).set t 0) #[]) := K1.out.set t 0 (by simp; exact ht)
  have X2 : Hid (Bl (w1.setCell ⟨b, t, none⟩ (.int .i64 0)) w.heap.size (.slice (some x) n c) (.slice a2 n d)) := X1.out.kp k12 (by have := bz.out; omega)
  have B2 : Hid (Below w.heap.size w (w1.setCell ⟨b, t, none⟩ (.int .i64 0))) := k12.below B1.out B1.out.size (by have := bz.out; omega)
  have Z2 : Hid ((w1.setCell ⟨b, t, none⟩ (.int .i64 0)).heap.size = w1.heap.size) := by unfold Hid; simp
  have bB : Hid (b < w1.heap.size) := K1.out.lt
  clear k12 K1 X1 B1
  go_wp2_with fail
  generalize w1.setCell ⟨b, t, none⟩ (.int .i64 0) = w2 at *
  clear ct ft
  obtain ⟨B, hB⟩ : ∃ B, w1.heap.size = B := ⟨_, rfl⟩
  rw [hB] at bB Z2 ⊢
  have Q3 : Hid (Qu (w2.alloc (Obj.cells #[.int .i64 (t : Nat)] 3)) B (.slice (some ⟨B, 0, none⟩) 1 1) (ints [t])) := Qu.one (w := w2) (t : Nat) (by rw [Z2.out]; exact Nat.le_refl _) Z2.out
  have b23 : Below w2.heap.size w2 (w2.alloc (Obj.cells #[.int .i64 (t : Nat)] 3)) := (Below.refl _ _).alloc (Nat.le_refl _) _
  have K3 : Hid (Bk (w2.alloc (Obj.cells #[.int .i64 (t : Nat)] 3)) b ((List.replicate n (-1)).set t 0) #[]) := K2.out.below b23
  have X3 : Hid (Bl (w2.alloc (Obj.cells #[.int .i64 (t : Nat)] 3)) w.heap.size (.slice (some x) n c) (.slice a2 n d)) := X2.out.below b23 X2.out.lt
  have B3 : Hid (Below w.heap.size w (w2.alloc (Obj.cells #[.int .i64 (t : Nat)] 3))) := B2.out.trans (b23.mono B2.out.size)
  have S3 : Hid (B ≤ (w2.alloc (Obj.cells #[.int .i64 (t : Nat)] 3)).heap.size) := by
    have := b23.size
    rw [Z2.out] at this
    exact this
  generalize w2.alloc (Obj.cells #[.int .i64 (t : Nat)] 3) = w3 at *
  clear K2 X2 B2 Z2 b23 hB
  go_loopw [8] (fun v W' => ∃ l td, Qu W' B v (ints td) ∧ Bk W' b l #[] ∧ Wk nb st t n l td ∧ Bl W' w.heap.size (.slice (some x) n c) (.slice a2 n d) ∧ Below w.heap.size w W' ∧ B ≤ W'.heap.size ∧ 2 * left (2 * n + 1) l + td.length ≤ 100000) (fun v W' => 2 * wleft W' b (2 * n + 1) + vlen v)
  case atStart => exact ⟨_, [t], Q3, K3, Wk.start ht, X3, B3, S3, by have := left_start ht hn; simp only [List.length_cons, List.length_nil]; omega⟩
  case round =>
    obtain ⟨l, td, hq, hk, hw, hxx, hb, hsz, hmx⟩ := hrel
    clear Q3 K3 X3 B3 S3
    have Kb : Hid (Bk wr b l #[]) := hk
    have Ww : Hid (Wk nb st t n l td) := hw
    have X : Hid (Bl wr w.heap.size (.slice (some x) n c) (.slice a2 n d)) := hxx
    have Bw : Hid (Below w.heap.size w wr) := hb
    have Sz : Hid (B ≤ wr.heap.size) := hsz
    clear hk hw hxx hb hsz
    cases td with
    | nil =>
      obtain ⟨g, off, cap, cur, rfl, -, -, -⟩ := hq
      go_wp2
      go_ret
      exact ⟨b, l, rfl, by have := bz.out; omega, Kb, ⟨Ww.out.far E0.out, Ww.out.flat⟩, Bw⟩
    | cons a rest =>
      have Q : Hid (Qu wr B u8 (ints (a :: rest))) := hq
      have an : a < n := by
        obtain ⟨y, hy, -⟩ := Ww.out.todo a (List.mem_cons_self ..)
        have := (List.getElem?_eq_some_iff.1 hy).1
        rw [Ww.out.len] at this
        exact this
      obtain ⟨m0, hm0⟩ : ∃ m0, 2 * wleft wr b (2 * n + 1) + vlen u8 = m0 := ⟨_, rfl⟩
      have M0 : Hid (2 * wleft wr b (2 * n + 1) + vlen u8 = m0) := hm0
      have ML : Hid (2 * left (2 * n + 1) l + rest.length + 1 ≤ m0) := by
        unfold Hid
        rw [← hm0, Kb.out.left, hq.vlen, ints_len]
        simp only [List.length_cons]
        omega
      have m9 : m0 ≤ 100000 := by
        rw [← hm0, Kb.out.left, hq.vlen, ints_len]
        exact hmx
      clear hm0 hmx
      obtain ⟨g, off, cap, hu8, o1, o2, hc⟩ := Qu.first (x := (a : Int)) (xs := ints rest) hq
      subst hu8
      clear hq
      obtain ⟨u, hu, hr⟩ := Hx.out a an
      have hu' : wr.cell? (x.add a) = some u := by rw [Bw.out.cell (p := x.add a) (by have := cell_lt hu; rw [add_block] at this ⊢; exact this)]; exact hu
      have Hr0 : Hid (Ro w u (nb a)) := hr
      obtain ⟨a3, c3, rfl, e1, e2, -⟩ := hr
      have L4 := H4.out a
      have x0 := X.out.c0
      clear hu
      go_wp2_with fail
      clear hc x0 hu' o1 o2 ht
      go_loopw [8, 37] (fun v i W' => ∃ l rest k, i = .int .i64 (k : Nat) ∧ k ≤ (nb a).length ∧ Qu W' B v (ints (a :: rest)) ∧ Bk W' b l #[] ∧ Wi nb st t n l a rest k ∧ Bl W' w.heap.size (.slice (some x) n c) (.slice a2 n d) ∧ Below w.heap.size w W' ∧ B ≤ W'.heap.size ∧ 2 * left (2 * n + 1) l + rest.length + 1 ≤ m0) (fun _ i _ => (nb a).length - (intOf i).toNat)
      case atStart => exact ⟨l, rest, 0, rfl, Nat.zero_le _, Q, Kb, ⟨Ww, fun q i hq => absurd hq (Nat.not_lt_zero _)⟩, X, Bw, Sz, ML⟩
      case round =>
        clear Q Kb Ww X ML
        obtain ⟨l, rest, k, rfl, hk, hq, hkb, hwi, hx, hb, hsz, hml⟩ := hrel
        have Q : Hid (Qu wr B u8 (ints (a :: rest))) := hq
        have Kb : Hid (Bk wr b l #[]) := hkb
        have Wi : Hid (Wi nb st t n l a rest k) := hwi
        have X : Hid (Bl wr w.heap.size (.slice (some x) n c) (.slice a2 n d)) := hx
        have Bw' : Hid (Below w.heap.size w wr) := hb
        have Sz' : Hid (B ≤ wr.heap.size) := hsz
        have ML : Hid (2 * left (2 * n + 1) l + rest.length + 1 ≤ m0) := hml
        clear hkb hwi hx hb hsz hml
        by_cases h0 : k = (nb a).length
        · have Wds : Hid (Wk nb st t n l rest) := by
            have := Wi.out
            rw [h0] at this
            exact this.done E0.out
          subst h0
          obtain ⟨v', qv, sv⟩ := Qu.rest (x := (a : Int)) (xs := ints rest) Q.out
          have Q' : Hid (Qu wr B v' (ints rest)) := qv
          clear qv hq Q Wi
          go_wp2
          go_round
          case rel => exact ⟨l, rest, Q', Kb, Wds, X, Bw', Sz', by have := ML.out; omega⟩
          case measure =>
            rw [Kb.out.left, Q'.out.vlen, ints_len]
            have := ML.out
            have := M0.out
            omega
        · have hkl : k < (nb a).length := by omega
          obtain ⟨j, hj, jn, -⟩ := E0.out.cell a _ an (List.getElem_mem hkl)
          have Hj : Hid ((nb a)[k]? = some (j : Int)) := by unfold Hid; rw [List.getElem?_eq_getElem hkl, hj]
          clear hj
          obtain ⟨a4, c4, e4, -, -, ca⟩ := Hr0.out.below Bw'.out
          injection e4 with e5 e6 e7
          subst e5
          obtain ⟨y, rfl, -, hy⟩ := ca (by intro h; rw [h] at hkl; simp at hkl)
          have cj := hy k _ Hj.out
          clear hy e6 e7 ca hq
          have l2 := E0.out.two j a
          obtain ⟨yv, hyv, y0⟩ := Wi.out.wk.todo a (List.mem_cons_self ..)
          have ll : l.length = n := Wi.out.wk.len
          obtain ⟨xv, hxv⟩ : ∃ xv, l[j]? = some xv := ⟨l[j]'(by rw [ll]; exact jn), List.getElem?_eq_getElem _⟩
          have tl := told_le l
          have fx := Wi.out.wk.flat j xv hxv
          have fy := Wi.out.wk.flat a yv hyv
          have xb : xv ≤ 288 := by omega
          have yb : yv ≤ 288 := by omega
          have xm : -1 ≤ xv := by
            rcases Wi.out.wk.sound j xv hxv with h | h
            · omega
            · have := h.nonneg; omega
          have cx := Kb.out.cell hxv
          have cy := Kb.out.cell hyv
          have fz := Kb.out.thaw j
          clear tl fx fy ll
          go_wp2_with fail
          refine (Ho.out wr a j an jn Bw'.out).mono ?_
          rintro e w' ⟨rfl, rfl⟩
          obtain ⟨m, hm⟩ : ∃ m, st j a = m := ⟨_, rfl⟩
          have HD : Hid (st j a = m) := hm
          rw [hm] at l2 ⊢
          clear hm
          by_cases h1 : 0 < m
          · by_cases h2 : xv < 0
            · have HS := Wi.out.set E0.out Hj.out hxv hyv (by rw [HD.out]; exact h1) (.inl h2)
              rw [HD.out, Int.add_comm m yv] at HS
              have HT : Hid (Wy.Wi nb st t n (l.set j (yv + m)) a (rest ++ [j]) (k + 1) ∧ left (2 * n + 1) (l.set j (yv + m)) < left (2 * n + 1) l) := HS
              clear HS HD
              go_wp2
              go_quiet (fail)
              have kq : Below w'.heap.size w' (w'.drewN nq) := _root_.Go.below_drewN (Below.refl _ _) _
              have K5 : Hid (Bk (w'.drewN nq) b l #[]) := Kb.out.below kq
              have Q5 : Hid (Qu (w'.drewN nq) B u8 (ints (a :: rest))) := Q.out.below kq
              have X5 : Hid (Bl (w'.drewN nq) w.heap.size (.slice (some x) n c) (.slice a2 n d)) := X.out.below kq X.out.lt
              have B5 : Hid (Below w.heap.size w (w'.drewN nq)) := Bw'.out.trans (kq.mono Bw'.out.size)
              have S5 : Hid (B ≤ (w'.drewN nq).heap.size) := Nat.le_trans Sz'.out kq.size
              generalize w'.drewN nq = w5 at *
              clear Kb Q X Bw' Sz' kq cx cy fz cj
              have cx := K5.out.cell hxv
              have cy := K5.out.cell hyv
              have fz := K5.out.thaw j
              have k6 := Kp.set (z := b) w5 j (.int .i64 (yv + m))
              have K6 : Hid (Bk (w5.setCell ⟨b, j, none⟩ (.int .i64 (yv + m))) b (l.set j (yv + m)) #[]) := K5.out.set j (yv + m) (List.getElem?_eq_some_iff.1 hxv).1
              have Q6 : Hid (Qu (w5.setCell ⟨b, j, none⟩ (.int .i64 (yv + m))) B u8 (ints (a :: rest))) := Q5.out.kp k6 bB.out
              have X6 : Hid (Bl (w5.setCell ⟨b, j, none⟩ (.int .i64 (yv + m))) w.heap.size (.slice (some x) n c) (.slice a2 n d)) := X5.out.kp k6 (by have := bz.out; omega)
              have B6 : Hid (Below w.heap.size w (w5.setCell ⟨b, j, none⟩ (.int .i64 (yv + m)))) := k6.below B5.out B5.out.size (by have := bz.out; omega)
              have S6 : Hid (B ≤ (w5.setCell ⟨b, j, none⟩ (.int .i64 (yv + m))).heap.size) := Nat.le_trans S5.out k6.size
              clear k6 K5 Q5 X5 B5 S5 hxv hyv
              have RL : Hid ((ints (a :: rest)).length ≤ 1000000) := by
                unfold Hid
                rw [ints_len]
                simp only [List.length_cons]
                have := ML.out
                omega
              have Sb : Hid (b < B ∧ w.heap.size < B) := by
                have := bz.out
                have := bB.out
                exact ⟨by omega, by omega⟩
              have Ba : Hid (Below (w5.setCell ⟨b, j, none⟩ (.int .i64 (yv + m))).heap.size (w5.setCell ⟨b, j, none⟩ (.int .i64 (yv + m))) ((w5.setCell ⟨b, j, none⟩ (.int .i64 (yv + m))).alloc (Obj.cells #[.int .i64 (j : Nat)] 3))) := (Below.refl _ _).alloc (Nat.le_refl _) _
              have Cd : Hid (((w5.setCell ⟨b, j, none⟩ (.int .i64 (yv + m))).alloc (Obj.cells #[.int .i64 (j : Nat)] 3)).cell? ⟨w5.heap.size, 0, none⟩ = some (.int .i64 (j : Nat))) := cell_new (w := w5.setCell ⟨b, j, none⟩ (.int .i64 (yv + m))) _ (World.size_setCell _ _ _)
              go_wp2_with (at_builtin; refine app_q _ rfl _ _ rfl B _ (ints (a :: rest)) rfl (Q6.out.below Ba.out) ⟨w5.heap.size, 0, none⟩ (j : Nat) rfl Cd.out RL.out (Nat.le_trans S6.out Ba.out.size) ?_)
              intro v7 w7 q7 b7
              have ba := Ba.out
              have Q7 : Hid (Qu w7 B v7 (ints (a :: (rest ++ [j])))) := by
                have e : ints (a :: (rest ++ [j])) = ints (a :: rest) ++ [(j : Int)] := by simp [ints]
                unfold Hid
                rw [e]
                exact q7
              have K7 : Hid (Bk w7 b (l.set j (yv + m)) #[]) := (K6.out.below ba).low b7 Sb.out.1
              have X7 : Hid (Bl w7 w.heap.size (.slice (some x) n c) (.slice a2 n d)) := (X6.out.below ba X6.out.lt).below b7 Sb.out.2
              have B7 : Hid (Below w.heap.size w w7) := (B6.out.trans (ba.mono B6.out.size)).trans (b7.mono (Nat.le_of_lt Sb.out.2))
              have S7 : Hid (B ≤ w7.heap.size) := Nat.le_trans (Nat.le_trans S6.out ba.size) b7.size
              clear q7 b7 ba Ba Cd K6 Q6 X6 B6 S6 cx cy fz
              go_wp2
              go_round
              case rel => exact ⟨l.set j (yv + m), rest ++ [j], k + 1, by go_num, by omega, Q7, K7, HT.out.1, X7, B7, S7, by have := HT.out.2; have := ML.out; simp only [List.length_append, List.length_cons, List.length_nil]; omega⟩
              case measure => simp [intOf]; omega
            · have h2' : decide (xv < 0) = false := decide_eq_false h2
              by_cases h3 : yv + m < xv
              · have HS := Wi.out.set E0.out Hj.out hxv hyv (by rw [HD.out]; exact h1) (.inr (by rw [HD.out]; omega))
                rw [HD.out, Int.add_comm m yv] at HS
                have HT : Hid (Wy.Wi nb st t n (l.set j (yv + m)) a (rest ++ [j]) (k + 1) ∧ left (2 * n + 1) (l.set j (yv + m)) < left (2 * n + 1) l) := HS
                clear HS HD
                go_wp2
                go_quiet (fail)
                have kq : Below w'.heap.size w' (w'.drewN nq) := _root_.Go.below_drewN (Below.refl _ _) _
                have K5 : Hid (Bk (w'.drewN nq) b l #[]) := Kb.out.below kq
                have Q5 : Hid (Qu (w'.drewN nq) B u8 (ints (a :: rest))) := Q.out.below kq
                have X5 : Hid (Bl (w'.drewN nq) w.heap.size (.slice (some x) n c) (.slice a2 n d)) := X.out.below kq X.out.lt
                have B5 : Hid (Below w.heap.size w (w'.drewN nq)) := Bw'.out.trans (kq.mono Bw'.out.size)
                have S5 : Hid (B ≤ (w'.drewN nq).heap.size) := Nat.le_trans Sz'.out kq.size
                generalize w'.drewN nq = w5 at *
                clear Kb Q X Bw' Sz' kq cx cy fz cj
                have cx := K5.out.cell hxv
                have cy := K5.out.cell hyv
                have fz := K5.out.thaw j
                have k6 := Kp.set (z := b) w5 j (.int .i64 (yv + m))
                have K6 : Hid (Bk (w5.setCell ⟨b, j, none⟩ (.int .i64 (yv + m))) b (l.set j (yv + m)) #[]) := K5.out.set j (yv + m) (List.getElem?_eq_some_iff.1 hxv).1
                have Q6 : Hid (Qu (w5.setCell ⟨b, j, none⟩ (.int .i64 (yv + m))) B u8 (ints (a :: rest))) := Q5.out.kp k6 bB.out
                have X6 : Hid (Bl (w5.setCell ⟨b, j, none⟩ (.int .i64 (yv + m))) w.heap.size (.slice (some x) n c) (.slice a2 n d)) := X5.out.kp k6 (by have := bz.out; omega)
                have B6 : Hid (Below w.heap.size w (w5.setCell ⟨b, j, none⟩ (.int .i64 (yv + m)))) := k6.below B5.out B5.out.size (by have := bz.out; omega)
                have S6 : Hid (B ≤ (w5.setCell ⟨b, j, none⟩ (.int .i64 (yv + m))).heap.size) := Nat.le_trans S5.out k6.size
                clear k6 K5 Q5 X5 B5 S5 hxv hyv
                have RL : Hid ((ints (a :: rest)).length ≤ 1000000) := by
                  unfold Hid
                  rw [ints_len]
                  simp only [List.length_cons]
                  have := ML.out
                  omega
                have Sb : Hid (b < B ∧ w.heap.size < B) := by
                  have := bz.out
                  have := bB.out
                  exact ⟨by omega, by omega⟩
                have Ba : Hid (Below (w5.setCell ⟨b, j, none⟩ (.int .i64 (yv + m))).heap.size (w5.setCell ⟨b, j, none⟩ (.int .i64 (yv + m))) ((w5.setCell ⟨b, j, none⟩ (.int .i64 (yv + m))).alloc (Obj.cells #[.int .i64 (j : Nat)] 3))) := (Below.refl _ _).alloc (Nat.le_refl _) _
                have Cd : Hid (((w5.setCell ⟨b, j, none⟩ (.int .i64 (yv + m))).alloc (Obj.cells #[.int .i64 (j : Nat)] 3)).cell? ⟨w5.heap.size, 0, none⟩ = some (.int .i64 (j : Nat))) := cell_new (w := w5.setCell ⟨b, j, none⟩ (.int .i64 (yv + m))) _ (World.size_setCell _ _ _)
                go_wp2_with (at_builtin; refine app_q _ rfl _ _ rfl B _ (ints (a :: rest)) rfl (Q6.out.below Ba.out) ⟨w5.heap.size, 0, none⟩ (j : Nat) rfl Cd.out RL.out (Nat.le_trans S6.out Ba.out.size) ?_)
                intro v7 w7 q7 b7
                have ba := Ba.out
                have Q7 : Hid (Qu w7 B v7 (ints (a :: (rest ++ [j])))) := by
                  have e : ints (a :: (rest ++ [j])) = ints (a :: rest) ++ [(j : Int)] := by simp [ints]
                  unfold Hid
                  rw [e]
                  exact q7
                have K7 : Hid (Bk w7 b (l.set j (yv + m)) #[]) := (K6.out.below ba).low b7 Sb.out.1
                have X7 : Hid (Bl w7 w.heap.size (.slice (some x) n c) (.slice a2 n d)) := (X6.out.below ba X6.out.lt).below b7 Sb.out.2
                have B7 : Hid (Below w.heap.size w w7) := (B6.out.trans (ba.mono B6.out.size)).trans (b7.mono (Nat.le_of_lt Sb.out.2))
                have S7 : Hid (B ≤ w7.heap.size) := Nat.le_trans (Nat.le_trans S6.out ba.size) b7.size
                clear q7 b7 ba Ba Cd K6 Q6 X6 B6 S6 cx cy fz
                go_wp2
                go_round
                case rel => exact ⟨l.set j (yv + m), rest ++ [j], k + 1, by go_num, by omega, Q7, K7, HT.out.1, X7, B7, S7, by have := HT.out.2; have := ML.out; simp only [List.length_append, List.length_cons, List.length_nil]; omega⟩
                case measure => simp [intOf]; omega
              · have h3' : decide (yv + m < xv) = false := decide_eq_false h3
                have HS : Hid (Wy.Wi nb st t n l a rest (k + 1)) := Wi.out.skip Hj.out hxv hyv (fun h => by rw [HD.out]; omega)
                clear HD
                go_wp2
                go_quiet (fail)
                have kq : Below w'.heap.size w' (w'.drewN nq) := _root_.Go.below_drewN (Below.refl _ _) _
                have Q5 : Hid (Qu (w'.drewN nq) B u8 (ints (a :: rest))) := Q.out.below kq
                have K5 : Hid (Bk (w'.drewN nq) b l #[]) := Kb.out.below kq
                have X5 : Hid (Bl (w'.drewN nq) w.heap.size (.slice (some x) n c) (.slice a2 n d)) := X.out.below kq X.out.lt
                have B5 : Hid (Below w.heap.size w (w'.drewN nq)) := Bw'.out.trans (kq.mono Bw'.out.size)
                have S5 : Hid (B ≤ (w'.drewN nq).heap.size) := Nat.le_trans Sz'.out kq.size
                generalize w'.drewN nq = w5 at *
                clear Kb Q X Bw' Sz' kq cx cy fz cj
                go_wp2
                go_round
                case rel => exact ⟨l, rest, k + 1, by go_num, by omega, Q5, K5, HS, X5, B5, S5, ML⟩
                case measure => simp [intOf]; omega
          · have h1' : decide (0 < m) = false := decide_eq_false h1
            have HS : Hid (Wy.Wi nb st t n l a rest (k + 1)) := Wi.out.skip Hj.out hxv hyv (fun h => absurd (by rw [HD.out] at h; exact h) h1)
            clear HD
            go_wp2
            go_quiet (fail)
            have kq : Below w'.heap.size w' (w'.drewN nq) := _root_.Go.below_drewN (Below.refl _ _) _
            have Q5 : Hid (Qu (w'.drewN nq) B u8 (ints (a :: rest))) := Q.out.below kq
            have K5 : Hid (Bk (w'.drewN nq) b l #[]) := Kb.out.below kq
            have X5 : Hid (Bl (w'.drewN nq) w.heap.size (.slice (some x) n c) (.slice a2 n d)) := X.out.below kq X.out.lt
            have B5 : Hid (Below w.heap.size w (w'.drewN nq)) := Bw'.out.trans (kq.mono Bw'.out.size)
            have S5 : Hid (B ≤ (w'.drewN nq).heap.size) := Nat.le_trans Sz'.out kq.size
            generalize w'.drewN nq = w5 at *
            clear Kb Q X Bw' Sz' kq cx cy fz cj
            go_wp2
            go_round
            case rel => exact ⟨l, rest, k + 1, by go_num, by omega, Q5, K5, HS, X5, B5, S5, ML⟩
            case measure => simp [intOf]; omega
end Go.Proofs.YtagnjmellcibhaaGreatDoor

namespace Go.Proofs.YtagnjmellcibhaaGreatDoor
open Go.RowKit Wy
set_option linter.unusedVariables false

theorem enter_to : ∀ args w, (callFunc 132 args).run Tryz.prog w = .ok (.enter 132 args) w := by
  intro args w
  go_simp
theorem enter_from : ∀ args w, (callFunc 143 args).run Tryz.prog w = .ok (.enter 143 args) w := by
  intro args w
  go_simp

set_option maxHeartbeats 1000000 in
theorem on_to (z n : Nat) (u1 u2 : Value) (ss : List Int) (i j : Nat) (w : World) (X : Bl w z u1 u2) (hu : Ro w u2 ss) (hl : ss.length = n) (hi : i < n) :
    Calls Tryz.prog 132 #[.int .i64 (i : Nat), .int .i64 (j : Nat), .pointer (some ⟨z, 0, none⟩)] w fun e w' => e = .returned (.int .i64 (ss.getD i 0)) ∧ w' = w := by
  obtain ⟨a, c, rfl, c1, c2, ca⟩ := hu
  obtain ⟨x, rfl, -, hx⟩ := ca (by intro e; rw [e] at hl; simp at hl; omega)
  have e : ss[i]? = some (ss.getD i 0) := by rw [List.getD_eq_getElem?_getD, List.getElem?_eq_getElem (by omega)]; rfl
  have cx := hx i _ e
  have x1 := X.c1
  generalize ss.getD i 0 = s at *
  rw [hl] at *
  clear hx ca e X
  go_enter Tryz.func132, Tryz.ntmps132
  go_wp2
  go_ret
  exact ⟨rfl, rfl⟩

set_option maxHeartbeats 1000000 in
theorem on_from (z n : Nat) (u1 u2 : Value) (ss : List Int) (i j : Nat) (w : World) (X : Bl w z u1 u2) (hu : Ro w u2 ss) (hl : ss.length = n) (hi : j < n) :
    Calls Tryz.prog 143 #[.int .i64 (i : Nat), .int .i64 (j : Nat), .pointer (some ⟨z, 0, none⟩)] w fun e w' => e = .returned (.int .i64 (ss.getD j 0)) ∧ w' = w := by
  obtain ⟨a, c, rfl, c1, c2, ca⟩ := hu
  obtain ⟨x, rfl, -, hx⟩ := ca (by intro e; rw [e] at hl; simp at hl; omega)
  have e : ss[j]? = some (ss.getD j 0) := by rw [List.getD_eq_getElem?_getD, List.getElem?_eq_getElem (by omega)]; rfl
  have cx := hx j _ e
  have x1 := X.c1
  generalize ss.getD j 0 = s at *
  rw [hl] at *
  clear hx ca e X
  go_enter Tryz.func143, Tryz.ntmps143
  go_wp2
  go_ret
  exact ⟨rfl, rfl⟩

set_option maxHeartbeats 1000000 in
theorem farTo_ok (v : Value) (n t : Nat) (nb : Nat → List Int) (ss : List Int) (w : World) (h : Ld w v n nb ss) (E : Even nb (fun _ j => ss.getD j 0) n) (ht : t < n) (hn : n ≤ 144) (h4 : ∀ i, (nb i).length ≤ 4) :
    Calls Tryz.prog 120 #[v, .int .i64 (t : Nat)] w fun e w' => ∃ b l, e = .returned (.slice (some ⟨b, 0, none⟩) n n) ∧ w.heap.size ≤ b ∧ Bk w' b l #[] ∧ (IsFar nb (fun _ j => ss.getD j 0) t n l ∧ Flat l) ∧ Below w.heap.size w w' := by
  have L0 : Hid (Ld w v n nb ss) := h
  have E0 : Hid (Even nb (fun _ j => ss.getD j 0) n) := E
  have T0 : Hid (t < n ∧ n ≤ 144 ∧ ∀ i, (nb i).length ≤ 4) := ⟨ht, hn, h4⟩
  obtain ⟨u1, u2, rfl, hb1, hr2, hl⟩ := h
  have R2 : Hid (Ro w u2 ss ∧ ss.length = n) := ⟨hr2, hl⟩
  obtain ⟨x1, c1, e1, -⟩ := hb1
  obtain ⟨x2, c2, e2, -⟩ := hr2
  clear ht hn h4 E hl
  have b0 : Below w.heap.size w (w.alloc (Obj.cells #[u1, u2] 165)) := (Below.refl _ _).alloc (Nat.le_refl _) _
  have X0 : Hid (Bl (w.alloc (Obj.cells #[u1, u2] 165)) w.heap.size u1 u2) := Bl.mk' u1 u2 rfl
  have B0 : Hid (Below w.heap.size w (w.alloc (Obj.cells #[u1, u2] 165))) := b0
  clear b0
  have hon : ∀ w' (i j : Nat), i < n → j < n → Below (w.alloc (Obj.cells #[u1, u2] 165)).heap.size (w.alloc (Obj.cells #[u1, u2] 165)) w' → Calls Tryz.prog 132 #[.int .i64 (i : Nat), .int .i64 (j : Nat), .pointer (some ⟨w.heap.size, 0, none⟩)] w' fun e w'' => e = .returned (.int .i64 ((fun _ j => ss.getD j 0) j i)) ∧ w'' = w' := fun w' i j hi hj hb =>
    on_to w.heap.size n u1 u2 ss i j w' (X0.out.below hb X0.out.lt) ((R2.out.1.below B0.out).below hb) R2.out.2 hi
  have Ho : Hid (∀ w' (i j : Nat), i < n → j < n → Below (w.alloc (Obj.cells #[u1, u2] 165)).heap.size (w.alloc (Obj.cells #[u1, u2] 165)) w' → Calls Tryz.prog 132 #[.int .i64 (i : Nat), .int .i64 (j : Nat), .pointer (some ⟨w.heap.size, 0, none⟩)] w' fun e w'' => e = .returned (.int .i64 ((fun _ j => ss.getD j 0) j i)) ∧ w'' = w') := hon
  clear hon
  subst e1
  subst e2
  go_enter Tryz.func120, Tryz.ntmps120
  go_wp2_with fail
  refine (spread_ok 132 enter_to _ _ n t nb ss _ _ (L0.out.below B0.out) E0.out T0.out.1 T0.out.2.1 T0.out.2.2 Ho.out).mono ?_
  rintro e w1 ⟨b, l, rfl, hbz, hbk, hf, hb⟩
  have P : Hid (w.heap.size ≤ b ∧ Bk w1 b l #[] ∧ (IsFar nb (fun _ j => ss.getD j 0) t n l ∧ Flat l) ∧ Below w.heap.size w w1) := ⟨Nat.le_trans B0.out.size hbz, hbk, hf, B0.out.trans (hb.mono B0.out.size)⟩
  clear hbz hbk hf hb Ho
  go_wp2
  go_ret
  exact ⟨b, l, rfl, P.out.1, P.out.2.1, P.out.2.2.1, P.out.2.2.2⟩

set_option maxHeartbeats 1000000 in
theorem farFrom_ok (v : Value) (n t : Nat) (nb : Nat → List Int) (ss : List Int) (w : World) (h : Ld w v n nb ss) (E : Even nb (fun i _ => ss.getD i 0) n) (ht : t < n) (hn : n ≤ 144) (h4 : ∀ i, (nb i).length ≤ 4) :
    Calls Tryz.prog 134 #[v, .int .i64 (t : Nat)] w fun e w' => ∃ b l, e = .returned (.slice (some ⟨b, 0, none⟩) n n) ∧ w.heap.size ≤ b ∧ Bk w' b l #[] ∧ (IsFar nb (fun i _ => ss.getD i 0) t n l ∧ Flat l) ∧ Below w.heap.size w w' := by
  have L0 : Hid (Ld w v n nb ss) := h
  have E0 : Hid (Even nb (fun i _ => ss.getD i 0) n) := E
  have T0 : Hid (t < n ∧ n ≤ 144 ∧ ∀ i, (nb i).length ≤ 4) := ⟨ht, hn, h4⟩
  obtain ⟨u1, u2, rfl, hb1, hr2, hl⟩ := h
  have R2 : Hid (Ro w u2 ss ∧ ss.length = n) := ⟨hr2, hl⟩
  obtain ⟨x1, c1, e1, -⟩ := hb1
  obtain ⟨x2, c2, e2, -⟩ := hr2
  clear ht hn h4 E hl
  have b0 : Below w.heap.size w (w.alloc (Obj.cells #[u1, u2] 165)) := (Below.refl _ _).alloc (Nat.le_refl _) _
  have X0 : Hid (Bl (w.alloc (Obj.cells #[u1, u2] 165)) w.heap.size u1 u2) := Bl.mk' u1 u2 rfl
  have B0 : Hid (Below w.heap.size w (w.alloc (Obj.cells #[u1, u2] 165))) := b0
  clear b0
  have hon : ∀ w' (i j : Nat), i < n → j < n → Below (w.alloc (Obj.cells #[u1, u2] 165)).heap.size (w.alloc (Obj.cells #[u1, u2] 165)) w' → Calls Tryz.prog 143 #[.int .i64 (i : Nat), .int .i64 (j : Nat), .pointer (some ⟨w.heap.size, 0, none⟩)] w' fun e w'' => e = .returned (.int .i64 ((fun i _ => ss.getD i 0) j i)) ∧ w'' = w' := fun w' i j hi hj hb =>
    on_from w.heap.size n u1 u2 ss i j w' (X0.out.below hb X0.out.lt) ((R2.out.1.below B0.out).below hb) R2.out.2 hj
  have Ho : Hid (∀ w' (i j : Nat), i < n → j < n → Below (w.alloc (Obj.cells #[u1, u2] 165)).heap.size (w.alloc (Obj.cells #[u1, u2] 165)) w' → Calls Tryz.prog 143 #[.int .i64 (i : Nat), .int .i64 (j : Nat), .pointer (some ⟨w.heap.size, 0, none⟩)] w' fun e w'' => e = .returned (.int .i64 ((fun i _ => ss.getD i 0) j i)) ∧ w'' = w') := hon
  clear hon
  subst e1
  subst e2
  go_enter Tryz.func134, Tryz.ntmps134
  go_wp2_with fail
  refine (spread_ok 143 enter_from _ _ n t nb ss _ _ (L0.out.below B0.out) E0.out T0.out.1 T0.out.2.1 T0.out.2.2 Ho.out).mono ?_
  rintro e w1 ⟨b, l, rfl, hbz, hbk, hf, hb⟩
  have P : Hid (w.heap.size ≤ b ∧ Bk w1 b l #[] ∧ (IsFar nb (fun i _ => ss.getD i 0) t n l ∧ Flat l) ∧ Below w.heap.size w w1) := ⟨Nat.le_trans B0.out.size hbz, hbk, hf, B0.out.trans (hb.mono B0.out.size)⟩
  clear hbz hbk hf hb Ho
  go_wp2
  go_ret
  exact ⟨b, l, rfl, P.out.1, P.out.2.1, P.out.2.2.1, P.out.2.2.2⟩
end Go.Proofs.YtagnjmellcibhaaGreatDoor

namespace Go.Proofs.YtagnjmellcibhaaGreatDoor.Wy

theorem any_take {p : Int → Bool} {xs : List Int} {k m : Nat} {x : Int} (h : (xs.take k).any p = false) (hm : m < k) (hx : xs[m]? = some x) : p x = false := by
  rw [List.any_eq_false] at h
  have := h x (by
    rw [List.mem_iff_getElem?]
    exact ⟨m, by rw [List.getElem?_take, if_pos hm]; exact hx⟩)
  cases hp : p x with
  | false => rfl
  | true => exact absurd hp this
theorem fst_uniq {p : Int → Bool} {xs : List Int} {r r' : Int} (h : Fst p xs r) (h' : Fst p xs r') : r = r' := by
  rcases h with ⟨rfl, h⟩ | ⟨k, x, rfl, h1, h2, h3⟩
  · rcases h' with ⟨rfl, h'⟩ | ⟨k', x', rfl, h1', h2', h3'⟩
    · rfl
    · rw [List.any_eq_false] at h
      exact absurd h2' (h x' (List.mem_of_getElem? h1'))
  · rcases h' with ⟨rfl, h'⟩ | ⟨k', x', rfl, h1', h2', h3'⟩
    · rw [List.any_eq_false] at h'
      exact absurd h2 (h' x (List.mem_of_getElem? h1))
    · rcases Nat.lt_trichotomy k k' with hk | hk | hk
      · have := any_take h3' hk h1
        rw [h2] at this
        cases this
      · rw [hk]
      · have := any_take h3 hk h1'
        rw [h2'] at this
        cases this
theorem fst_ex (p : Int → Bool) (xs : List Int) : ∃ r, Fst p xs r := by
  have key : ∀ k, k ≤ xs.length → (∃ r, Fst p xs r) ∨ (xs.take k).any p = false := by
    intro k
    induction k with
    | zero => intro _; exact .inr (by simp)
    | succ k ih =>
      intro hk
      rcases ih (by omega) with h | h
      · exact .inl h
      · cases hp : p xs[k] with
        | true => exact .inl ⟨k, .inr ⟨k, xs[k], rfl, List.getElem?_eq_getElem (by omega), hp, h⟩⟩
        | false => exact .inr (by rw [any_next (by omega), h, hp]; rfl)
  rcases key xs.length (Nat.le_refl _) with h | h
  · exact h
  · rw [List.take_of_length_le (Nat.le_refl _)] at h
    exact ⟨-1, .inl ⟨rfl, h⟩⟩

/-- x is on a shortest way from i. -/
def pn (ss l : List Int) (i : Nat) (x : Int) : Bool := decide (0 < ss.getD x.toNat 0) && (decide (0 ≤ l.getD x.toNat 0) && decide (ss.getD x.toNat 0 + l.getD x.toNat 0 = l.getD i 0))
/-- j is the first beside i that is. -/
def Nx (nb : Nat → List Int) (ss l : List Int) (i j : Nat) : Prop := ∃ k : Nat, (nb i)[k]? = some (j : Int) ∧ pn ss l i j = true ∧ ((nb i).take k).any (pn ss l i) = false
theorem take_any {p : Int → Bool} {xs : List Int} {k m : Nat} {x : Int} (h : (xs.take k).any p = false) (hm : m < k) (hx : xs[m]? = some x) : p x = false := by
  rw [List.any_eq_false] at h
  have := h x (by
    rw [List.mem_iff_getElem?]
    exact ⟨m, by rw [List.getElem?_take, if_pos hm]; exact hx⟩)
  cases hp : p x with
  | false => rfl
  | true => exact absurd hp this
theorem Nx.uniq {nb : Nat → List Int} {ss l : List Int} {i j j' : Nat} (h : Nx nb ss l i j) (h' : Nx nb ss l i j') : j = j' := by
  obtain ⟨k, h1, h2, h3⟩ := h
  obtain ⟨k', h1', h2', h3'⟩ := h'
  rcases Nat.lt_trichotomy k k' with hk | hk | hk
  · have := take_any h3' hk h1
    rw [h2] at this
    cases this
  · subst hk
    rw [h1] at h1'
    injection h1' with h1'
    omega
  · have := take_any h3 hk h1'
    rw [h2'] at this
    cases this
theorem pn_true {ss l : List Int} {i : Nat} {x : Int} (h : pn ss l i x = true) : 0 < ss.getD x.toNat 0 ∧ 0 ≤ l.getD x.toNat 0 ∧ ss.getD x.toNat 0 + l.getD x.toNat 0 = l.getD i 0 := by
  unfold pn at h
  simp only [Bool.and_eq_true, decide_eq_true_eq] at h
  exact h
theorem Nx.is {nb : Nat → List Int} {ss l : List Int} {i j : Nat} (h : Nx nb ss l i j) : (j : Int) ∈ nb i ∧ 0 < ss.getD j 0 ∧ 0 ≤ l.getD j 0 ∧ ss.getD j 0 + l.getD j 0 = l.getD i 0 := by
  obtain ⟨k, h1, h2, -⟩ := h
  have := pn_true h2
  rw [Int.toNat_natCast] at this
  exact ⟨List.mem_of_getElem? h1, this⟩
/-- what IndexFunc finds. -/
theorem fst_nx {nb : Nat → List Int} {ss l : List Int} {i n : Nat} {r : Int} (E : ∀ x, x ∈ nb i → ∃ j : Nat, x = j ∧ j < n) (h : Fst (pn ss l i) (nb i) r) (hx : ∃ x ∈ nb i, pn ss l i x = true) : ∃ k j : Nat, r = k ∧ j < n ∧ (nb i)[k]? = some (j : Int) ∧ Nx nb ss l i j := by
  rcases h with ⟨_, h⟩ | ⟨k, x, h1, h2, h3, h4⟩
  · obtain ⟨x, hm, hp⟩ := hx
    rw [List.any_eq_false] at h
    exact absurd hp (h x hm)
  · obtain ⟨j, rfl, hj⟩ := E x (List.mem_of_getElem? h2)
    exact ⟨k, j, h1, hj, h2, k, h2, h3, h4⟩
theorem getD_of {l : List Int} {i : Nat} {x : Int} (h : l[i]? = some x) : l.getD i 0 = x := by rw [List.getD_eq_getElem?_getD, h]; rfl
/-- from where a way leads, one is there. -/
theorem has_next {nb : Nat → List Int} {ss l : List Int} {t n i : Nat} (E : Even nb (fun _ j => ss.getD j 0) n) (h : IsFar nb (fun _ j => ss.getD j 0) t n l) (hi : i < n) (h0 : 0 ≤ l.getD i 0) (ht : i ≠ t) : ∃ x ∈ nb i, pn ss l i x = true := by
  have hl : i < l.length := by rw [h.1]; exact hi
  have e := List.getElem?_eq_getElem hl
  rw [getD_of e] at h0
  obtain ⟨j, y, h1, h2, h3, h4, h5⟩ := h.next E.lt e h0 ht
  refine ⟨j, h1, ?_⟩
  unfold pn
  rw [Int.toNat_natCast, getD_of h2, getD_of e, decide_eq_true h3, decide_eq_true h4, decide_eq_true h5.symm]
  rfl

/-- j is the next cell; whereto itself, if it is there. -/
def Nxt (nb : Nat → List Int) (ss l : List Int) (t i j : Nat) : Prop := (i = t ∧ j = i) ∨ (i ≠ t ∧ Nx nb ss l i j)
theorem Nxt.uniq {nb : Nat → List Int} {ss l : List Int} {t i j j' : Nat} (h : Nxt nb ss l t i j) (h' : Nxt nb ss l t i j') : j = j' := by
  rcases h with ⟨h1, h2⟩ | ⟨h1, h2⟩
  · rcases h' with ⟨_, h4⟩ | ⟨h3, _⟩
    · rw [h2, h4]
    · exact absurd h1 h3
  · rcases h' with ⟨h3, _⟩ | ⟨_, h4⟩
    · exact absurd h3 h1
    · exact h2.uniq h4

/-- p is the way from a cell. -/
inductive Pth (nb : Nat → List Int) (ss l : List Int) (t : Nat) : Nat → List Int → Prop
  | here : Pth nb ss l t t [(t : Int)]
  | step {i j : Nat} {p : List Int} : i ≠ t → Nx nb ss l i j → Pth nb ss l t j p → Pth nb ss l t i ((i : Int) :: p)
theorem Pth.uniq {nb : Nat → List Int} {ss l : List Int} {t i : Nat} {p p' : List Int} (h : Pth nb ss l t i p) (h' : Pth nb ss l t i p') : p = p' := by
  induction h generalizing p' with
  | here =>
    cases h' with
    | here => rfl
    | step h1 _ _ => exact absurd rfl h1
  | step h1 h2 h3 ih =>
    cases h' with
    | here => exact absurd rfl h1
    | step h1' h2' h3' =>
      have := h2.uniq h2'
      subst this
      rw [ih h3']
theorem Pth.head {nb : Nat → List Int} {ss l : List Int} {t i : Nat} {p : List Int} (h : Pth nb ss l t i p) : p[0]? = some (i : Int) := by
  cases h <;> rfl
theorem Pth.last {nb : Nat → List Int} {ss l : List Int} {t i : Nat} {p : List Int} (h : Pth nb ss l t i p) : p.getLast? = some (t : Int) := by
  induction h with
  | here => rfl
  | step h1 h2 h3 ih =>
    rename_i i j p
    cases p with
    | nil => simp at ih
    | cons a p => rw [List.getLast?_cons_cons]; exact ih
/-- the second cell of a way. -/
theorem Pth.second {nb : Nat → List Int} {ss l : List Int} {t i : Nat} {p : List Int} (h : Pth nb ss l t i p) (hi : i ≠ t) : ∃ j : Nat, p[1]? = some (j : Int) ∧ Nx nb ss l i j := by
  cases h with
  | here => exact absurd rfl hi
  | step h1 h2 h3 => exact ⟨_, by simpa using h3.head, h2⟩

/-- of the first k cells those that are no further than most. -/
def rch (l : List Int) (most : Int) (k : Nat) : List Int := ((List.range k).filter fun i => decide (0 ≤ l.getD i 0 ∧ l.getD i 0 ≤ most)).map Int.ofNat
theorem rch_zero (l : List Int) (most : Int) : rch l most 0 = [] := rfl
theorem rch_succ (l : List Int) (most : Int) (k : Nat) : rch l most (k + 1) = rch l most k ++ (if 0 ≤ l.getD k 0 ∧ l.getD k 0 ≤ most then [(k : Int)] else []) := by
  unfold rch
  rw [List.range_succ, List.filter_append, List.map_append]
  congr 1
  by_cases h : 0 ≤ l.getD k 0 ∧ l.getD k 0 ≤ most
  · rw [if_pos h, List.filter_cons_of_pos (by simpa using h)]
    rfl
  · rw [if_neg h, List.filter_cons_of_neg (by simpa using h)]
    rfl
theorem rch_len (l : List Int) (most : Int) (k : Nat) : (rch l most k).length ≤ k := by
  unfold rch
  rw [List.length_map]
  exact Nat.le_trans (List.length_filter_le _ _) (by simp)
theorem rch_mem {l : List Int} {most : Int} {k : Nat} {x : Int} : x ∈ rch l most k ↔ ∃ i : Nat, x = i ∧ i < k ∧ 0 ≤ l.getD i 0 ∧ l.getD i 0 ≤ most := by
  unfold rch
  simp only [List.mem_map, List.mem_filter, List.mem_range, decide_eq_true_eq]
  constructor
  · rintro ⟨i, ⟨h1, h2⟩, rfl⟩
    exact ⟨i, rfl, h1, h2⟩
  · rintro ⟨i, rfl, h1, h2⟩
    exact ⟨i, ⟨h1, h2⟩, rfl⟩
theorem rch_rise (l : List Int) (most : Int) (k : Nat) : (rch l most k).Pairwise (· < ·) := by
  unfold rch
  rw [List.pairwise_map]
  exact (List.pairwise_lt_range.filter _).imp (fun h => by simpa using h)
end Go.Proofs.YtagnjmellcibhaaGreatDoor.Wy

namespace Go.Proofs.YtagnjmellcibhaaGreatDoor
open Go.RowKit Wy
set_option linter.unusedVariables false

theorem onto_two (g : Int) (fl : Bool) : Fd.onto g fl ≤ 2 := by
  unfold Fd.onto
  repeat' split
  all_goals omega
theorem ss_two (gs : List Int) (fl : Bool) (j : Nat) : (gs.map fun g => Fd.onto g fl).getD j 0 ≤ 2 := by
  rw [List.getD_eq_getElem?_getD, List.getElem?_map]
  cases gs[j]? with
  | none => exact (by decide : (0 : Int) ≤ 2)
  | some g => exact onto_two g fl
theorem even_to {W H : Nat} (hW : 0 < W) (gs : List Int) (fl : Bool) : Even (Fd.near W H) (fun _ j => (gs.map fun g => Fd.onto g fl).getD j 0) (W * H) := even_near hW fun _ j => ss_two gs fl j
theorem even_from {W H : Nat} (hW : 0 < W) (gs : List Int) (fl : Bool) : Even (Fd.near W H) (fun i _ => (gs.map fun g => Fd.onto g fl).getD i 0) (W * H) := even_near hW fun i _ => ss_two gs fl i
theorem flat_le {n : Nat} {l : List Int} (h : Flat l) (hl : l.length = n) (hn : n ≤ 144) (j : Nat) : l.getD j 0 ≤ 288 := by
  rw [List.getD_eq_getElem?_getD]
  cases hx : l[j]? with
  | none => decide
  | some x =>
    have h1 := h j x hx
    have h2 := told_le l
    show x ≤ 288
    omega

theorem ask_all {F : Int} {n : Nat} {xs : List Int} : Fd.askFault F n xs = if F ≠ 0 then F else if xs.any (fun x => !decide (0 ≤ x ∧ x < (n : Int))) then 6 else 0 := by
  unfold Fd.askFault
  split
  · rfl
  · cases hx : xs.all (fun x => decide (0 ≤ x ∧ x < (n : Int))) with
    | true =>
      rw [if_pos rfl, if_neg]
      rw [List.all_eq_true] at hx
      simp only [List.any_eq_true, Bool.not_eq_true', not_exists, not_and]
      intro x hm
      rw [hx x hm]
      decide
    | false =>
      rw [if_neg (by decide), if_pos]
      rw [List.all_eq_false] at hx
      obtain ⟨x, hm, hx⟩ := hx
      exact List.any_eq_true.2 ⟨x, hm, by rw [Bool.not_eq_true] at hx; rw [hx]; rfl⟩

theorem look_no (v u : Value) (W H : Int) (gs os xs : List Int) (F : Int) (fl : Bool) (w : World) (h : Fl w v W H gs os) (hs : Sd w) (hu : Ro w u xs) (hF : Fd.askFault (Fd.fault W H gs os) gs.length xs = F) (h0 : F ≠ 0) :
    Calls Tryz.prog 119 #[v, .bool fl, u] w fun e w' => e = .returned (.tuple #[.agg #[.slice none 0 0, .slice none 0 0], .iface 75 (.int .i64 F)]) ∧ Below w.heap.size w w' := by
  rw [ask_all] at hF
  by_cases hf : Fd.fault W H gs os = 0
  · obtain ⟨W', H', rfl, rfl, G⟩ := Fd.fault_zero hf
    rw [if_neg (by rw [hf]; decide)] at hF
    have gl := G.gl
    cases hx : xs.any (fun x => !decide (0 ≤ x ∧ x < (gs.length : Int))) with
    | true =>
      rw [hx, if_pos rfl] at hF
      subst hF
      rw [gl] at hx
      exact look_none v u W' H' gs os xs fl w h G hs hu hx
    | false =>
      rw [hx] at hF
      exact absurd hF.symm h0
  · rw [if_pos hf] at hF
    exact look_bad v u W H gs os F fl w h hF h0

end Go.Proofs.YtagnjmellcibhaaGreatDoor

namespace Go.Proofs.YtagnjmellcibhaaGreatDoor
open Go.RowKit Wy
set_option linter.unusedVariables false

set_option maxHeartbeats 1000000 in
theorem From_ok (v : Value) (W H : Nat) (gs os : List Int) (a : Nat) (fl : Bool) (w : World) (h : Fl w v W H gs os) (hs : Sd w) (G : Fd.Good W H gs os) (ha : a < W * H) :
    Calls Tryz.prog 122 #[v, .int .i64 (a : Nat), .bool fl] w fun e w' => ∃ b l, e = .returned (.tuple #[.slice (some ⟨b, 0, none⟩) (W * H) (W * H), .nilIface]) ∧ w.heap.size ≤ b ∧ Ro w' (.slice (some ⟨b, 0, none⟩) (W * H) (W * H)) l ∧ (IsFar (Fd.near W H) (fun i _ => (gs.map fun g => Fd.onto g fl).getD i 0) a (W * H) l ∧ Flat l) ∧ Below w.heap.size w w' := by
  have F0 : Hid (Fl w v W H gs os) := h
  have S0 : Hid (Sd w) := hs
  have G0 : Hid (Fd.Good W H gs os) := G
  have A0 : Hid (a < W * H) := ha
  obtain ⟨u1, u2, rfl, ⟨a1, c, rfl, c1, c2, ca⟩, ⟨b1, d, rfl, d1, d2, cb⟩⟩ := h
  obtain ⟨ss, hss⟩ : ∃ ss, (gs.map fun g => Fd.onto g fl) = ss := ⟨_, rfl⟩
  have Hss : Hid ((gs.map fun g => Fd.onto g fl) = ss) := hss
  have E0 : Hid (Even (Fd.near W H) (fun i _ => ss.getD i 0) (W * H)) := by rw [← hss]; exact even_from G.w1 gs fl
  rw [hss]
  clear ca cb hs G ha hss
  go_enter Tryz.func122, Tryz.ntmps122
  go_wp2_with fail
  have b0 : Below w.heap.size w ((w.alloc (Obj.cells #[.int .i64 W, .int .i64 H, .slice a1 gs.length c, .slice b1 os.length d] 25)).alloc (Obj.cells #[.int .i64 (a : Nat)] 3)) := ((Below.refl _ _).alloc (Nat.le_refl _) _).alloc (by simp) _
  refine (look_ok _ _ W H gs os [(a : Int)] fl _ (F0.out.below b0) G0.out (S0.out.below b0) (Ro.lit1 (w := w.alloc _) (a : Int) (by simp)) (by have := A0.out; simp; omega)).mono ?_
  rintro e w1 ⟨⟨v1, rfl, hL⟩, hb⟩
  rw [Hss.out] at hL
  have B1 : Hid (Below w.heap.size w w1) := b0.trans (hb.mono (by simp; omega))
  have L1 : Hid (Ld w1 v1 (W * H) (Fd.near W H) ss) := hL
  obtain ⟨p1, p2, rfl, ⟨x1, k1, rfl, -⟩, ⟨x2, k2, rfl, -⟩, -⟩ := hL
  clear hb b0
  go_wp2_with fail
  have b2 : Below w1.heap.size w1 (w1.alloc (Obj.cells #[.slice (some x1) (W * H) k1, .slice x2 ss.length k2] 165)) := (Below.refl _ _).alloc (Nat.le_refl _) _
  refine (farFrom_ok _ (W * H) a (Fd.near W H) ss _ (L1.out.below b2) E0.out A0.out G0.out.pos.2 (Fd.near_len W H)).mono ?_
  rintro e w2 ⟨b, l, rfl, hbz, hbk, hf, hb⟩
  have BZ : Hid (w.heap.size ≤ b) := Nat.le_trans (Nat.le_trans B1.out.size b2.size) hbz
  have P : Hid (Ro w2 (.slice (some ⟨b, 0, none⟩) (W * H) (W * H)) l ∧ (IsFar (Fd.near W H) (fun i _ => ss.getD i 0) a (W * H) l ∧ Flat l) ∧ Below w.heap.size w w2) := by
    refine ⟨?_, hf, (B1.out.trans (b2.mono B1.out.size)).trans (hb.mono (Nat.le_trans B1.out.size b2.size))⟩
    have := hbk.ro (c := W * H) (by rw [hf.1.1]; exact Nat.le_refl _) (by have := G0.out.pos.2; omega)
    rw [hf.1.1] at this
    exact this
  clear hbz hbk hf hb b2
  go_wp2
  go_ret2
  exact ⟨b, l, rfl, BZ.out, P.out.1, P.out.2.1, P.out.2.2⟩
end Go.Proofs.YtagnjmellcibhaaGreatDoor

namespace Go.Proofs.YtagnjmellcibhaaGreatDoor
open Go.RowKit
set_option linter.unusedVariables false

structure UnV where
  id : Int
  player : Int
  kind : Int
  at_ : Int
  life : Int
  load : Int
  task : Int
  goal : Int
def UnV.val (k : UnV) : Value := .agg #[.int .i64 k.id, .int .i64 k.player, .int .i64 k.kind, .int .i64 k.at_, .int .i64 k.life, .int .i64 k.load, .int .i64 k.task, .int .i64 k.goal]
/-- its cells, from an address on. -/
structure Unc (w : World) (y : Addr) (k : UnV) : Prop where
  c0 : w.cell? y = some (.int .i64 k.id)
  c1 : w.cell? ⟨y.block, y.off + 1, none⟩ = some (.int .i64 k.player)
  c2 : w.cell? ⟨y.block, y.off + 2, none⟩ = some (.int .i64 k.kind)
  c3 : w.cell? ⟨y.block, y.off + 3, none⟩ = some (.int .i64 k.at_)
  c4 : w.cell? ⟨y.block, y.off + 4, none⟩ = some (.int .i64 k.life)
  c5 : w.cell? ⟨y.block, y.off + 5, none⟩ = some (.int .i64 k.load)
  c6 : w.cell? ⟨y.block, y.off + 6, none⟩ = some (.int .i64 k.task)
  c7 : w.cell? ⟨y.block, y.off + 7, none⟩ = some (.int .i64 k.goal)
theorem Unc.lt {w : World} {y : Addr} {k : UnV} (h : Unc w y k) : y.block < w.heap.size := cell_lt h.c0
theorem Unc.below {w w' : World} {y : Addr} {k : UnV} {B : Nat} (h : Unc w y k) (hb : Below B w w') (hy : y.block < B) : Unc w' y k :=
  ⟨by rw [hb.cell (p := y) hy]; exact h.c0, by rw [hb.cell (p := ⟨y.block, y.off + 1, none⟩) hy]; exact h.c1, by rw [hb.cell (p := ⟨y.block, y.off + 2, none⟩) hy]; exact h.c2, by rw [hb.cell (p := ⟨y.block, y.off + 3, none⟩) hy]; exact h.c3, by rw [hb.cell (p := ⟨y.block, y.off + 4, none⟩) hy]; exact h.c4, by rw [hb.cell (p := ⟨y.block, y.off + 5, none⟩) hy]; exact h.c5, by rw [hb.cell (p := ⟨y.block, y.off + 6, none⟩) hy]; exact h.c6, by rw [hb.cell (p := ⟨y.block, y.off + 7, none⟩) hy]; exact h.c7⟩
/-- v is a slice of them. -/
def Unl (w : World) (v : Value) (ks : List UnV) : Prop := ∃ a c, v = .slice a ks.length c ∧ ks.length ≤ c ∧ c ≤ 9223372036854775807 ∧ (ks ≠ [] → ∃ x, a = some x ∧ x.block < w.heap.size ∧ ∀ (i : Nat) k, ks[i]? = some k → Unc w (x.add (i * 8)) k)
theorem Unl.below {w w' : World} {v : Value} {ks : List UnV} (h : Unl w v ks) (hb : Below w.heap.size w w') : Unl w' v ks := by
  obtain ⟨a, c, h1, h2, h3, h4⟩ := h
  refine ⟨a, c, h1, h2, h3, fun hn => ?_⟩
  obtain ⟨x, e, hx, hk⟩ := h4 hn
  exact ⟨x, e, Nat.lt_of_lt_of_le hx hb.size, fun i k hi => (hk i k hi).below hb (by rw [add_block]; exact hx)⟩
theorem Unc.mk' {w : World} {z : Nat} (k : UnV) (hz : w.heap.size = z) : Unc (w.alloc (.cells #[.int .i64 k.id, .int .i64 k.player, .int .i64 k.kind, .int .i64 k.at_, .int .i64 k.life, .int .i64 k.load, .int .i64 k.task, .int .i64 k.goal] 59)) ⟨z, 0, none⟩ k := by
  subst hz
  constructor <;> simp
end Go.Proofs.YtagnjmellcibhaaGreatDoor

namespace Go.Proofs.YtagnjmellcibhaaGreatDoor
open Go.RowKit
set_option linter.unusedVariables false

theorem info_un : (Tryz.prog.info? 59).map (fun i => (i.zero, i.size, i.bytes)) = some (some (.agg #[.int .i64 0, .int .i64 0, .int .i64 0, .int .i64 0, .int .i64 0, .int .i64 0, .int .i64 0, .int .i64 0]), 8, 64) := by kernel_rfl
def UnV.cs (k : UnV) : List Value := [.int .i64 k.id, .int .i64 k.player, .int .i64 k.kind, .int .i64 k.at_, .int .i64 k.life, .int .i64 k.load, .int .i64 k.task, .int .i64 k.goal]
theorem flat_un : ∀ (ks : List UnV) (i j : Nat) (k : UnV), ks[i]? = some k → j < 8 → (ks.flatMap UnV.cs)[i * 8 + j]? = k.cs[j]?
  | [], i, j, k, h, _ => by simp at h
  | x :: ks, 0, j, k, h, hj => by
    simp at h
    subst h
    rw [List.flatMap_cons, List.getElem?_append_left (by simp [UnV.cs]; omega)]
    simp
  | x :: ks, i + 1, j, k, h, hj => by
    rw [List.flatMap_cons, List.getElem?_append_right (by simp [UnV.cs]; omega)]
    have : (i + 1) * 8 + j - (UnV.cs x).length = i * 8 + j := by simp [UnV.cs]; omega
    rw [this]
    exact flat_un ks i j k (by simpa using h) hj
/-- v is a slice of them, in a block of its own from base on. -/
def Uno (w : World) (base : Nat) (v : Value) (ks : List UnV) : Prop := w.ownsRow base 59 8 v ks.length (ks.flatMap UnV.cs)
theorem Uno.nil (w : World) (base : Nat) : Uno w base (.slice none 0 0) [] := World.ownsRow_nil _ _ _ _
theorem Uno.below {w w' : World} {base : Nat} {v : Value} {ks : List UnV} (h : Uno w base v ks) (hb : Below w.heap.size w w') : Uno w' base v ks :=
  World.ownsRow.kept h (row := none) ⟨hb.os, hb.tape, hb.output, hb.size, fun k hk _ => hb.block k hk⟩ (by cases v.ownBlock <;> simp)
theorem Uno.kept {w w' : World} {base : Nat} {v : Value} {ks : List UnV} {row : Option Nat} (h : Uno w base v ks) (hg : w.grownBy w' row) (hne : v.ownBlock = none ∨ v.ownBlock ≠ row) : Uno w' base v ks := World.ownsRow.kept h hg hne
theorem Uno.alloc {w : World} {base : Nat} {v : Value} {ks : List UnV} (h : Uno w base v ks) (o : Obj) : Uno (w.alloc o) base v ks := World.ownsRow.alloc h o
theorem Uno.block {w : World} {base : Nat} {v : Value} {ks : List UnV} (h : Uno w base v ks) : ∀ k, v.ownBlock = some k → base ≤ k ∧ k < w.heap.size := World.ownsRow.lt h
theorem Uno.mono {w : World} {base base' : Nat} {v : Value} {ks : List UnV} (h : Uno w base v ks) (hb : base' ≤ base) : Uno w base' v ks := by
  refine ⟨h.1, ?_⟩
  rcases h.2 with h1 | ⟨g, cap, cur, h1, h2, h3⟩
  · exact .inl h1
  · exact .inr ⟨g, cap, cur, h1, Nat.le_trans hb h2, h3⟩
theorem Uno.l {w : World} {base : Nat} {v : Value} {ks : List UnV} (h : Uno w base v ks) : Unl w v ks := by
  rcases h.2 with ⟨hv, h0⟩ | ⟨g, cap, cur, hv, hb, hg, h1, h2, h3, h4⟩
  · exact ⟨none, 0, by rw [hv, h0], by omega, by omega, fun hn => absurd (List.length_eq_zero_iff.1 h0) hn⟩
  · refine ⟨_, cap, hv, h1, by unfold maxLen at h2; omega, fun _ => ⟨_, rfl, lt_of_block hg, fun i k hi => ?_⟩⟩
    have hil : i < ks.length := (List.getElem?_eq_some_iff.1 hi).1
    have h5 : w.ownsRow base 59 8 (.slice (some ⟨g, 0, none⟩) ks.length cap) ks.length (ks.flatMap UnV.cs) := by rw [← hv]; exact h
    have hc : ∀ j u, j < 8 → k.cs[j]? = some u → w.cell? ⟨g, i * 8 + j, none⟩ = some u := fun j u hj hu => by
      rw [h5.cellAt (i * 8 + j) (by omega), flat_un ks i j k hi hj, hu]
    rw [Addr.add_lit, Nat.zero_add]
    exact ⟨hc 0 _ (by decide) rfl, hc 1 _ (by decide) rfl, hc 2 _ (by decide) rfl, hc 3 _ (by decide) rfl, hc 4 _ (by decide) rfl, hc 5 _ (by decide) rfl, hc 6 _ (by decide) rfl, hc 7 _ (by decide) rfl⟩
theorem Uno.len {w : World} {base : Nat} {v : Value} {ks : List UnV} (h : Uno w base v ks) : ∃ a c, v = .slice a ks.length c := by
  obtain ⟨a, c, h1, -⟩ := h.l
  exact ⟨a, c, h1⟩

/-- one more. -/
theorem app_un {ops : Array Oper} {rest : List Oper} {o : Oper} {a : Act} {Q : Exit → Act → World → Prop} (w : World) (hgd : o.guard = none) (s x : Operand)
    (ho : o.op = .call { callee := .builtin .append, args := #[s, x], argTypes := #[26, 26] }) (base : Nat) (v : Value) (ks : List UnV) (hs : a.eval s = v) (hown : Uno w base v ks)
    (b : Nat) (d : UnV) (hx : a.eval x = .slice (some ⟨b, 0, none⟩) 1 1) (hd : Unc w ⟨b, 0, none⟩ d) (hl : ks.length ≤ 1000000000) (hbase : base ≤ w.heap.size)
    (h : ∀ g cap w', Uno w' base (.slice (some ⟨g, 0, none⟩) (ks.length + 1) cap) (ks ++ [d]) → w.grownBy w' v.ownBlock → (v.ownBlock = some g ∨ g = w.heap.size) → g < w'.heap.size → wpList Tryz.prog ops Q rest (a.put o.dst (.slice (some ⟨g, 0, none⟩) (ks.length + 1) cap)) w') :
    wpList Tryz.prog ops Q (o :: rest) a w := by
  obtain ⟨i0, hi, hz0, hz1, hz2⟩ := info_parts info_un
  refine wpList_append_lies w hgd s x 26 ho base 59 i0 (.agg #[.int .i64 0, .int .i64 0, .int .i64 0, .int .i64 0, .int .i64 0, .int .i64 0, .int .i64 0, .int .i64 0]) 8 64 Tryz.underlying26 hi hz0 hz1 hz2 rfl (by decide) v ks.length _ hs hown ⟨b, 0, none⟩ 1 1 d.cs hx rfl ?_ ?_ (by decide) (by unfold maxLen; omega) (by omega) hbase _ rfl ?_
  · intro j u hj
    have hjn : j < 8 := (List.getElem?_eq_some_iff.1 hj).1
    rw [Addr.add_lit, Nat.zero_add]
    match j, hjn, hj with
    | 0, _, hj => simp [UnV.cs] at hj; subst hj; exact hd.c0
    | 1, _, hj => simp [UnV.cs] at hj; subst hj; exact hd.c1
    | 2, _, hj => simp [UnV.cs] at hj; subst hj; exact hd.c2
    | 3, _, hj => simp [UnV.cs] at hj; subst hj; exact hd.c3
    | 4, _, hj => simp [UnV.cs] at hj; subst hj; exact hd.c4
    | 5, _, hj => simp [UnV.cs] at hj; subst hj; exact hd.c5
    | 6, _, hj => simp [UnV.cs] at hj; subst hj; exact hd.c6
    | 7, _, hj => simp [UnV.cs] at hj; subst hj; exact hd.c7
  · intro u hu
    simp [UnV.cs] at hu
    rcases hu with rfl | rfl | rfl | rfl | rfl | rfl | rfl | rfl <;> rfl
  · intro g cap w' h1 h2 h3 h4
    refine h g cap w' ?_ h2 h3 h4
    unfold Uno
    rw [List.length_append, List.flatMap_append]
    simpa using h1
end Go.Proofs.YtagnjmellcibhaaGreatDoor

namespace Go.Proofs.YtagnjmellcibhaaGreatDoor
open Go.RowKit
set_option linter.unusedVariables false

theorem run_append_no {P : Program} {w : World} (base : Nat) (t ty e : TypeId) (i : TypeInfo) (size : Nat) (ht : P.underlying t = some (.slice e)) (hi : P.info? e = some i)
    (v : Value) (n : Nat) (xs : List Value) (hown : w.ownsRow base e size v n xs) (a : Option Addr) (c : Nat) :
    (Builtin.append_ #[t, t] ty #[v, .slice a 0 c]).run P w = .ok v w := by
  rcases hown.2 with ⟨rfl, rfl⟩ | ⟨g, cap, cur, rfl, _, _, hnc, _⟩
  · cases a <;> simp [Builtin.append_, run_underlying ht, sizeOf, typeInfo, hi, Builtin.lenOf, Builtin.firstCells, loadCells, loadCellsFrom]
  · cases a <;> simp [Builtin.append_, run_underlying ht, sizeOf, typeInfo, hi, Builtin.lenOf, Builtin.firstCells, hnc, storeCells, loadCells, loadCellsFrom]
theorem app_row {ops : Array Oper} {rest : List Oper} {o : Oper} {a : Act} {Q : Exit → Act → World → Prop} (w : World) (hgd : o.guard = none) (s x : Operand)
    (ho : o.op = .call { callee := .builtin .append, args := #[s, x], argTypes := #[23, 23] }) (base : Nat) (v : Value) (xs : List Int) (hs : a.eval s = v) (hown : Ow w base v xs)
    (u : Value) (ys : List Int) (hx : a.eval x = u) (hu : Ro w u ys) (hl : xs.length + ys.length ≤ 1000000000) (hbase : base ≤ w.heap.size)
    (h : ∀ v' w', Ow w' base v' (xs ++ ys) → w.grownBy w' v.ownBlock → (v'.ownBlock = v.ownBlock ∨ v'.ownBlock = some w.heap.size) → wpList Tryz.prog ops Q rest (a.put o.dst v') w') :
    wpList Tryz.prog ops Q (o :: rest) a w := by
  obtain ⟨i0, hi, hz0, hz1, hz2⟩ := info_parts info_int
  obtain ⟨ad, c, rfl, h1, h2, h3⟩ := hu
  by_cases hn : ys = []
  · subst hn
    refine wpList_plain hgd fun K hK => ?_
    have hrun := run_append_no (P := Tryz.prog) (w := w) base 23 o.type 3 i0 1 Tryz.underlying23 hi v xs.length _ hown ad c
    have hx' : a.eval x = .slice ad 0 c := hx
    unfold Oper.wp
    simp [execOp, ho, resolve, invoke, builtin, hs, hx', hrun, Result.andThen]
    exact hK _ _ (h v w (by simpa using hown) (World.grownBy.refl _ _) (.inl rfl))
  · obtain ⟨y, rfl, hy, hc⟩ := h3 hn
    refine wpList_append_lies w hgd s x 23 ho base 3 i0 (.int .i64 0) 1 8 Tryz.underlying23 hi hz0 hz1 hz2 rfl (by decide) v xs.length _ hs hown y ys.length c (ys.map (Value.int .i64)) hx (by simp) ?_ ?_ (List.length_pos_iff.2 hn) (by unfold maxLen; omega) (by omega) hbase _ rfl ?_
    · intro j u hj
      rw [List.getElem?_map] at hj
      cases hd : ys[j]? with
      | none => rw [hd] at hj; cases hj
      | some d => rw [hd] at hj; cases hj; exact hc j d hd
    · exact ints_oneCell _ _
    · intro g cap w' k1 k2 k3 _
      refine h _ w' ?_ k2 ?_
      · unfold Ow
        rw [List.length_append, List.map_append]
        exact k1
      · rcases k3 with k3 | k3
        · exact .inl k3.symm
        · exact .inr (by rw [k3]; rfl)
end Go.Proofs.YtagnjmellcibhaaGreatDoor

namespace Go.Proofs.YtagnjmellcibhaaGreatDoor
open Go.RowKit
set_option linter.unusedVariables false

theorem len_un (ks : List UnV) : (ks.flatMap UnV.cs).length = ks.length * 8 := by
  induction ks with
  | nil => rfl
  | cons x l ih => rw [List.flatMap_cons, List.length_append, ih, List.length_cons, Nat.succ_mul, Nat.add_comm]; rfl
theorem cell_un {w : World} {y : Addr} {ks : List UnV} (hc : ∀ (i : Nat) k, ks[i]? = some k → Unc w (y.add (i * 8)) k) (j : Nat) (u : Value) (hj : (ks.flatMap UnV.cs)[j]? = some u) : w.cell? (y.add j) = some u := by
  have hjl : j < ks.length * 8 := by rw [← len_un]; exact (List.getElem?_eq_some_iff.1 hj).1
  obtain ⟨i, r, hr, rfl⟩ : ∃ i r, r < 8 ∧ j = i * 8 + r := ⟨j / 8, j % 8, Nat.mod_lt _ (by decide), by omega⟩
  have hi : i < ks.length := by omega
  obtain ⟨k, hk⟩ : ∃ k, ks[i]? = some k := ⟨_, List.getElem?_eq_getElem hi⟩
  rw [flat_un ks i r k hk hr] at hj
  have h := hc i k hk
  rcases Nat.eq_zero_or_pos r with rfl | hr0
  · simp [UnV.cs] at hj
    subst hj
    exact h.c0
  · have ea : y.add (i * 8 + r) = ⟨(y.add (i * 8)).block, (y.add (i * 8)).off + r, none⟩ := by
      unfold Addr.add
      rw [if_neg (by omega)]
      split <;> simp <;> omega
    rw [ea]
    match r, hr, hr0, hj with
    | 1, _, _, hj => simp [UnV.cs] at hj; subst hj; exact h.c1
    | 2, _, _, hj => simp [UnV.cs] at hj; subst hj; exact h.c2
    | 3, _, _, hj => simp [UnV.cs] at hj; subst hj; exact h.c3
    | 4, _, _, hj => simp [UnV.cs] at hj; subst hj; exact h.c4
    | 5, _, _, hj => simp [UnV.cs] at hj; subst hj; exact h.c5
    | 6, _, _, hj => simp [UnV.cs] at hj; subst hj; exact h.c6
    | 7, _, _, hj => simp [UnV.cs] at hj; subst hj; exact h.c7

theorem app_uns {ops : Array Oper} {rest : List Oper} {o : Oper} {a : Act} {Q : Exit → Act → World → Prop} (w : World) (hgd : o.guard = none) (s x : Operand)
    (ho : o.op = .call { callee := .builtin .append, args := #[s, x], argTypes := #[26, 26] }) (base : Nat) (v : Value) (ks : List UnV) (hs : a.eval s = v) (hown : Uno w base v ks)
    (u : Value) (ys : List UnV) (hx : a.eval x = u) (hu : Unl w u ys) (hl : ks.length + ys.length ≤ 100000000) (hbase : base ≤ w.heap.size)
    (h : ∀ v' w', Uno w' base v' (ks ++ ys) → w.grownBy w' v.ownBlock → (v'.ownBlock = v.ownBlock ∨ v'.ownBlock = some w.heap.size) → wpList Tryz.prog ops Q rest (a.put o.dst v') w') :
    wpList Tryz.prog ops Q (o :: rest) a w := by
  obtain ⟨i0, hi, hz0, hz1, hz2⟩ := info_parts info_un
  obtain ⟨ad, c, rfl, h1, h2, h3⟩ := hu
  by_cases hn : ys = []
  · subst hn
    refine wpList_plain hgd fun K hK => ?_
    have hrun := run_append_no (P := Tryz.prog) (w := w) base 26 o.type 59 i0 8 Tryz.underlying26 hi v ks.length _ hown ad c
    have hx' : a.eval x = .slice ad 0 c := hx
    unfold Oper.wp
    simp [execOp, ho, resolve, invoke, builtin, hs, hx', hrun, Result.andThen]
    exact hK _ _ (h v w (by simpa using hown) (World.grownBy.refl _ _) (.inl rfl))
  · obtain ⟨y, rfl, hy, hc⟩ := h3 hn
    refine wpList_append_lies w hgd s x 26 ho base 59 i0 _ 8 64 Tryz.underlying26 hi hz0 hz1 hz2 rfl (by decide) v ks.length _ hs hown y ys.length c (ys.flatMap UnV.cs) hx (len_un ys) (cell_un hc) ?_ (List.length_pos_iff.2 hn) (by unfold maxLen; omega) (by omega) hbase _ rfl ?_
    · intro u hu
      obtain ⟨k, -, hk⟩ := List.mem_flatMap.1 hu
      simp [UnV.cs] at hk
      rcases hk with rfl | rfl | rfl | rfl | rfl | rfl | rfl | rfl <;> rfl
    · intro g cap w' k1 k2 k3 _
      refine h _ w' ?_ k2 ?_
      · unfold Uno
        rw [List.length_append, List.flatMap_append]
        exact k1
      · rcases k3 with k3 | k3
        · exact .inl k3.symm
        · exact .inr (by rw [k3]; rfl)
end Go.Proofs.YtagnjmellcibhaaGreatDoor

namespace Go.Proofs.YtagnjmellcibhaaGreatDoor
open Go.RowKit
set_option linter.unusedVariables false

/-- block g has these units, and more behind them. -/
def Ub (w : World) (g : Nat) (ks : List UnV) (rest : List Value) : Prop := w.heap[g]? = some (.cells (ks.flatMap UnV.cs ++ rest).toArray 59 (0, 0))
theorem Ub.lt {w : World} {g : Nat} {ks : List UnV} {rest : List Value} (h : Ub w g ks rest) : g < w.heap.size := lt_of_block h
theorem Ub.thaw {w : World} {g : Nat} {ks : List UnV} {rest : List Value} (h : Ub w g ks rest) (i : Nat) : w.frozen? ⟨g, i, none⟩ = false := by
  unfold Ub at h
  simp [World.frozen?, h]
theorem Ub.below {w w' : World} {g B : Nat} {ks : List UnV} {rest : List Value} (h : Ub w g ks rest) (hb : Below B w w') (hB : g < B) : Ub w' g ks rest := by
  unfold Ub at *
  rw [hb.block g hB]; exact h
theorem Ub.at_ {w : World} {g : Nat} {ks : List UnV} {rest : List Value} (h : Ub w g ks rest) {i : Nat} {o : UnV} (ho : ks[i]? = some o) {j : Nat} (hj : j < 8) : w.cell? ⟨g, i * 8 + j, none⟩ = o.cs[j]? := by
  unfold Ub at h
  have hi : i < ks.length := (List.getElem?_eq_some_iff.1 ho).1
  simp only [World.cell?, h]
  have e : (ks.flatMap UnV.cs ++ rest).toArray[i * 8 + j]? = o.cs[j]? := by
    rw [List.getElem?_toArray, List.getElem?_append_left (by rw [len_un]; omega), flat_un ks i j o ho hj]
  simp only [e]
  simp
theorem Ub.unc {w : World} {g : Nat} {ks : List UnV} {rest : List Value} (h : Ub w g ks rest) {i : Nat} {o : UnV} (ho : ks[i]? = some o) : Unc w ⟨g, i * 8, none⟩ o :=
  ⟨h.at_ ho (j := 0) (by decide), h.at_ ho (j := 1) (by decide), h.at_ ho (j := 2) (by decide), h.at_ ho (j := 3) (by decide), h.at_ ho (j := 4) (by decide), h.at_ ho (j := 5) (by decide), h.at_ ho (j := 6) (by decide), h.at_ ho (j := 7) (by decide)⟩
theorem uflat_set : ∀ (ks : List UnV) (i : Nat) (o : UnV) (rest : List Value), i < ks.length →
    (ks.set i o).flatMap UnV.cs ++ rest = ((((((((ks.flatMap UnV.cs ++ rest).set (i * 8) (.int .i64 o.id)).set (i * 8 + 1) (.int .i64 o.player)).set (i * 8 + 2) (.int .i64 o.kind)).set (i * 8 + 3) (.int .i64 o.at_)).set (i * 8 + 4) (.int .i64 o.life)).set (i * 8 + 5) (.int .i64 o.load)).set (i * 8 + 6) (.int .i64 o.task)).set (i * 8 + 7) (.int .i64 o.goal)
  | [], i, o, rest, h => by simp at h
  | k :: ks, 0, o, rest, _ => by
    simp [UnV.cs]
  | k :: ks, i + 1, o, rest, h => by
    have ih := uflat_set ks i o rest (by simpa using h)
    rw [show (i + 1) * 8 = i * 8 + 8 by omega, show i * 8 + 8 + 1 = i * 8 + 1 + 8 by omega, show i * 8 + 8 + 2 = i * 8 + 2 + 8 by omega, show i * 8 + 8 + 3 = i * 8 + 3 + 8 by omega, show i * 8 + 8 + 4 = i * 8 + 4 + 8 by omega, show i * 8 + 8 + 5 = i * 8 + 5 + 8 by omega, show i * 8 + 8 + 6 = i * 8 + 6 + 8 by omega, show i * 8 + 8 + 7 = i * 8 + 7 + 8 by omega, List.set_cons_succ, List.flatMap_cons, List.append_assoc, ih, List.flatMap_cons]
    simp [UnV.cs]
theorem Ub.put {w : World} {g : Nat} {ks : List UnV} {rest : List Value} (h : Ub w g ks rest) {i : Nat} (hi : i < ks.length) (o : UnV) :
    Ub ((((((((w.setCell ⟨g, i * 8, none⟩ (.int .i64 o.id)).setCell ⟨g, i * 8 + 1, none⟩ (.int .i64 o.player)).setCell ⟨g, i * 8 + 2, none⟩ (.int .i64 o.kind)).setCell ⟨g, i * 8 + 3, none⟩ (.int .i64 o.at_)).setCell ⟨g, i * 8 + 4, none⟩ (.int .i64 o.life)).setCell ⟨g, i * 8 + 5, none⟩ (.int .i64 o.load)).setCell ⟨g, i * 8 + 6, none⟩ (.int .i64 o.task)).setCell ⟨g, i * 8 + 7, none⟩ (.int .i64 o.goal)) g (ks.set i o) rest := by
  unfold Ub at *
  have h0 := heap_setCell_same w g (i * 8) _ _ (.int .i64 o.id) h
  have h1 := heap_setCell_same _ g (i * 8 + 1) _ _ (.int .i64 o.player) h0
  have h2 := heap_setCell_same _ g (i * 8 + 2) _ _ (.int .i64 o.kind) h1
  have h3 := heap_setCell_same _ g (i * 8 + 3) _ _ (.int .i64 o.at_) h2
  have h4 := heap_setCell_same _ g (i * 8 + 4) _ _ (.int .i64 o.life) h3
  have h5 := heap_setCell_same _ g (i * 8 + 5) _ _ (.int .i64 o.load) h4
  have h6 := heap_setCell_same _ g (i * 8 + 6) _ _ (.int .i64 o.task) h5
  have h7 := heap_setCell_same _ g (i * 8 + 7) _ _ (.int .i64 o.goal) h6
  rw [h7, uflat_set ks i o rest hi]
  simp
theorem ub_below {B g : Nat} {w W : World} {i : Nat} (o : UnV) (h : Below B w W) (hb : B ≤ g) : Below B w ((((((((W.setCell ⟨g, i * 8, none⟩ (.int .i64 o.id)).setCell ⟨g, i * 8 + 1, none⟩ (.int .i64 o.player)).setCell ⟨g, i * 8 + 2, none⟩ (.int .i64 o.kind)).setCell ⟨g, i * 8 + 3, none⟩ (.int .i64 o.at_)).setCell ⟨g, i * 8 + 4, none⟩ (.int .i64 o.life)).setCell ⟨g, i * 8 + 5, none⟩ (.int .i64 o.load)).setCell ⟨g, i * 8 + 6, none⟩ (.int .i64 o.task)).setCell ⟨g, i * 8 + 7, none⟩ (.int .i64 o.goal)) :=
  (((((((h.setCell (p := ⟨g, i * 8, none⟩) hb _).setCell (p := ⟨g, i * 8 + 1, none⟩) hb _).setCell (p := ⟨g, i * 8 + 2, none⟩) hb _).setCell (p := ⟨g, i * 8 + 3, none⟩) hb _).setCell (p := ⟨g, i * 8 + 4, none⟩) hb _).setCell (p := ⟨g, i * 8 + 5, none⟩) hb _).setCell (p := ⟨g, i * 8 + 6, none⟩) hb _).setCell (p := ⟨g, i * 8 + 7, none⟩) hb _
theorem uflat_set3 : ∀ (ks : List UnV) (i : Nat) (o : UnV) (a : Int) (rest : List Value), ks[i]? = some o → (ks.set i { o with at_ := a }).flatMap UnV.cs ++ rest = (ks.flatMap UnV.cs ++ rest).set (i * 8 + 3) (.int .i64 a)
  | [], i, o, a, rest, h => by simp at h
  | k :: ks, 0, o, a, rest, h => by
    simp at h
    subst h
    simp [UnV.cs]
  | k :: ks, i + 1, o, a, rest, h => by
    have ih := uflat_set3 ks i o a rest (by simpa using h)
    rw [show (i + 1) * 8 + 3 = i * 8 + 3 + 8 by omega, List.set_cons_succ, List.flatMap_cons, List.append_assoc, ih, List.flatMap_cons]
    simp [UnV.cs]
theorem Ub.set3 {w : World} {g : Nat} {ks : List UnV} {rest : List Value} (h : Ub w g ks rest) {i : Nat} {o : UnV} (ho : ks[i]? = some o) (a : Int) : Ub (w.setCell ⟨g, i * 8 + 3, none⟩ (.int .i64 a)) g (ks.set i { o with at_ := a }) rest := by
  unfold Ub at *
  have h0 := heap_setCell_same w g (i * 8 + 3) _ _ (.int .i64 a) h
  rw [h0, uflat_set3 ks i o a rest ho]
  simp
theorem uflat_set4 : ∀ (ks : List UnV) (i : Nat) (o : UnV) (a : Int) (rest : List Value), ks[i]? = some o → (ks.set i { o with life := a }).flatMap UnV.cs ++ rest = (ks.flatMap UnV.cs ++ rest).set (i * 8 + 4) (.int .i64 a)
  | [], i, o, a, rest, h => by simp at h
  | k :: ks, 0, o, a, rest, h => by
    simp at h
    subst h
    simp [UnV.cs]
  | k :: ks, i + 1, o, a, rest, h => by
    have ih := uflat_set4 ks i o a rest (by simpa using h)
    rw [show (i + 1) * 8 + 4 = i * 8 + 4 + 8 by omega, List.set_cons_succ, List.flatMap_cons, List.append_assoc, ih, List.flatMap_cons]
    simp [UnV.cs]
theorem Ub.set4 {w : World} {g : Nat} {ks : List UnV} {rest : List Value} (h : Ub w g ks rest) {i : Nat} {o : UnV} (ho : ks[i]? = some o) (a : Int) : Ub (w.setCell ⟨g, i * 8 + 4, none⟩ (.int .i64 a)) g (ks.set i { o with life := a }) rest := by
  unfold Ub at *
  have h0 := heap_setCell_same w g (i * 8 + 4) _ _ (.int .i64 a) h
  rw [h0, uflat_set4 ks i o a rest ho]
  simp
theorem uflat_set5 : ∀ (ks : List UnV) (i : Nat) (o : UnV) (a : Int) (rest : List Value), ks[i]? = some o → (ks.set i { o with load := a }).flatMap UnV.cs ++ rest = (ks.flatMap UnV.cs ++ rest).set (i * 8 + 5) (.int .i64 a)
  | [], i, o, a, rest, h => by simp at h
  | k :: ks, 0, o, a, rest, h => by
    simp at h
    subst h
    simp [UnV.cs]
  | k :: ks, i + 1, o, a, rest, h => by
    have ih := uflat_set5 ks i o a rest (by simpa using h)
    rw [show (i + 1) * 8 + 5 = i * 8 + 5 + 8 by omega, List.set_cons_succ, List.flatMap_cons, List.append_assoc, ih, List.flatMap_cons]
    simp [UnV.cs]
theorem Ub.set5 {w : World} {g : Nat} {ks : List UnV} {rest : List Value} (h : Ub w g ks rest) {i : Nat} {o : UnV} (ho : ks[i]? = some o) (a : Int) : Ub (w.setCell ⟨g, i * 8 + 5, none⟩ (.int .i64 a)) g (ks.set i { o with load := a }) rest := by
  unfold Ub at *
  have h0 := heap_setCell_same w g (i * 8 + 5) _ _ (.int .i64 a) h
  rw [h0, uflat_set5 ks i o a rest ho]
  simp
theorem uflat_set6 : ∀ (ks : List UnV) (i : Nat) (o : UnV) (a : Int) (rest : List Value), ks[i]? = some o → (ks.set i { o with task := a }).flatMap UnV.cs ++ rest = (ks.flatMap UnV.cs ++ rest).set (i * 8 + 6) (.int .i64 a)
  | [], i, o, a, rest, h => by simp at h
  | k :: ks, 0, o, a, rest, h => by
    simp at h
    subst h
    simp [UnV.cs]
  | k :: ks, i + 1, o, a, rest, h => by
    have ih := uflat_set6 ks i o a rest (by simpa using h)
    rw [show (i + 1) * 8 + 6 = i * 8 + 6 + 8 by omega, List.set_cons_succ, List.flatMap_cons, List.append_assoc, ih, List.flatMap_cons]
    simp [UnV.cs]
theorem Ub.set6 {w : World} {g : Nat} {ks : List UnV} {rest : List Value} (h : Ub w g ks rest) {i : Nat} {o : UnV} (ho : ks[i]? = some o) (a : Int) : Ub (w.setCell ⟨g, i * 8 + 6, none⟩ (.int .i64 a)) g (ks.set i { o with task := a }) rest := by
  unfold Ub at *
  have h0 := heap_setCell_same w g (i * 8 + 6) _ _ (.int .i64 a) h
  rw [h0, uflat_set6 ks i o a rest ho]
  simp
theorem uflat_set7 : ∀ (ks : List UnV) (i : Nat) (o : UnV) (a : Int) (rest : List Value), ks[i]? = some o → (ks.set i { o with goal := a }).flatMap UnV.cs ++ rest = (ks.flatMap UnV.cs ++ rest).set (i * 8 + 7) (.int .i64 a)
  | [], i, o, a, rest, h => by simp at h
  | k :: ks, 0, o, a, rest, h => by
    simp at h
    subst h
    simp [UnV.cs]
  | k :: ks, i + 1, o, a, rest, h => by
    have ih := uflat_set7 ks i o a rest (by simpa using h)
    rw [show (i + 1) * 8 + 7 = i * 8 + 7 + 8 by omega, List.set_cons_succ, List.flatMap_cons, List.append_assoc, ih, List.flatMap_cons]
    simp [UnV.cs]
theorem Ub.set7 {w : World} {g : Nat} {ks : List UnV} {rest : List Value} (h : Ub w g ks rest) {i : Nat} {o : UnV} (ho : ks[i]? = some o) (a : Int) : Ub (w.setCell ⟨g, i * 8 + 7, none⟩ (.int .i64 a)) g (ks.set i { o with goal := a }) rest := by
  unfold Ub at *
  have h0 := heap_setCell_same w g (i * 8 + 7) _ _ (.int .i64 a) h
  rw [h0, uflat_set7 ks i o a rest ho]
  simp
/-- a list of its own, as a block. -/
theorem Uno.ub {w : World} {base : Nat} {v : Value} {ks : List UnV} (h : Uno w base v ks) : (v = .slice none 0 0 ∧ ks = []) ∨ ∃ g cap rest, v = .slice (some ⟨g, 0, none⟩) ks.length cap ∧ base ≤ g ∧ ks.length ≤ cap ∧ cap ≤ maxLen ∧ ks.length * 8 + rest.length = cap * 8 ∧ Ub w g ks rest := by
  rcases h.2 with ⟨h1, h2⟩ | ⟨g, cap, cur, h1, h2, h3, h4, h5, h6, h7⟩
  · exact .inl ⟨h1, List.length_eq_zero_iff.1 h2⟩
  · refine .inr ⟨g, cap, cur.toList.drop (ks.length * 8), h1, h2, h4, h5, ?_, ?_⟩
    · have e6 : cur.toList.length = cap * 8 := by simpa using h6
      rw [List.length_drop, e6]
      have : ks.length * 8 ≤ cap * 8 := Nat.mul_le_mul_right _ h4
      omega
    · unfold Ub
      rw [← h7, List.take_append_drop, Array.toArray_toList]
      exact h3
theorem Ub.uno {w : World} {base g cap : Nat} {ks : List UnV} {rest : List Value} (h : Ub w g ks rest) (hb : base ≤ g) (h1 : ks.length ≤ cap) (h2 : cap ≤ maxLen) (h3 : ks.length * 8 + rest.length = cap * 8) : Uno w base (.slice (some ⟨g, 0, none⟩) ks.length cap) ks := by
  refine ⟨len_un ks, .inr ⟨g, cap, _, rfl, hb, h, h1, h2, ?_, ?_⟩⟩
  · simp only [List.size_toArray, List.length_append, len_un]; omega
  · show (ks.flatMap UnV.cs ++ rest).take (ks.length * 8) = _
    rw [List.take_append_of_le_length (by rw [len_un]; exact Nat.le_refl _), List.take_of_length_le (by rw [len_un]; exact Nat.le_refl _)]
/-- the first m of them, and the others behind. -/
theorem Ub.take {w : World} {g : Nat} {ks : List UnV} {rest : List Value} (h : Ub w g ks rest) (m : Nat) : Ub w g (ks.take m) ((ks.drop m).flatMap UnV.cs ++ rest) := by
  unfold Ub at *
  rw [← List.append_assoc, ← List.flatMap_append, List.take_append_drop]
  exact h
end Go.Proofs.YtagnjmellcibhaaGreatDoor

namespace Go.Proofs.YtagnjmellcibhaaGreatDoor
open Go.RowKit
set_option linter.unusedVariables false

/-- r is where the first is; -1: there is none. -/
def FstU (p : UnV → Bool) (ks : List UnV) (r : Int) : Prop := (r = -1 ∧ ks.any p = false) ∨ ∃ (k : Nat) (x : UnV), r = k ∧ ks[k]? = some x ∧ p x = true ∧ (ks.take k).any p = false
theorem anyu_next {p : UnV → Bool} {ks : List UnV} {k : Nat} {x : UnV} (h : ks[k]? = some x) : (ks.take (k + 1)).any p = ((ks.take k).any p || p x) := by
  obtain ⟨hi, e⟩ := List.getElem?_eq_some_iff.1 h
  rw [List.take_succ_eq_append_getElem hi, List.any_append, e]
  simp

set_option maxHeartbeats 2000000 in
theorem idxu_any (K : Nat) (eK : ∀ args w, (callFunc K args).run Tryz.prog w = .ok (.enter K args) w) (u : Value) (cs : Array Value) (ks : List UnV) (p : UnV → Bool) (w : World) (hu : Unl w u ks)
    (hp : ∀ W, Below w.heap.size w W → ∀ k : UnV, Calls Tryz.prog K (#[k.val] ++ cs) W fun e w' => e = .returned (.bool (p k)) ∧ Below W.heap.size W w') :
    Calls Tryz.prog 61 #[u, .func (Fn.func K) #[] cs] w fun e w' => ∃ r : Int, e = .returned (.int .i64 r) ∧ FstU p ks r ∧ Below w.heap.size w w' := by
  obtain ⟨a, c, rfl, c1, c2, ca⟩ := hu
  have Ca : Hid (ks ≠ [] → ∃ x, a = some x ∧ x.block < w.heap.size ∧ ∀ (i : Nat) k, ks[i]? = some k → Unc w (x.add (i * 8)) k) := ca
  have Hp : Hid (∀ W, Below w.heap.size w W → ∀ k : UnV, Calls Tryz.prog K (#[k.val] ++ cs) W fun e w' => e = .returned (.bool (p k)) ∧ Below W.heap.size W w') := hp
  clear ca hp
  go_enter Tryz.func61, Tryz.ntmps61
  go_wp2
  go_loopw [8] (fun i W' => ∃ k : Nat, k ≤ ks.length ∧ i = .int .i64 (k : Nat) ∧ (ks.take k).any p = false ∧ Below w.heap.size w W') (fun i _ => ks.length - (intOf i).toNat)
  case atStart => exact ⟨0, Nat.zero_le _, rfl, by simp, Below.refl _ _⟩
  case round =>
    obtain ⟨k, hk, rfl, ht, hb⟩ := hrel
    have Ht : Hid ((ks.take k).any p = false) := ht
    have B : Hid (Below w.heap.size w wr) := hb
    clear ht hb
    by_cases h0 : k = ks.length
    · subst h0
      go_wp2
      go_ret
      refine ⟨_, rfl, .inl ⟨rfl, ?_⟩, B⟩
      have := Ht.out
      rw [List.take_of_length_le (Nat.le_refl _)] at this
      exact this
    · have hkx : k < ks.length := by omega
      obtain ⟨x, rfl, hx1, hx⟩ := Ca.out (by intro h; rw [h] at hkx; simp at hkx)
      obtain ⟨y, hy⟩ : ∃ y, ks[k]? = some y := ⟨_, List.getElem?_eq_getElem hkx⟩
      have Yc := (hx k y hy).below B.out (by rw [add_block]; exact hx1)
      obtain ⟨q0, q1, q2, q3, q4, q5, q6, q7⟩ := Yc
      have hc := Hp.out wr B.out y
      have Hs : Hid _ := anyu_next (p := p) hy
      have Hm : Hid (ks[k]? = some y) := hy
      clear hx hx1 hy
      cases hy : p y with
      | true =>
        rw [hy] at hc
        have Hc : Hid (Calls Tryz.prog K (#[y.val] ++ cs) wr fun e w' => e = .returned (.bool true) ∧ Below wr.heap.size wr w') := hc
        have Hy : Hid (p y = true) := hy
        clear hc hy
        go_wp2_with fail
        refine Calls.mono Hc.out ?_
        rintro e w1 ⟨rfl, b1⟩
        have B1 : Hid (Below w.heap.size w w1) := B.out.trans (b1.mono B.out.size)
        clear b1
        go_wp2
        go_ret
        exact ⟨_, rfl, .inr ⟨k, y, rfl, Hm, Hy, Ht⟩, B1⟩
      | false =>
        rw [hy] at hc
        have Hc : Hid (Calls Tryz.prog K (#[y.val] ++ cs) wr fun e w' => e = .returned (.bool false) ∧ Below wr.heap.size wr w') := hc
        have Hy : Hid (p y = false) := hy
        clear hc hy
        go_wp2_with fail
        refine Calls.mono Hc.out ?_
        rintro e w1 ⟨rfl, b1⟩
        have B1 : Hid (Below w.heap.size w w1) := B.out.trans (b1.mono B.out.size)
        clear b1
        go_wp2
        go_round
        case rel => exact ⟨k + 1, by omega, by go_num, by have := Hs.out; rw [Ht.out, Hy.out] at this; exact this, B1⟩
        case measure => simp [intOf]; omega

theorem FstU.has {p : UnV → Bool} {xs : List UnV} {r : Int} (h : FstU p xs r) : decide (0 ≤ r) = xs.any p := by
  rcases h with ⟨rfl, h⟩ | ⟨k, x, rfl, h1, h2, _⟩
  · rw [h]; decide
  · rw [decide_eq_true (by omega)]
    exact (List.any_eq_true.2 ⟨x, List.mem_of_getElem? h1, h2⟩).symm

set_option maxHeartbeats 1000000 in
theorem hasu_any (K : Nat) (eK : ∀ args w, (callFunc K args).run Tryz.prog w = .ok (.enter K args) w) (u : Value) (cs : Array Value) (ks : List UnV) (p : UnV → Bool) (w : World) (hu : Unl w u ks)
    (hp : ∀ W, Below w.heap.size w W → ∀ k : UnV, Calls Tryz.prog K (#[k.val] ++ cs) W fun e w' => e = .returned (.bool (p k)) ∧ Below W.heap.size W w') :
    Calls Tryz.prog 76 #[u, .func (Fn.func K) #[] cs] w fun e w' => e = .returned (.bool (ks.any p)) ∧ Below w.heap.size w w' := by
  have H' : Hid (Calls Tryz.prog 61 #[u, .func (Fn.func K) #[] cs] w fun e w' => ∃ r : Int, e = .returned (.int .i64 r) ∧ FstU p ks r ∧ Below w.heap.size w w') := idxu_any K eK u cs ks p w hu hp
  clear hp
  go_enter Tryz.func76, Tryz.ntmps76
  go_wp2_with fail
  refine Calls.mono H'.out ?_
  rintro e w1 ⟨r, rfl, hr, q⟩
  have Hr : Hid (decide (0 ≤ r) = ks.any p) := hr.has
  have Q : Hid (Below w.heap.size w w1) := q
  clear hr q
  go_wp2
  go_ret
  exact ⟨by show Ending.returned (.bool (decide (0 ≤ r))) = _; rw [Hr.out], Q⟩
end Go.Proofs.YtagnjmellcibhaaGreatDoor

namespace Go.Proofs.YtagnjmellcibhaaGreatDoor
set_option linter.unusedVariables false
namespace Wd

/-- numbers below 0 between the others. -/
def zz (n : Int) : Nat := if n < 0 then ((-(n + 1)).toNat) * 2 + 1 else n.toNat * 2
def unz (x : Nat) : Int := if x % 2 = 1 then -((x / 2 : Nat) : Int) - 1 else ((x / 2 : Nat) : Int)
theorem unz_zz (n : Int) : unz (zz n) = n := by
  unfold unz zz
  by_cases h : n < 0
  · rw [if_pos h, if_pos (by omega)]; omega
  · rw [if_neg h, if_neg (by omega)]; omega
theorem zz_unz (x : Nat) : zz (unz x) = x := by
  unfold unz zz
  by_cases h : x % 2 = 1
  · rw [if_pos h, if_pos (by omega)]; omega
  · rw [if_neg h, if_neg (by omega)]; omega
def In64 (n : Int) : Prop := -9223372036854775808 ≤ n ∧ n ≤ 9223372036854775807
theorem zz_lt {n : Int} (h : In64 n) : zz n < 18446744073709551616 := by
  unfold In64 at h
  unfold zz
  split <;> omega
theorem unz_in {x : Nat} (h : x < 18446744073709551616) : In64 (unz x) := by
  unfold In64 unz
  split <;> omega

/-- seven bits a byte. -/
def vl (x : Nat) : List UInt8 := if h : x < 128 then [UInt8.ofNat x] else UInt8.ofNat (x % 128 + 128) :: vl (x / 128)
termination_by x
theorem vl_small {x : Nat} (h : x < 128) : vl x = [UInt8.ofNat x] := by rw [vl, dif_pos h]
theorem vl_great {x : Nat} (h : 128 ≤ x) : vl x = UInt8.ofNat (x % 128 + 128) :: vl (x / 128) := by rw [vl, dif_neg (by omega)]
def num (n : Int) : List UInt8 := vl (zz n)
/-- the number that bytes go on with: i bytes are read, they come to x. -/
def rd (i x : Nat) : List UInt8 → Option (Nat × Nat)
  | [] => none
  | c :: t => if i = 9 ∧ 1 < c.toNat then none else if 128 ≤ c.toNat then rd (i + 1) (x + c.toNat % 128 * 128 ^ i) t else if c.toNat = 0 ∧ 0 < i then none else some (x + c.toNat * 128 ^ i, i + 1)

theorem pow_le9 {i : Nat} (h : i ≤ 9) : 128 ^ i ≤ 128 ^ 9 := Nat.pow_le_pow_right (by decide) h
theorem pow9 : (128 : Nat) ^ 9 = 9223372036854775808 := by decide
theorem rd_le : ∀ (l : List UInt8) (i x y n : Nat), i ≤ 9 → x < 128 ^ i → rd i x l = some (y, n) → i < n ∧ n ≤ i + l.length ∧ n ≤ 10 ∧ y < 18446744073709551616
  | [], i, x, y, n, hi, hx, h => by simp [rd] at h
  | c :: t, i, x, y, n, hi, hx, h => by
    have hc : c.toNat < 256 := c.toNat_lt
    have hs : 128 ^ (i + 1) = 128 ^ i * 128 := Nat.pow_succ ..
    unfold rd at h
    split at h
    · cases h
    · rename_i h9
      split at h
      · rename_i hm
        have : i ≠ 9 := fun e => h9 ⟨e, by omega⟩
        have hm2 : c.toNat % 128 * 128 ^ i ≤ 127 * 128 ^ i := Nat.mul_le_mul_right _ (by omega)
        obtain ⟨h1, h2, h3, h4⟩ := rd_le t (i + 1) _ y n (by omega) (by omega) h
        simp only [List.length_cons]
        exact ⟨by omega, by omega, h3, h4⟩
      · split at h
        · cases h
        · injection h with h
          injection h with h1 h2
          subst h1 h2
          refine ⟨by omega, by simp only [List.length_cons]; omega, by omega, ?_⟩
          by_cases e : i = 9
          · subst e
            have : c.toNat ≤ 1 := by
              rcases Nat.lt_or_ge 1 c.toNat with h | h
              · exact absurd ⟨rfl, h⟩ h9
              · exact h
            have : c.toNat * 128 ^ 9 ≤ 1 * 128 ^ 9 := Nat.mul_le_mul_right _ this
            rw [pow9] at this hx ⊢
            omega
          · have h8 : 128 ^ i ≤ 128 ^ 8 := Nat.pow_le_pow_right (by decide) (by omega)
            have h82 : (128 : Nat) ^ 8 = 72057594037927936 := by decide
            have : c.toNat * 128 ^ i ≤ 127 * 128 ^ i := Nat.mul_le_mul_right _ (by omega)
            omega
theorem rd_vl : ∀ (f x i a : Nat) (t : List UInt8), x ≤ f → i ≤ 9 → x * 128 ^ i < 18446744073709551616 → (i = 0 ∨ 0 < x) → rd i a (vl x ++ t) = some (a + x * 128 ^ i, i + (vl x).length)
  | f, x, i, a, t, hf, hi, hx, hz => by
    by_cases h : x < 128
    · have e : (UInt8.ofNat x).toNat = x := by rw [UInt8.toNat_ofNat']; omega
      rw [vl_small h]
      show rd i a (UInt8.ofNat x :: t) = _
      unfold rd
      rw [e, if_neg, if_neg (by omega), if_neg (by omega)]
      · rfl
      · rintro ⟨e9, h1⟩
        subst e9
        have : 2 * 128 ^ 9 ≤ x * 128 ^ 9 := Nat.mul_le_mul_right _ h1
        rw [pow9] at this hx
        omega
    · have e : (UInt8.ofNat (x % 128 + 128)).toNat = x % 128 + 128 := by rw [UInt8.toNat_ofNat']; omega
      have hs : 128 ^ (i + 1) = 128 ^ i * 128 := Nat.pow_succ ..
      have i9 : i ≠ 9 := fun e9 => by
        subst e9
        have : 128 * 128 ^ 9 ≤ x * 128 ^ 9 := Nat.mul_le_mul_right _ (by omega)
        rw [pow9] at this hx
        omega
      rw [vl_great (by omega)]
      show rd i a (UInt8.ofNat (x % 128 + 128) :: (vl (x / 128) ++ t)) = _
      unfold rd
      have hsum : x = x / 128 * 128 + x % 128 := by omega
      have hmul : x * 128 ^ i = x / 128 * 128 ^ (i + 1) + x % 128 * 128 ^ i := by
        conv => lhs; rw [hsum]
        rw [Nat.add_mul, hs, Nat.mul_comm (128 ^ i) 128, Nat.mul_assoc]
      rw [e, if_neg (fun h => i9 h.1), if_pos (by omega)]
      match f, hf with
      | 0, hf => omega
      | f + 1, hf =>
        rw [rd_vl f (x / 128) (i + 1) _ t (by omega) (by omega) (by omega) (.inr (by omega))]
        simp only [List.length_cons]
        have e3 : (x % 128 + 128) % 128 = x % 128 := by omega
        rw [e3, hmul]
        congr 2
        · omega
        · omega
termination_by f => f
theorem rd_back : ∀ (l : List UInt8) (i a y n : Nat), i ≤ 9 → rd i a l = some (y, n) → ∃ x t, y = a + x * 128 ^ i ∧ l = vl x ++ t ∧ n = i + (vl x).length ∧ (i = 0 ∨ 0 < x)
  | [], i, a, y, n, hi, h => by simp [rd] at h
  | c :: t, i, a, y, n, hi, h => by
    have hc : c.toNat < 256 := c.toNat_lt
    have hs : 128 ^ (i + 1) = 128 ^ i * 128 := Nat.pow_succ ..
    unfold rd at h
    split at h
    · cases h
    · rename_i h9
      split at h
      · rename_i hm
        have i9 : i ≠ 9 := fun e => h9 ⟨e, by omega⟩
        obtain ⟨x, t', h1, h2, h3, h4⟩ := rd_back t (i + 1) _ y n (by omega) h
        have x0 : 0 < x := by omega
        have e1 : (x * 128 + c.toNat % 128) % 128 + 128 = c.toNat := by omega
        have e2 : (x * 128 + c.toNat % 128) / 128 = x := by omega
        have ev : vl (x * 128 + c.toNat % 128) = c :: vl x := by
          rw [vl_great (by omega), e1, e2, UInt8.ofNat_toNat]
        refine ⟨x * 128 + c.toNat % 128, t', ?_, ?_, ?_, .inr (by omega)⟩
        · rw [h1, hs, Nat.add_mul, Nat.mul_comm (128 ^ i) 128, ← Nat.mul_assoc]; omega
        · rw [ev, h2]; rfl
        · rw [ev, h3]; simp only [List.length_cons]; omega
      · rename_i hm
        split at h
        · cases h
        · rename_i hz
          injection h with h
          injection h with h1 h2
          have ev : vl c.toNat = [c] := by rw [vl_small (by omega), UInt8.ofNat_toNat]
          refine ⟨c.toNat, t, h1.symm, by rw [ev]; rfl, by rw [ev, ← h2]; rfl, ?_⟩
          omega

/-- the number that stands at a place, and the place behind it. -/
def pnum (b : List UInt8) (a : Nat) : Option (Int × Nat) := match rd 0 0 (b.drop a) with
  | none => none
  | some (x, n) => some (unz x, a + n)
theorem pnum_le {b : List UInt8} {a : Nat} {v : Int} {a' : Nat} (h : pnum b a = some (v, a')) : a < a' ∧ a' ≤ b.length ∧ a' ≤ a + 10 ∧ In64 v := by
  unfold pnum at h
  split at h
  · cases h
  · rename_i x n hr
    injection h with h
    injection h with h1 h2
    obtain ⟨e1, e2, e3, e4⟩ := rd_le _ 0 0 x n (by omega) (by simp) hr
    rw [List.length_drop] at e2
    refine ⟨by omega, by omega, by omega, by rw [← h1]; exact unz_in e4⟩
theorem pnum_num {b : List UInt8} {a : Nat} {n : Int} {t : List UInt8} (h : In64 n) (hb : b.drop a = num n ++ t) : pnum b a = some (n, a + (num n).length) := by
  unfold pnum
  rw [hb]
  unfold num
  rw [rd_vl _ (zz n) 0 0 t (Nat.le_refl _) (by omega) (by simpa using zz_lt h) (.inl rfl)]
  simp [unz_zz]
theorem pnum_back {b : List UInt8} {a : Nat} {v : Int} {a' : Nat} (h : pnum b a = some (v, a')) : b.drop a = num v ++ b.drop a' ∧ a' = a + (num v).length := by
  unfold pnum at h
  split at h
  · cases h
  · rename_i x n hr
    injection h with h
    injection h with h1 h2
    obtain ⟨x', t, e1, e2, e3, -⟩ := rd_back _ 0 0 x n (by omega) hr
    have ex : x = x' := by omega
    subst ex
    have en : num v = vl x := by unfold num; rw [← h1, zz_unz]
    have el : a' = a + (num v).length := by rw [en]; omega
    refine ⟨?_, el⟩
    rw [en, el, ← List.drop_drop, e2, en, List.drop_left]

/-- readers, one behind the other. -/
abbrev Pr (α : Type) := Nat → Option (α × Nat)
def prep {α : Type} (p : Pr α) : Nat → Pr (List α)
  | 0, a => some ([], a)
  | n + 1, a => match p a with
    | none => none
    | some (v, a') => match prep p n a' with
      | none => none
      | some (l, a'') => some (v :: l, a'')
theorem prep_snoc {α : Type} (p : Pr α) : ∀ (n a : Nat), prep p (n + 1) a = match prep p n a with
    | none => none
    | some (l, a') => match p a' with
      | none => none
      | some (v, a'') => some (l ++ [v], a'')
  | 0, a => by
    simp only [prep]
    cases p a with
    | none => rfl
    | some x => rfl
  | n + 1, a => by
    rw [prep]
    rw [show prep p (n + 1) a = (match p a with | none => none | some (v, a') => match prep p n a' with | none => none | some (l, a'') => some (v :: l, a'')) from rfl]
    cases p a with
    | none => rfl
    | some x =>
      obtain ⟨v, a'⟩ := x
      simp only
      rw [prep_snoc p n a']
      cases prep p n a' with
      | none => rfl
      | some y =>
        obtain ⟨l, a''⟩ := y
        simp only
        cases p a'' with
        | none => rfl
        | some z => rfl
theorem prep_len {α : Type} {p : Pr α} : ∀ {n a : Nat} {l : List α} {a' : Nat}, prep p n a = some (l, a') → l.length = n
  | 0, a, l, a', h => by simp [prep] at h; rw [h.1]; rfl
  | n + 1, a, l, a', h => by
    rw [prep] at h
    split at h
    · cases h
    · split at h
      · cases h
      · rename_i hh
        injection h with h
        injection h with h1 h2
        rw [← h1, List.length_cons, prep_len hh]
def pmany (b : List UInt8) (a : Nat) : Option (Nat × Nat) := match pnum b a with
  | none => none
  | some (n, a') => if 0 ≤ n ∧ n ≤ 200 then some (n.toNat, a') else none
def pbind {α β : Type} (p : Pr α) (f : α → Pr β) : Pr β := fun a => match p a with
  | none => none
  | some (v, a') => f v a'
def plist {α : Type} (b : List UInt8) (p : Pr α) : Pr (List α) := pbind (pmany b) (fun n => prep p n)
def pret {α : Type} (v : α) : Pr α := fun a => some (v, a)
end Wd
end Go.Proofs.YtagnjmellcibhaaGreatDoor

namespace Go.Proofs.YtagnjmellcibhaaGreatDoor
open Go.RowKit
set_option linter.unusedVariables false

structure JbV where
  player : Int
  unit : Int
  kind : Int
  left : Int
def JbV.val (k : JbV) : Value := .agg #[.int .i64 k.player, .int .i64 k.unit, .int .i64 k.kind, .int .i64 k.left]
/-- its cells, from an address on. -/
structure Jbc (w : World) (y : Addr) (k : JbV) : Prop where
  c0 : w.cell? y = some (.int .i64 k.player)
  c1 : w.cell? ⟨y.block, y.off + 1, none⟩ = some (.int .i64 k.unit)
  c2 : w.cell? ⟨y.block, y.off + 2, none⟩ = some (.int .i64 k.kind)
  c3 : w.cell? ⟨y.block, y.off + 3, none⟩ = some (.int .i64 k.left)
theorem Jbc.lt {w : World} {y : Addr} {k : JbV} (h : Jbc w y k) : y.block < w.heap.size := cell_lt h.c0
theorem Jbc.below {w w' : World} {y : Addr} {k : JbV} {B : Nat} (h : Jbc w y k) (hb : Below B w w') (hy : y.block < B) : Jbc w' y k :=
  ⟨by rw [hb.cell (p := y) hy]; exact h.c0, by rw [hb.cell (p := ⟨y.block, y.off + 1, none⟩) hy]; exact h.c1, by rw [hb.cell (p := ⟨y.block, y.off + 2, none⟩) hy]; exact h.c2, by rw [hb.cell (p := ⟨y.block, y.off + 3, none⟩) hy]; exact h.c3⟩
/-- v is a slice of them. -/
def Jbl (w : World) (v : Value) (ks : List JbV) : Prop := ∃ a c, v = .slice a ks.length c ∧ ks.length ≤ c ∧ c ≤ 9223372036854775807 ∧ (ks ≠ [] → ∃ x, a = some x ∧ x.block < w.heap.size ∧ ∀ (i : Nat) k, ks[i]? = some k → Jbc w (x.add (i * 4)) k)
theorem Jbl.below {w w' : World} {v : Value} {ks : List JbV} (h : Jbl w v ks) (hb : Below w.heap.size w w') : Jbl w' v ks := by
  obtain ⟨a, c, h1, h2, h3, h4⟩ := h
  refine ⟨a, c, h1, h2, h3, fun hn => ?_⟩
  obtain ⟨x, e, hx, hk⟩ := h4 hn
  exact ⟨x, e, Nat.lt_of_lt_of_le hx hb.size, fun i k hi => (hk i k hi).below hb (by rw [add_block]; exact hx)⟩
theorem Jbc.mk' {w : World} {z : Nat} (k : JbV) (hz : w.heap.size = z) : Jbc (w.alloc (.cells #[.int .i64 k.player, .int .i64 k.unit, .int .i64 k.kind, .int .i64 k.left] 65)) ⟨z, 0, none⟩ k := by
  subst hz
  constructor <;> simp
end Go.Proofs.YtagnjmellcibhaaGreatDoor

