/- Worlds: the numbers that are written, as mathematics; a world's slices. · slices.IndexFunc and ContainsFunc of units. · world.within. · slices.IndexFunc and ContainsFunc, of any function that tells yes or no and turns nothing. · Worlds: a unit by its id; whether a list has one of that number. · An error that is told. · Fields: what is wrong with a cell, with a field. · Fields: what Check says. · Fields: what every call says first. · Lists of integers that are written out. · Fields: how far it is onto a cell (cut out of FdN, which wants field.sides). · Worlds: whether one may stand on a cell. · A region whose operations read, and call what makes memory, ahead of a tail in one order: it may be walked in the text's order. · Worlds: what is wrong with a unit. · Worlds: what is wrong with a job. · The program's kinds: a number within bounds, where a name is. · The program's kinds: their numbers, and whether these are within bounds. · A name's letters, asked rune by rune. Plain mathematics. -/
import Derived.Test.YteieikgkmfglaaaGreatDoorZWorksDo1
import Derived.Laws.Closers25
import Derived.IntWalk
import Derived.Test.YteieikgkmfglaaaGreatDoorRows
import Derived.StillTail
import Derived.Below
import Derived.BigQuiet
import Derived.BigRegion
import Derived.Deep.DeepCutAuto
import Derived.Shelf.GgClosure.StringsIndexFunc
namespace Go.Proofs.YteieikgkmfglaaaGreatDoor
open Go.RowKit
set_option linter.unusedVariables false
structure WSmall (W : WV) : Prop where
 g : W.gs.length ≤ 1048576
 o : W.os.length ≤ 1048576
 p : W.gold.length ≤ 1048576
 u : W.us.length ≤ 1048576
 q : W.qs.length ≤ 1048576
theorem cell_of_new {w : World} {z i : Nat} {cs : Array Value} {T : TypeId} {v : Value} (hz : w.heap.size = z) (hv : cs[i]? = some v) : (w.alloc (.cells cs T)).cell? ⟨z, i, none⟩ = some v := by
 subst hz
 simp only [World.cell?, heap_alloc_new]
 simpa using hv
theorem Wl.slices {w : World} {W : WV} {u1 u2 u3 u4 u5 : Value} (h : Wl w (.agg #[.int .i64 W.turn, .int .i64 W.next, .int .i64 W.wide, .int .i64 W.high, u1, u2, u3, u4, u5]) W) : Ro w u1 W.gs ∧ Ro w u2 W.os ∧ Ro w u3 W.gold ∧ Unl w u4 W.us ∧ Jbl w u5 W.qs := by
 obtain ⟨v1, v2, v3, v4, v5, ev, r⟩ := h
 simp only [Value.agg.injEq, Array.mk.injEq, List.cons.injEq, and_true, true_and] at ev
 obtain ⟨rfl, rfl, rfl, rfl, rfl⟩ := ev
 exact r
end Go.Proofs.YteieikgkmfglaaaGreatDoor
namespace Go.Proofs.YteieikgkmfglaaaGreatDoor
open Go.RowKit
set_option linter.unusedVariables false
/-- r is where the first is; -1: there is none. -/
def FstU (p : UnV → Bool) (ks : List UnV) (r : Int) : Prop := (r = -1 ∧ ks.any p = false) ∨ ∃ (k : Nat) (x : UnV), r = k ∧ ks[k]? = some x ∧ p x = true ∧ (ks.take k).any p = false
theorem anyu_next {p : UnV → Bool} {ks : List UnV} {k : Nat} {x : UnV} (h : ks[k]? = some x) : (ks.take (k + 1)).any p = ((ks.take k).any p || p x) := by
 obtain ⟨hi, e⟩ := List.getElem?_eq_some_iff.1 h
 rw [List.take_succ_eq_append_getElem hi, List.any_append, e]
 simp
set_option maxHeartbeats 2000000 in
theorem idxu_any (K : Nat) (eK : ∀ args w, (callFunc K args).run Tryz.prog w = .ok (.enter K args) w) (u : Value) (cs : Array Value) (ks : List UnV) (p : UnV → Bool) (w : World) (hu : Unl w u ks)
  (hp : ∀ W, Below w.heap.size w W → ∀ k : UnV, Calls Tryz.prog K (#[k.val] ++ cs) W fun e w' => e = .returned (.bool (p k)) ∧ Below W.heap.size W w') :
  Calls Tryz.prog 64 #[u, .func (Fn.func K) #[] cs] w fun e w' => ∃ r : Int, e = .returned (.int .i64 r) ∧ FstU p ks r ∧ Below w.heap.size w w' := by
 obtain ⟨a, c, rfl, c1, c2, ca⟩ := hu
 have Ca : Hid (ks ≠ [] → ∃ x, a = some x ∧ x.block < w.heap.size ∧ ∀ (i : Nat) k, ks[i]? = some k → Unc w (x.add (i * 8)) k) := ca
 have Hp : Hid (∀ W, Below w.heap.size w W → ∀ k : UnV, Calls Tryz.prog K (#[k.val] ++ cs) W fun e w' => e = .returned (.bool (p k)) ∧ Below W.heap.size W w') := hp
 clear ca hp
 go_enter Tryz.func64, Tryz.ntmps64
 go_wp2
 go_loopw [8] (fun i W' => ∃ k : Nat, k ≤ ks.length ∧ i = .int .i64 (k : Nat) ∧ (ks.take k).any p = false ∧ Below w.heap.size w W') (fun i _ => ks.length - (intOf i).toNat)
 case atStart => exact ⟨0, Nat.zero_le _, rfl, by simp, Below.refl _ _⟩
 case round =>
  obtain ⟨k, hk, rfl, ht, hb⟩ := hrel
  have Ht : Hid ((ks.take k).any p = false) := ht
  have B : Hid (Below w.heap.size w wr) := hb
  clear ht hb
  by_cases h0 : k = ks.length
  ·subst h0
   go_wp2
   go_ret
   refine ⟨_, rfl, .inl ⟨rfl, ?_⟩, B⟩
   have := Ht.out
   rw [List.take_of_length_le (Nat.le_refl _)] at this
   exact this
  ·have hkx : k < ks.length := by omega
   obtain ⟨x, rfl, hx1, hx⟩ := Ca.out (by intro h; rw [h] at hkx; simp at hkx)
   obtain ⟨y, hy⟩ : ∃ y, ks[k]? = some y := ⟨_, List.getElem?_eq_getElem hkx⟩
   have Yc := (hx k y hy).below B.out (by rw [add_block]; exact hx1)
   obtain ⟨q0, q1, q2, q3, q4, q5, q6, q7⟩ := Yc
   have hc := Hp.out wr B.out y
   have Hs : Hid _ := anyu_next (p := p) hy
   have Hm : Hid (ks[k]? = some y) := hy
   clear hx hx1 hy
   cases hy : p y with
   | true =>
    rw [hy] at hc
    have Hc : Hid (Calls Tryz.prog K (#[y.val] ++ cs) wr fun e w' => e = .returned (.bool true) ∧ Below wr.heap.size wr w') := hc
    have Hy : Hid (p y = true) := hy
    clear hc hy
    go_wp2_with fail
    refine Calls.mono Hc.out ?_
    rintro e w1 ⟨rfl, b1⟩
    have B1 : Hid (Below w.heap.size w w1) := B.out.trans (b1.mono B.out.size)
    clear b1
    go_wp2
    go_ret
    exact ⟨_, rfl, .inr ⟨k, y, rfl, Hm, Hy, Ht⟩, B1⟩
   | false =>
    rw [hy] at hc
    have Hc : Hid (Calls Tryz.prog K (#[y.val] ++ cs) wr fun e w' => e = .returned (.bool false) ∧ Below wr.heap.size wr w') := hc
    have Hy : Hid (p y = false) := hy
    clear hc hy
    go_wp2_with fail
    refine Calls.mono Hc.out ?_
    rintro e w1 ⟨rfl, b1⟩
    have B1 : Hid (Below w.heap.size w w1) := B.out.trans (b1.mono B.out.size)
    clear b1
    go_wp2
    go_round
    case rel => exact ⟨k + 1, by omega, by go_num, by have := Hs.out; rw [Ht.out, Hy.out] at this; exact this, B1⟩
    case measure => simp [intOf]; omega
theorem FstU.has {p : UnV → Bool} {xs : List UnV} {r : Int} (h : FstU p xs r) : decide (0 ≤ r) = xs.any p := by
 rcases h with ⟨rfl, h⟩ | ⟨k, x, rfl, h1, h2, _⟩
 ·rw [h]; decide
 ·rw [decide_eq_true (by omega)]
  exact (List.any_eq_true.2 ⟨x, List.mem_of_getElem? h1, h2⟩).symm
set_option maxHeartbeats 1000000 in
theorem hasu_any (K : Nat) (eK : ∀ args w, (callFunc K args).run Tryz.prog w = .ok (.enter K args) w) (u : Value) (cs : Array Value) (ks : List UnV) (p : UnV → Bool) (w : World) (hu : Unl w u ks)
  (hp : ∀ W, Below w.heap.size w W → ∀ k : UnV, Calls Tryz.prog K (#[k.val] ++ cs) W fun e w' => e = .returned (.bool (p k)) ∧ Below W.heap.size W w') :
  Calls Tryz.prog 42 #[u, .func (Fn.func K) #[] cs] w fun e w' => e = .returned (.bool (ks.any p)) ∧ Below w.heap.size w w' := by
 have H' : Hid (Calls Tryz.prog 64 #[u, .func (Fn.func K) #[] cs] w fun e w' => ∃ r : Int, e = .returned (.int .i64 r) ∧ FstU p ks r ∧ Below w.heap.size w w') := idxu_any K eK u cs ks p w hu hp
 clear hp
 go_enter Tryz.func42, Tryz.ntmps42
 go_wp2_with fail
 refine Calls.mono H'.out ?_
 rintro e w1 ⟨r, rfl, hr, q⟩
 have Hr : Hid (decide (0 ≤ r) = ks.any p) := hr.has
 have Q : Hid (Below w.heap.size w w1) := q
 clear hr q
 go_wp2
 go_ret
 exact ⟨by show Ending.returned (.bool (decide (0 ≤ r))) = _; rw [Hr.out], Q⟩
end Go.Proofs.YteieikgkmfglaaaGreatDoor
namespace Go.Proofs.YteieikgkmfglaaaGreatDoor
open Go.RowKit
set_option linter.unusedVariables false
theorem wwithin_any (x lo hi : Int) (w : World) : Calls Tryz.prog 86 #[.int .i64 x, .int .i64 lo, .int .i64 hi] w fun e w' => e = .returned (.bool (decide (lo ≤ x ∧ x ≤ hi))) ∧ w' = w := by
 by_cases h1 : lo ≤ x
 ·by_cases h2 : x ≤ hi
  ·go_enter Tryz.func86, Tryz.ntmps86
   go_wp2
   go_ret
   refine ⟨?_, rfl⟩
   rw [decide_eq_true ⟨h1, h2⟩]
   rfl
  ·go_enter Tryz.func86, Tryz.ntmps86
   go_wp2
   go_ret
   refine ⟨?_, rfl⟩
   rw [decide_eq_false (by omega)]
   rfl
 ·go_enter Tryz.func86, Tryz.ntmps86
  go_wp2
  go_ret
  refine ⟨?_, rfl⟩
  rw [decide_eq_false (by omega)]
  rfl
end Go.Proofs.YteieikgkmfglaaaGreatDoor
namespace Go.Proofs.YteieikgkmfglaaaGreatDoor
open Go.RowKit
set_option linter.unusedVariables false
theorem any_next {p : Int → Bool} {xs : List Int} {k : Nat} (h : k < xs.length) : (xs.take (k + 1)).any p = ((xs.take k).any p || p xs[k]) := by
 rw [List.take_succ_eq_append_getElem h, List.any_append]
 simp
/-- r is where the first is; -1: there is none. -/
def Fst (p : Int → Bool) (xs : List Int) (r : Int) : Prop := (r = -1 ∧ xs.any p = false) ∨ ∃ (k : Nat) (x : Int), r = k ∧ xs[k]? = some x ∧ p x = true ∧ (xs.take k).any p = false
set_option maxHeartbeats 1000000 in
theorem idxf_any (K : Nat) (eK : ∀ args w, (callFunc K args).run Tryz.prog w = .ok (.enter K args) w) (u : Value) (cs : Array Value) (xs : List Int) (p : Int → Bool) (w : World) (hu : Ro w u xs)
  (hp : ∀ m, ∀ x ∈ xs, Calls Tryz.prog K (#[.int .i64 x] ++ cs) (w.drewN m) fun e w' => e = .returned (.bool (p x)) ∧ ∃ q, w' = w.drewN q) :
  Calls Tryz.prog 67 #[u, .func (Fn.func K) #[] cs] w fun e w' => ∃ r : Int, e = .returned (.int .i64 r) ∧ Fst p xs r ∧ ∃ q, w' = w.drewN q := by
 obtain ⟨a, c, rfl, c1, c2, ca⟩ := hu
 have Ca : Hid (Cells w a xs) := ca
 have Hp : Hid (∀ m, ∀ x ∈ xs, Calls Tryz.prog K (#[.int .i64 x] ++ cs) (w.drewN m) fun e w' => e = .returned (.bool (p x)) ∧ ∃ q, w' = w.drewN q) := hp
 clear ca hp
 go_enter Tryz.func67, Tryz.ntmps67
 go_wp2
 go_loopw [8] (fun i W' => ∃ k q : Nat, k ≤ xs.length ∧ i = .int .i64 (k : Nat) ∧ (xs.take k).any p = false ∧ W' = w.drewN q) (fun i _ => xs.length - (intOf i).toNat)
 case atStart => exact ⟨0, 0, Nat.zero_le _, rfl, by simp, rfl⟩
 case round =>
  obtain ⟨k, q, hk, rfl, ht, rfl⟩ := hrel
  have Ht : Hid ((xs.take k).any p = false) := ht
  clear ht
  by_cases h0 : k = xs.length
  ·subst h0
   go_wp2
   go_ret
   refine ⟨_, rfl, .inl ⟨rfl, ?_⟩, _, rfl⟩
   have := Ht.out
   rw [List.take_of_length_le (Nat.le_refl _)] at this
   exact this
  ·have hkx : k < xs.length := by omega
   obtain ⟨x, rfl, -, hx⟩ := Ca.out (by intro h; rw [h] at hkx; simp at hkx)
   have cx : (w.drewN q).cell? (x.add k) = some (.int .i64 xs[k]) := hx k xs[k] (List.getElem?_eq_getElem hkx)
   have hc := Hp.out q xs[k] (List.getElem_mem hkx)
   have Hs : Hid _ := any_next (p := p) hkx
   have Hm : Hid (xs[k]? = some xs[k]) := List.getElem?_eq_getElem hkx
   generalize xs[k] = y at *
   generalize w.drewN q = w1 at *
   clear hx
   cases hy : p y with
   | true =>
    rw [hy] at hc
    have Hc : Hid (Calls Tryz.prog K (#[.int .i64 y] ++ cs) w1 fun e w' => e = .returned (.bool true) ∧ ∃ q, w' = w.drewN q) := hc
    have Hy : Hid (p y = true) := hy
    clear hc hy
    go_wp2_with fail
    refine Calls.mono Hc.out ?_
    rintro e w1 ⟨rfl, q1, rfl⟩
    go_wp2
    go_ret
    exact ⟨_, rfl, .inr ⟨k, y, rfl, Hm, Hy, Ht⟩, q1, rfl⟩
   | false =>
    rw [hy] at hc
    have Hc : Hid (Calls Tryz.prog K (#[.int .i64 y] ++ cs) w1 fun e w' => e = .returned (.bool false) ∧ ∃ q, w' = w.drewN q) := hc
    have Hy : Hid (p y = false) := hy
    clear hc hy
    go_wp2_with fail
    refine Calls.mono Hc.out ?_
    rintro e w1 ⟨rfl, q1, rfl⟩
    go_wp2
    go_round
    case rel => exact ⟨k + 1, q1, by omega, by go_num, by have := Hs.out; rw [Ht.out, Hy.out] at this; exact this, rfl⟩
    case measure => simp [intOf]; omega
theorem Fst.has {p : Int → Bool} {xs : List Int} {r : Int} (h : Fst p xs r) : decide (0 ≤ r) = xs.any p := by
 rcases h with ⟨rfl, h⟩ | ⟨k, x, rfl, h1, h2, _⟩
 ·rw [h]; decide
 ·rw [decide_eq_true (by omega)]
  exact (List.any_eq_true.2 ⟨x, List.mem_of_getElem? h1, h2⟩).symm
set_option maxHeartbeats 1000000 in
theorem hasf_any (K : Nat) (eK : ∀ args w, (callFunc K args).run Tryz.prog w = .ok (.enter K args) w) (u : Value) (cs : Array Value) (xs : List Int) (p : Int → Bool) (w : World) (hu : Ro w u xs)
  (hp : ∀ m, ∀ x ∈ xs, Calls Tryz.prog K (#[.int .i64 x] ++ cs) (w.drewN m) fun e w' => e = .returned (.bool (p x)) ∧ ∃ q, w' = w.drewN q) :
  Calls Tryz.prog 87 #[u, .func (Fn.func K) #[] cs] w fun e w' => e = .returned (.bool (xs.any p)) ∧ ∃ q, w' = w.drewN q := by
 have H := idxf_any K eK u cs xs p w hu hp
 have H' : Hid (Calls Tryz.prog 67 #[u, .func (Fn.func K) #[] cs] w fun e w' => ∃ r : Int, e = .returned (.int .i64 r) ∧ Fst p xs r ∧ ∃ q, w' = w.drewN q) := H
 clear H hp
 go_enter Tryz.func87, Tryz.ntmps87
 go_wp2_with fail
 refine Calls.mono H'.out ?_
 rintro e w1 ⟨r, rfl, hr, q, rfl⟩
 have Hr : Hid (decide (0 ≤ r) = xs.any p) := hr.has
 clear hr
 go_wp2
 go_ret
 exact ⟨by show Ending.returned (.bool (decide (0 ≤ r))) = _; rw [Hr.out], q, rfl⟩
end Go.Proofs.YteieikgkmfglaaaGreatDoor
namespace Go.Proofs.YteieikgkmfglaaaGreatDoor
open Go.RowKit
set_option linter.unusedVariables false
set_option maxHeartbeats 1000000 in
theorem fid_any (u : UnV) (id : Int) (b : Nat) (w : World) (hc : w.cell? ⟨b, 0, none⟩ = some (.int .i64 id)) :
  Calls Tryz.prog 65 #[u.val, .pointer (some ⟨b, 0, none⟩)] w fun e w' => e = .returned (.bool (u.id == id)) ∧ Below w.heap.size w w' := by
 have hb : b < w.heap.size := cell_lt hc
 have hne : b ≠ w.heap.size := by omega
 unfold UnV.val
 go_enter Tryz.func65, Tryz.ntmps65
 go_wp2
 go_ret
 exact ⟨rfl, (Below.refl _ _).alloc (Nat.le_refl _) _⟩
set_option maxHeartbeats 1000000 in
theorem wfind_any (v : Value) (W : WV) (id : Int) (w : World) (h : Wl w v W) :
  Calls Tryz.prog 40 #[v, .int .i64 id] w fun e w' => ∃ r : Int, e = .returned (.int .i64 r) ∧ FstU (fun u => u.id == id) W.us r ∧ Below w.heap.size w w' := by
 have H : Hid (Wl w v W) := h
 obtain ⟨u1, u2, u3, u4, u5, rfl, -, -, -, h4, -⟩ := h
 have U : Hid (Unl w u4 W.us) := h4
 clear h4
 go_enter Tryz.func40, Tryz.ntmps40
 go_wp2_with fail
 have B0 : Hid (Below w.heap.size w ((w.alloc (Obj.cells #[.int .i64 W.turn, .int .i64 W.next, .int .i64 W.wide, .int .i64 W.high, u1, u2, u3, u4, u5] 29)).alloc (Obj.cells #[.int .i64 id] 3))) := ((Below.refl _ _).alloc (Nat.le_refl _) _).alloc (by simp) _
 have C0 : Hid (((w.alloc (Obj.cells #[.int .i64 W.turn, .int .i64 W.next, .int .i64 W.wide, .int .i64 W.high, u1, u2, u3, u4, u5] 29)).alloc (Obj.cells #[.int .i64 id] 3)).cell? ⟨w.heap.size + 1, 0, none⟩ = some (.int .i64 id)) := cell_of_new (by simp) rfl
 generalize ((w.alloc (Obj.cells #[.int .i64 W.turn, .int .i64 W.next, .int .i64 W.wide, .int .i64 W.high, u1, u2, u3, u4, u5] 29)).alloc (Obj.cells #[.int .i64 id] 3)) = w0 at *
 refine (idxu_any 65 (by intro args w; go_simp) u4 #[.pointer (some ⟨w.heap.size + 1, 0, none⟩)] W.us (fun u => u.id == id) w0 (U.out.below B0.out) (fun V hV k => fid_any k id (w.heap.size + 1) V (by rw [hV.cell (p := ⟨w.heap.size + 1, 0, none⟩) (cell_lt C0.out)]; exact C0.out))).mono ?_
 rintro e w1 ⟨r, rfl, hf, hb⟩
 have F : Hid (FstU (fun u => u.id == id) W.us r ∧ Below w.heap.size w w1) := ⟨hf, B0.out.trans (hb.mono B0.out.size)⟩
 clear hf hb
 go_wp2
 go_ret
 exact ⟨r, rfl, F.out.1, F.out.2⟩
set_option maxHeartbeats 1000000 in
theorem isone_ints (a : Option Addr) (n c : Nat) (i : Int) (w : World) (hn : n ≤ 9223372036854775807) :
  Calls Tryz.prog 88 #[.slice a n c, .int .i64 i] w fun e w' => e = .returned (.bool (decide (0 ≤ i ∧ i < (n : Int)))) ∧ w' = w := by
 have hw : IntKind.i64.wrap ((n : Int) - 1) = (n : Int) - 1 := by rw [IntKind.wrap_i64]; omega
 go_enter Tryz.func88, Tryz.ntmps88
 go_wp2_with fail
 refine (wwithin_any i 0 ((n : Int) - 1) w).mono ?_
 rintro e w1 ⟨rfl, rfl⟩
 have E : decide (0 ≤ i ∧ i ≤ (n : Int) - 1) = decide (0 ≤ i ∧ i < (n : Int)) := decide_eq_decide.2 ⟨fun h => by omega, fun h => by omega⟩
 rw [E]
 obtain ⟨b, hb⟩ : ∃ b, decide (0 ≤ i ∧ i < (n : Int)) = b := ⟨_, rfl⟩
 rw [hb]
 have HB : Hid (decide (0 ≤ i ∧ i < (n : Int)) = b) := hb
 clear hb E
 go_wp2
 go_ret
 exact ⟨by rw [HB.out]; rfl, rfl⟩
set_option maxHeartbeats 1000000 in
theorem isone_kinds (a : Option Addr) (n c : Nat) (i : Int) (w : World) (hn : n ≤ 9223372036854775807) :
  Calls Tryz.prog 89 #[.slice a n c, .int .i64 i] w fun e w' => e = .returned (.bool (decide (0 ≤ i ∧ i < (n : Int)))) ∧ w' = w := by
 have hw : IntKind.i64.wrap ((n : Int) - 1) = (n : Int) - 1 := by rw [IntKind.wrap_i64]; omega
 go_enter Tryz.func89, Tryz.ntmps89
 go_wp2_with fail
 refine (wwithin_any i 0 ((n : Int) - 1) w).mono ?_
 rintro e w1 ⟨rfl, rfl⟩
 have E : decide (0 ≤ i ∧ i ≤ (n : Int) - 1) = decide (0 ≤ i ∧ i < (n : Int)) := decide_eq_decide.2 ⟨fun h => by omega, fun h => by omega⟩
 rw [E]
 obtain ⟨b, hb⟩ : ∃ b, decide (0 ≤ i ∧ i < (n : Int)) = b := ⟨_, rfl⟩
 rw [hb]
 have HB : Hid (decide (0 ≤ i ∧ i < (n : Int)) = b) := hb
 clear hb E
 go_wp2
 go_ret
 exact ⟨by rw [HB.out]; rfl, rfl⟩
end Go.Proofs.YteieikgkmfglaaaGreatDoor
namespace Go.Proofs.YteieikgkmfglaaaGreatDoor
/-- v tells the fault n. -/
def Er (v : Value) (n : Int) : Prop := (n = 0 ∧ v = .nilIface) ∨ (n ≠ 0 ∧ v = .iface 77 (.int .i64 n))
theorem Er.nil : Er .nilIface 0 := .inl ⟨rfl, rfl⟩
theorem Er.no {n : Int} (h : n ≠ 0) : Er (.iface 77 (.int .i64 n)) n := .inr ⟨h, rfl⟩
end Go.Proofs.YteieikgkmfglaaaGreatDoor
namespace Go.Proofs.YteieikgkmfglaaaGreatDoor
open Go.RowKit
set_option maxHeartbeats 400000 in
theorem fin_any (x a b : Int) (w : World) :
  Calls Tryz.prog 116 #[.int .i64 x, .int .i64 a, .int .i64 b] w fun e w' => e = .returned (.bool (decide (a ≤ x ∧ x ≤ b))) ∧ w' = w := by
 by_cases h1 : a ≤ x
 ·by_cases h2 : x ≤ b
  ·go_enter Tryz.func116, Tryz.ntmps116
   go_wp2
   go_ret
   exact ⟨by simp [h1, h2], rfl⟩
  ·go_enter Tryz.func116, Tryz.ntmps116
   go_wp2
   go_ret
   exact ⟨by simp; omega, rfl⟩
 ·go_enter Tryz.func116, Tryz.ntmps116
  go_wp2
  go_ret
  exact ⟨by simp; omega, rfl⟩
theorem fin_yes (x a b : Int) (w : World) (h1 : a ≤ x) (h2 : x ≤ b) :
  Calls Tryz.prog 116 #[.int .i64 x, .int .i64 a, .int .i64 b] w fun e w' => e = .returned (.bool true) ∧ w' = w :=
 (fin_any x a b w).mono fun e w' ⟨h, hw⟩ => ⟨by rw [h, decide_eq_true ⟨h1, h2⟩], hw⟩
theorem fin_no (x a b : Int) (w : World) (h : x < a ∨ b < x) :
  Calls Tryz.prog 116 #[.int .i64 x, .int .i64 a, .int .i64 b] w fun e w' => e = .returned (.bool false) ∧ w' = w :=
 (fin_any x a b w).mono fun e w' ⟨h', hw⟩ => ⟨by rw [h', decide_eq_false (by omega)], hw⟩
set_option maxHeartbeats 400000 in
theorem cell_any (g o : Int) (w : World) :
  Calls Tryz.prog 117 #[.int .i64 g, .int .i64 o] w fun e w' => ∃ v, e = .returned v ∧ Er v (Fd.cellFault g o) ∧ w' = w := by
 unfold Fd.cellFault
 by_cases h1 : 0 ≤ g ∧ g ≤ 3
 ·obtain ⟨h1a, h1b⟩ := h1
  by_cases h2 : 0 ≤ o ∧ o ≤ 1000000
  ·obtain ⟨h2a, h2b⟩ := h2
   rw [if_neg (by omega)]
   by_cases h3 : 0 < o
   ·by_cases h4 : g = 0
    ·subst h4
     rw [if_neg (by omega)]
     go_enter Tryz.func117, Tryz.ntmps117
     go_wp2_with (go_at_call 116; refine (fin_yes _ _ _ _ (by omega) (by omega)).mono ?_; rintro e w' ⟨rfl, rfl⟩)
     go_ret
     exact ⟨_, rfl, Er.nil, rfl⟩
    ·rw [if_pos ⟨h3, h4⟩]
     go_enter Tryz.func117, Tryz.ntmps117
     go_wp2_with (go_at_call 116; refine (fin_yes _ _ _ _ (by omega) (by omega)).mono ?_; rintro e w' ⟨rfl, rfl⟩)
     go_ret
     exact ⟨_, rfl, Er.no (by decide), rfl⟩
   ·rw [if_neg (by omega)]
    go_enter Tryz.func117, Tryz.ntmps117
    go_wp2_with (go_at_call 116; refine (fin_yes _ _ _ _ (by omega) (by omega)).mono ?_; rintro e w' ⟨rfl, rfl⟩)
    go_ret
    exact ⟨_, rfl, Er.nil, rfl⟩
  ·rw [if_pos (by omega)]
   have h2' : o < 0 ∨ 1000000 < o := by omega
   clear h2
   go_enter Tryz.func117, Tryz.ntmps117
   go_wp2_with fail
   refine (fin_yes _ _ _ _ (by omega) (by omega)).mono ?_
   rintro e w' ⟨rfl, rfl⟩
   go_wp2_with fail
   refine (fin_no _ _ _ _ h2').mono ?_
   rintro e w' ⟨rfl, rfl⟩
   go_wp2
   go_ret
   exact ⟨_, rfl, Er.no (by decide), rfl⟩
 ·rw [if_pos (by omega)]
  have h1' : g < 0 ∨ 3 < g := by omega
  clear h1
  go_enter Tryz.func117, Tryz.ntmps117
  go_wp2_with fail
  refine (fin_no _ _ _ _ h1').mono ?_
  rintro e w' ⟨rfl, rfl⟩
  go_wp2
  go_ret
  exact ⟨_, rfl, Er.no (by decide), rfl⟩
theorem cell_ok (g o : Int) (w : World) (h : Fd.cellFault g o = 0) :
  Calls Tryz.prog 117 #[.int .i64 g, .int .i64 o] w fun e w' => e = .returned .nilIface ∧ w' = w := by
 refine (cell_any g o w).mono ?_
 rintro e w' ⟨v, rfl, hv, rfl⟩
 rcases hv with ⟨_, rfl⟩ | ⟨hn, _⟩
 ·exact ⟨rfl, rfl⟩
 ·exact absurd h hn
theorem cell_bad (g o f : Int) (w : World) (h : Fd.cellFault g o = f) (hf : f ≠ 0) :
  Calls Tryz.prog 117 #[.int .i64 g, .int .i64 o] w fun e w' => e = .returned (.iface 77 (.int .i64 f)) ∧ w' = w := by
 refine (cell_any g o w).mono ?_
 rintro e w' ⟨v, rfl, hv, rfl⟩
 rw [h] at hv
 rcases hv with ⟨hn, _⟩ | ⟨_, rfl⟩
 ·exact absurd hn hf
 ·exact ⟨rfl, rfl⟩
end Go.Proofs.YteieikgkmfglaaaGreatDoor
namespace Go.Proofs.YteieikgkmfglaaaGreatDoor
open Go.RowKit
set_option linter.unusedVariables false
/-- v is a field of Ground gs and Ore os. -/
def Fl (w : World) (v : Value) (W H : Int) (gs os : List Int) : Prop := ∃ u1 u2, v = .agg #[.int .i64 W, .int .i64 H, u1, u2] ∧ Ro w u1 gs ∧ Ro w u2 os
theorem Fl.below {w w' : World} {v : Value} {W H : Int} {gs os : List Int} (h : Fl w v W H gs os) (hb : Below w.heap.size w w') : Fl w' v W H gs os := by
 obtain ⟨u1, u2, h1, h2, h3⟩ := h
 exact ⟨u1, u2, h1, h2.below hb, h3.below hb⟩
/-- a field in a box. -/
structure Bf (w : World) (z : Nat) (W H : Int) (u1 u2 : Value) : Prop where
 c0 : w.cell? ⟨z, 0, none⟩ = some (.int .i64 W)
 c1 : w.cell? ⟨z, 1, none⟩ = some (.int .i64 H)
 c2 : w.cell? ⟨z, 2, none⟩ = some u1
 c3 : w.cell? ⟨z, 3, none⟩ = some u2
theorem Bf.lt {w : World} {z : Nat} {W H : Int} {u1 u2 : Value} (h : Bf w z W H u1 u2) : z < w.heap.size := cell_lt h.c0
theorem Bf.below {w w' : World} {z n : Nat} {W H : Int} {u1 u2 : Value} (h : Bf w z W H u1 u2) (hb : Below n w w') (hn : z < n) : Bf w' z W H u1 u2 :=
 ⟨by rw [hb.cell (p := ⟨z, 0, none⟩) hn]; exact h.c0, by rw [hb.cell (p := ⟨z, 1, none⟩) hn]; exact h.c1, by rw [hb.cell (p := ⟨z, 2, none⟩) hn]; exact h.c2, by rw [hb.cell (p := ⟨z, 3, none⟩) hn]; exact h.c3⟩
theorem Bf.mk' {w : World} {z : Nat} (W H : Int) (u1 u2 : Value) (hz : w.heap.size = z) : Bf (w.alloc (.cells #[.int .i64 W, .int .i64 H, u1, u2] 25)) z W H u1 u2 := by
 subst hz
 exact ⟨by simp, by simp, by simp, by simp⟩
set_option maxHeartbeats 1000000 in
theorem check_cells (a b : Option Addr) (c d : Nat) (W H : Int) (gs os : List Int) (w : World) (w1 : 1 ≤ W) (w2 : W ≤ 12) (h1 : 1 ≤ H) (h2 : H ≤ 12) (hg : (gs.length : Int) = W * H) (ho : (os.length : Int) = W * H)
  (c1 : gs.length ≤ c) (c2 : c ≤ 9223372036854775807) (d1 : os.length ≤ d) (d2 : d ≤ 9223372036854775807) (ha : Cells w a gs) (hb : Cells w b os) :
  Calls Tryz.prog 84 #[.agg #[.int .i64 W, .int .i64 H, .slice a gs.length c, .slice b os.length d]] w fun e w' => ∃ v, e = .returned v ∧ Er v (Fd.cellsFault gs os) ∧ Below w.heap.size w w' := by
 have Ha : Hid (Cells w a gs) := ha
 have Hb : Hid (Cells w b os) := hb
 have hn : W * H ≤ 144 := by
  have := Int.mul_le_mul w2 h2 (by omega) (by omega)
  omega
 have Ho : Hid (os.length = gs.length) := by unfold Hid; omega
 have e1 : W * H = (gs.length : Int) := by omega
 have e2 : os.length = gs.length := Ho.out
 clear ha hb
 rw [e2] at d1 ⊢
 clear hg ho e2
 generalize hw0 : w.alloc (Obj.cells #[.int .i64 W, .int .i64 H, .slice a gs.length c, .slice b gs.length d] 25) = w0
 have B0 : Hid (Below w.heap.size w w0) := by rw [← hw0]; exact (Below.refl _ _).alloc (Nat.le_refl _) _
 have f0 : w0.cell? ⟨w.heap.size, 2, none⟩ = some (.slice a gs.length c) := by rw [← hw0]; simp
 have f1 : w0.cell? ⟨w.heap.size, 3, none⟩ = some (.slice b gs.length d) := by rw [← hw0]; simp
 have Hw : Hid (w.alloc (Obj.cells #[.int .i64 W, .int .i64 H, .slice a gs.length c, .slice b gs.length d] 25) = w0) := hw0
 clear hw0
 have Ca : Hid (Cells w0 a gs) := Ha.out.below B0.out
 have Cb : Hid (Cells w0 b os) := Hb.out.below B0.out
 clear Ha Hb
 go_enter Tryz.func84, Tryz.ntmps84
 go_wp2_with (go_at_call 116; refine (fin_yes _ _ _ _ (by omega) (by omega)).mono ?_; rintro e w' ⟨rfl, rfl⟩)
 rw [Hw.out]
 go_loopw [36] (fun i W' => ∃ (k q : Nat), k ≤ gs.length ∧ i = .int .i64 (k : Nat) ∧ Fd.cellsFault (gs.drop k) (os.drop k) = Fd.cellsFault gs os ∧ W' = w0.drewN q) (fun i _ => gs.length - (intOf i).toNat)
 case atStart => exact ⟨0, 0, Nat.zero_le _, rfl, by simp, rfl⟩
 case round =>
  obtain ⟨k, q, hk, rfl, hf, rfl⟩ := hrel
  have Hf : Hid (Fd.cellsFault (gs.drop k) (os.drop k) = Fd.cellsFault gs os) := hf
  clear hf
  by_cases h0 : k = gs.length
  ·subst h0
   go_wp2
   go_ret
   refine ⟨_, rfl, ?_, _root_.Go.below_drewN B0.out q⟩
   rw [← Hf.out, List.drop_of_length_le (Nat.le_refl _)]
   exact Er.nil
  ·have hkx : k < gs.length := by omega
   have hky : k < os.length := by rw [Ho.out]; exact hkx
   obtain ⟨x, rfl, -, hx⟩ := Ca.out (by intro h; rw [h] at hkx; simp at hkx)
   obtain ⟨y, rfl, -, hy⟩ := Cb.out (by intro h; rw [h] at hky; simp at hky)
   have cx := hx k gs[k] (List.getElem?_eq_getElem hkx)
   have cy := hy k os[k] (List.getElem?_eq_getElem hky)
   have Te := Fd.cellsFault_drop gs os k gs[k] os[k] (List.getElem?_eq_getElem hkx) (List.getElem?_eq_getElem hky)
   rw [Hf.out] at Te
   have HT : Hid _ := Te
   generalize gs[k] = p at *
   generalize os[k] = r at *
   clear hx hy Te
   have f0q : (w0.drewN q).cell? ⟨w.heap.size, 2, none⟩ = some (.slice (some x) gs.length c) := f0
   have f1q : (w0.drewN q).cell? ⟨w.heap.size, 3, none⟩ = some (.slice (some y) gs.length d) := f1
   have cxq : (w0.drewN q).cell? (x.add k) = some (.int .i64 p) := cx
   have cyq : (w0.drewN q).cell? (y.add k) = some (.int .i64 r) := cy
   have Bq : Hid (∀ n, Below w.heap.size w ((w0.drewN q).drewN n)) := fun n => _root_.Go.below_drewN (_root_.Go.below_drewN B0.out q) n
   have Eq : Hid (∀ n, (w0.drewN q).drewN n = w0.drewN (q + n)) := fun n => by rw [World.drewN_drewN]
   clear cx cy
   generalize w0.drewN q = wq at *
   by_cases hc : Fd.cellFault p r = 0
   ·have Hc : Hid (Fd.cellFault p r = 0) := hc
    clear hc
    go_wp2
    go_quiet ((go_at_call 117; exact Calls.quiet_of_same (cell_ok _ _ _ Hc.out)))
    go_wp2
    go_round
    case rel => exact ⟨k + 1, q + nq, by omega, by go_num, by have := HT.out; rw [if_pos Hc.out] at this; exact this.symm, Eq.out _⟩
    case measure => simp [intOf]; omega
   ·generalize hff : Fd.cellFault p r = ff at *
    have Hc : Hid (Fd.cellFault p r = ff) := hff
    have Hn : Hid (ff ≠ 0) := hc
    clear hc hff
    go_wp2
    go_quiet ((go_at_call 117; exact Calls.quiet_of_same (cell_bad _ _ _ _ Hc.out Hn.out)))
    go_wp2
    go_ret
    refine ⟨_, rfl, ?_, Bq.out _⟩
    rw [HT.out, if_neg Hn.out]
    exact Er.no Hn.out
set_option maxHeartbeats 1000000 in
theorem check_range (u1 u2 : Value) (W H : Int) (w : World) (h : W < 1 ∨ 12 < W ∨ H < 1 ∨ 12 < H) :
  Calls Tryz.prog 84 #[.agg #[.int .i64 W, .int .i64 H, u1, u2]] w fun e w' => e = .returned (.iface 77 (.int .i64 1)) ∧ Below w.heap.size w w' := by
 by_cases h1 : 1 ≤ W ∧ W ≤ 12
 ·obtain ⟨h1a, h1b⟩ := h1
  have h2 : H < 1 ∨ 12 < H := by omega
  clear h
  go_enter Tryz.func84, Tryz.ntmps84
  go_wp2_with fail
  refine (fin_yes _ _ _ _ (by omega) (by omega)).mono ?_
  rintro e w' ⟨rfl, rfl⟩
  go_wp2_with fail
  refine (fin_no _ _ _ _ h2).mono ?_
  rintro e w' ⟨rfl, rfl⟩
  go_wp2
  go_ret
  exact ⟨rfl, (Below.refl _ _).alloc (Nat.le_refl _) _⟩
 ·have h2 : W < 1 ∨ 12 < W := by omega
  clear h h1
  go_enter Tryz.func84, Tryz.ntmps84
  go_wp2_with fail
  refine (fin_no _ _ _ _ h2).mono ?_
  rintro e w' ⟨rfl, rfl⟩
  go_wp2
  go_ret
  exact ⟨rfl, (Below.refl _ _).alloc (Nat.le_refl _) _⟩
set_option maxHeartbeats 1000000 in
theorem check_shape (a b : Option Addr) (n m c d : Nat) (W H : Int) (w : World) (w1 : 1 ≤ W) (w2 : W ≤ 12) (h1 : 1 ≤ H) (h2 : H ≤ 12) (h : (n : Int) ≠ W * H ∨ (m : Int) ≠ W * H) :
  Calls Tryz.prog 84 #[.agg #[.int .i64 W, .int .i64 H, .slice a n c, .slice b m d]] w fun e w' => e = .returned (.iface 77 (.int .i64 3)) ∧ Below w.heap.size w w' := by
 have hn : W * H ≤ 144 := by
  have := Int.mul_le_mul w2 h2 (by omega) (by omega)
  omega
 have hp : 0 ≤ W * H := Int.mul_nonneg (by omega) (by omega)
 by_cases e : (n : Int) = W * H
 ·have e2 : ¬ (m : Int) = W * H := by omega
  have e' : W * H = (n : Int) := e.symm
  rw [e'] at e2
  clear h e
  go_enter Tryz.func84, Tryz.ntmps84
  go_wp2_with (go_at_call 116; refine (fin_yes _ _ _ _ (by omega) (by omega)).mono ?_; rintro e w' ⟨rfl, rfl⟩)
  go_ret
  exact ⟨rfl, (Below.refl _ _).alloc (Nat.le_refl _) _⟩
 ·clear h
  go_enter Tryz.func84, Tryz.ntmps84
  go_wp2_with (go_at_call 116; refine (fin_yes _ _ _ _ (by omega) (by omega)).mono ?_; rintro e w' ⟨rfl, rfl⟩)
  go_ret
  exact ⟨rfl, (Below.refl _ _).alloc (Nat.le_refl _) _⟩
/-- what Check says. -/
theorem check_any (v : Value) (W H : Int) (gs os : List Int) (w : World) (h : Fl w v W H gs os) :
  Calls Tryz.prog 84 #[v] w fun e w' => ∃ u, e = .returned u ∧ Er u (Fd.fault W H gs os) ∧ Below w.heap.size w w' := by
 obtain ⟨u1, u2, rfl, ⟨a, c, rfl, c1, c2, ca⟩, ⟨b, d, rfl, d1, d2, cb⟩⟩ := h
 unfold Fd.fault
 by_cases h1 : W < 1 ∨ 12 < W ∨ H < 1 ∨ 12 < H
 ·rw [if_pos h1]
  exact (check_range _ _ W H w h1).mono fun e w' ⟨he, hb⟩ => ⟨_, he, Er.no (by decide), hb⟩
 ·rw [if_neg h1]
  by_cases h2 : (gs.length : Int) ≠ W * H ∨ (os.length : Int) ≠ W * H
  ·rw [if_pos h2]
   exact (check_shape _ _ _ _ _ _ W H w (by omega) (by omega) (by omega) (by omega) h2).mono fun e w' ⟨he, hb⟩ => ⟨_, he, Er.no (by decide), hb⟩
  ·rw [if_neg h2]
   exact check_cells a b c d W H gs os w (by omega) (by omega) (by omega) (by omega) (by omega) (by omega) c1 c2 d1 d2 ca cb
end Go.Proofs.YteieikgkmfglaaaGreatDoor
namespace Go.Proofs.YteieikgkmfglaaaGreatDoor
open Go.RowKit
set_option linter.unusedVariables false
theorem any_snoc {p : Int → Bool} {xs : List Int} {k : Nat} (h : k < xs.length) : (xs.take (k + 1)).any p = ((xs.take k).any p || p xs[k]) := by
 rw [List.take_succ_eq_append_getElem h, List.any_append]
 simp
set_option maxHeartbeats 1000000 in
theorem idx1_any (u q : Value) (xs : List Int) (p : Int → Bool) (w : World) (hu : Ro w u xs)
  (hp : ∀ x ∈ xs, Calls Tryz.prog 149 #[.int .i64 x, q] w fun e w' => e = .returned (.bool (p x)) ∧ w' = w) :
  Calls Tryz.prog 67 #[u, .func (Fn.func 149) #[] #[q]] w fun e w' => ∃ r : Int, e = .returned (.int .i64 r) ∧ decide (0 ≤ r) = xs.any p ∧ w' = w := by
 obtain ⟨a, c, rfl, c1, c2, ca⟩ := hu
 have Ca : Hid (Cells w a xs) := ca
 have Hp : Hid (∀ x ∈ xs, Calls Tryz.prog 149 #[.int .i64 x, q] w fun e w' => e = .returned (.bool (p x)) ∧ w' = w) := hp
 clear ca hp
 go_enter Tryz.func67, Tryz.ntmps67
 go_wp2
 go_loop [8] (fun i => ∃ k : Nat, k ≤ xs.length ∧ i = .int .i64 (k : Nat) ∧ (xs.take k).any p = false) (fun i => xs.length - (intOf i).toNat)
 case atStart => exact ⟨0, Nat.zero_le _, rfl, by simp⟩
 case round =>
  obtain ⟨k, hk, rfl, ht⟩ := hrel
  have Ht : Hid ((xs.take k).any p = false) := ht
  clear ht
  by_cases h0 : k = xs.length
  ·subst h0
   go_wp2
   go_ret
   refine ⟨_, rfl, ?_, rfl⟩
   have := Ht.out
   rw [List.take_of_length_le (Nat.le_refl _)] at this
   rw [this]
   decide
  ·have hkx : k < xs.length := by omega
   obtain ⟨x, rfl, -, hx⟩ := Ca.out (by intro h; rw [h] at hkx; simp at hkx)
   have cx := hx k xs[k] (List.getElem?_eq_getElem hkx)
   have hc := Hp.out xs[k] (List.getElem_mem hkx)
   have Hs : Hid _ := any_snoc (p := p) hkx
   have Hm : Hid (p xs[k] = true → xs.any p = true) := fun h => List.any_eq_true.2 ⟨_, List.getElem_mem hkx, h⟩
   generalize xs[k] = y at *
   clear hx
   cases hy : p y with
   | true =>
    rw [hy] at hc
    have Hc : Hid (Calls Tryz.prog 149 #[.int .i64 y, q] w fun e w' => e = .returned (.bool true) ∧ w' = w) := hc
    have Hy : Hid (p y = true) := hy
    clear hc hy
    go_wp2_with fail
    refine Calls.mono Hc.out ?_
    rintro e w1 ⟨rfl, rfl⟩
    go_wp2
    go_ret
    exact ⟨_, rfl, by rw [Hm.out Hy.out, decide_eq_true (by omega)], rfl⟩
   | false =>
    rw [hy] at hc
    have Hc : Hid (Calls Tryz.prog 149 #[.int .i64 y, q] w fun e w' => e = .returned (.bool false) ∧ w' = w) := hc
    have Hy : Hid (p y = false) := hy
    clear hc hy
    go_wp2_with fail
    refine Calls.mono Hc.out ?_
    rintro e w1 ⟨rfl, rfl⟩
    go_wp2
    go_round
    case rel => exact ⟨k + 1, by omega, by go_num, by have := Hs.out; rw [Ht.out, Hy.out] at this; exact this⟩
    case measure => simp [intOf]; omega
set_option maxHeartbeats 1000000 in
theorem has1_any (u q : Value) (xs : List Int) (p : Int → Bool) (w : World) (hu : Ro w u xs)
  (hp : ∀ x ∈ xs, Calls Tryz.prog 149 #[.int .i64 x, q] w fun e w' => e = .returned (.bool (p x)) ∧ w' = w) :
  Calls Tryz.prog 87 #[u, .func (Fn.func 149) #[] #[q]] w fun e w' => e = .returned (.bool (xs.any p)) ∧ w' = w := by
 have H := idx1_any u q xs p w hu hp
 have H' : Hid (Calls Tryz.prog 67 #[u, .func (Fn.func 149) #[] #[q]] w fun e w' => ∃ r : Int, e = .returned (.int .i64 r) ∧ decide (0 ≤ r) = xs.any p ∧ w' = w) := H
 clear H hp
 go_enter Tryz.func87, Tryz.ntmps87
 go_wp2_with fail
 refine Calls.mono H'.out ?_
 rintro e w1 ⟨r, rfl, hr, rfl⟩
 have Hr : Hid (decide (0 ≤ r) = xs.any p) := hr
 clear hr
 go_wp2
 go_ret
 exact ⟨by show Ending.returned (.bool (decide (0 ≤ r))) = _; rw [Hr.out], rfl⟩
set_option maxHeartbeats 1000000 in
theorem none_any (x : Int) (b : Nat) (a : Option Addr) (n c : Nat) (w : World) (hb : w.cell? ⟨b, 2, none⟩ = some (.slice a n c)) (hn : n ≤ 9223372036854775807) :
  Calls Tryz.prog 149 #[.int .i64 x, .pointer (some ⟨b, 0, none⟩)] w fun e w' => e = .returned (.bool (!decide (0 ≤ x ∧ x < n))) ∧ w' = w := by
 go_enter Tryz.func149, Tryz.ntmps149
 go_wp2_with (go_at_call 116; refine (fin_any _ _ _ _).mono ?_; rintro e w' ⟨rfl, rfl⟩)
 go_ret
 exact ⟨by show Ending.returned (.bool (!decide (0 ≤ x) || !decide (x ≤ (n : Int) - 1))) = _; rw [show (!decide (0 ≤ x) || !decide (x ≤ (n : Int) - 1)) = !decide (0 ≤ x ∧ x < n) by rw [← Bool.not_and, ← Bool.decide_and]; congr 1; rw [decide_eq_decide]; omega], rfl⟩
set_option maxHeartbeats 1000000 in
theorem ask_any (v u : Value) (W H : Int) (gs os xs : List Int) (w : World) (h : Fl w v W H gs os) (hu : Ro w u xs) :
  Calls Tryz.prog 119 #[v, u] w fun e w' => ∃ u, e = .returned u ∧ Er u (Fd.askFault (Fd.fault W H gs os) gs.length xs) ∧ Below w.heap.size w w' := by
 have F0 : Hid (Fl w v W H gs os) := h
 have U0 : Hid (Ro w u xs) := hu
 obtain ⟨u1, u2, rfl, ⟨a, c, rfl, c1, c2, ca⟩, ⟨b, d, rfl, d1, d2, cb⟩⟩ := h
 clear hu ca cb d1 d2
 generalize hw0 : w.alloc (Obj.cells #[.int .i64 W, .int .i64 H, .slice a gs.length c, .slice b os.length d] 25) = w0
 have B0 : Hid (Below w.heap.size w w0) := by rw [← hw0]; exact (Below.refl _ _).alloc (Nat.le_refl _) _
 have f0 : Hid (w0.cell? ⟨w.heap.size, 2, none⟩ = some (.slice a gs.length c)) := by rw [← hw0]; unfold Hid; simp
 have Z0 : Hid (w.heap.size < w0.heap.size) := by rw [← hw0]; unfold Hid; simp
 have Hw : Hid (w.alloc (Obj.cells #[.int .i64 W, .int .i64 H, .slice a gs.length c, .slice b os.length d] 25) = w0) := hw0
 clear hw0
 go_enter Tryz.func119, Tryz.ntmps119
 go_wp2_with fail
 rw [Hw.out]
 refine (check_any _ W H gs os _ (F0.out.below B0.out)).mono ?_
 rintro e w1 ⟨v1, rfl, hv, hb⟩
 have B1 : Hid (Below w.heap.size w w1) := B0.out.trans (hb.mono B0.out.size)
 have f1 : Hid (w1.cell? ⟨w.heap.size, 2, none⟩ = some (.slice a gs.length c)) := by
  unfold Hid
  rw [hb.cell (p := ⟨w.heap.size, 2, none⟩) Z0.out]
  exact f0.out
 have U1 : Hid (Ro w1 u xs) := U0.out.below B1.out
 clear hb
 rcases hv with ⟨hz, rfl⟩ | ⟨hz, rfl⟩
 ·have Hz : Hid (Fd.fault W H gs os = 0) := hz
  clear hz
  have hh := has1_any u (.pointer (some ⟨w.heap.size, 0, none⟩)) xs (fun x => !decide (0 ≤ x ∧ x < gs.length)) w1 U1.out (fun x _ => none_any x _ a gs.length c w1 f1.out (by omega))
  have Ea : Hid (Fd.askFault (Fd.fault W H gs os) gs.length xs = if xs.any (fun x => !decide (0 ≤ x ∧ x < gs.length)) then 6 else 0) := by
   unfold Hid Fd.askFault
   rw [if_neg (by rw [Hz.out]; decide)]
   cases hx : xs.all (fun x => decide (0 ≤ x ∧ x < gs.length)) with
   | true =>
    rw [if_pos rfl, if_neg]
    rw [List.all_eq_true] at hx
    simp only [List.any_eq_true, Bool.not_eq_true', not_exists, not_and]
    intro x hm
    rw [hx x hm]
    decide
   | false =>
    rw [if_neg (by decide), if_pos]
    rw [List.all_eq_false] at hx
    obtain ⟨x, hm, hx⟩ := hx
    exact List.any_eq_true.2 ⟨x, hm, by rw [Bool.not_eq_true] at hx; rw [hx]; rfl⟩
  generalize xs.any (fun x => !decide (0 ≤ x ∧ x < gs.length)) = y at *
  have Hh : Hid (Calls Tryz.prog 87 #[u, .func (Fn.func 149) #[] #[.pointer (some ⟨w.heap.size, 0, none⟩)]] w1 fun e w' => e = .returned (.bool y) ∧ w' = w1) := hh
  clear hh
  cases y with
  | true =>
   go_wp2_with fail
   refine Calls.mono Hh.out ?_
   rintro e w2 ⟨rfl, rfl⟩
   go_wp2
   go_ret
   exact ⟨_, rfl, by rw [Ea.out]; exact Er.no (by decide), B1.out⟩
  | false =>
   go_wp2_with fail
   refine Calls.mono Hh.out ?_
   rintro e w2 ⟨rfl, rfl⟩
   go_wp2
   go_ret
   exact ⟨_, rfl, by rw [Ea.out]; exact Er.nil, B1.out⟩
 ·have Hz : Hid (Fd.fault W H gs os ≠ 0) := hz
  clear hz
  have Ea : Hid (Fd.askFault (Fd.fault W H gs os) gs.length xs = Fd.fault W H gs os) := by
   unfold Hid Fd.askFault
   rw [if_pos Hz.out]
  go_wp2
  go_ret
  exact ⟨_, rfl, by rw [Ea.out]; exact Er.no Hz.out, B1.out⟩
end Go.Proofs.YteieikgkmfglaaaGreatDoor
namespace Go.Proofs.YteieikgkmfglaaaGreatDoor
open Go.RowKit
set_option linter.unusedVariables false
theorem Ro.lit1 {w : World} {z : Nat} (a : Int) (hz : w.heap.size = z) : Ro (w.alloc (.cells #[.int .i64 a] 3)) (.slice (some ⟨z, 0, none⟩) 1 1) [a] := by
 subst hz
 refine ⟨_, 1, rfl, Nat.le_refl _, by omega, fun _ => ⟨_, rfl, by simp, fun i d hd => ?_⟩⟩
 rw [Addr.add_lit, Nat.zero_add]
 match i, hd with
 | 0, hd => simp at hd; subst hd; simp
end Go.Proofs.YteieikgkmfglaaaGreatDoor
namespace Go.Proofs.YteieikgkmfglaaaGreatDoor
open Go.RowKit
set_option linter.unusedVariables false
theorem ask1_good {W H : Nat} {gs os : List Int} {a : Nat} (G : Fd.Good W H gs os) (ha : a < W * H) : Fd.askFault (Fd.fault W H gs os) gs.length [(a : Int)] = 0 := by
 unfold Fd.askFault
 rw [Fd.fault_good G, if_neg (by decide), if_pos]
 rw [G.gl]
 simp
 omega
set_option maxHeartbeats 1000000 in
theorem step_any (g : Int) (fl : Bool) (w : World) :
  Calls Tryz.prog 134 #[.int .i64 g, .bool fl] w fun e w' => e = .returned (.int .i64 (Fd.onto g fl)) ∧ w' = w := by
 have O : Hid (∀ u, u = Fd.onto g fl → Ending.returned (.int .i64 u) = .returned (.int .i64 (Fd.onto g fl))) := fun u h => by rw [h]
 unfold Fd.onto at O
 by_cases h1 : g = 1
 ·subst h1
  go_enter Tryz.func134, Tryz.ntmps134
  go_wp2
  go_ret
  exact ⟨O.out 0 rfl, rfl⟩
 ·by_cases h2 : g = 2
  ·subst h2
   cases fl
   ·go_enter Tryz.func134, Tryz.ntmps134
    go_wp2
    go_ret
    exact ⟨O.out 0 rfl, rfl⟩
   ·go_enter Tryz.func134, Tryz.ntmps134
    go_wp2
    go_ret
    exact ⟨O.out 1 rfl, rfl⟩
  ·by_cases h3 : g = 3
   ·subst h3
    cases fl
    ·go_enter Tryz.func134, Tryz.ntmps134
     go_wp2
     go_ret
     exact ⟨O.out 2 rfl, rfl⟩
    ·go_enter Tryz.func134, Tryz.ntmps134
     go_wp2
     go_ret
     exact ⟨O.out 1 rfl, rfl⟩
   ·go_enter Tryz.func134, Tryz.ntmps134
    go_wp2
    go_ret
    exact ⟨O.out 1 (by rw [if_neg h1, if_neg h2, if_neg h3]), rfl⟩
set_option maxHeartbeats 1000000 in
theorem Step_ok (v : Value) (W H : Nat) (gs os : List Int) (a : Nat) (g : Int) (fl : Bool) (w : World) (h : Fl w v W H gs os) (G : Fd.Good W H gs os) (ha : a < W * H) (hg : gs[a]? = some g) :
  Calls Tryz.prog 106 #[v, .int .i64 (a : Nat), .bool fl] w fun e w' => e = .returned (.tuple #[.int .i64 (Fd.onto g fl), .nilIface]) ∧ Below w.heap.size w w' := by
 have F0 : Hid (Fl w v W H gs os) := h
 have HF : Hid (Fd.askFault (Fd.fault W H gs os) gs.length [(a : Int)] = 0) := ask1_good G ha
 obtain ⟨u1, u2, rfl, ⟨a1, c, rfl, c1, c2, ca⟩, ⟨b1, d, rfl, d1, d2, cb⟩⟩ := h
 have gl := G.gl
 have hal : a < gs.length := by omega
 have gp := G.pos.2
 obtain ⟨x, rfl, xl, hx⟩ := ca (by intro e; rw [e] at hal; simp at hal)
 have cx : Hid (w.cell? (x.add a) = some (.int .i64 g)) := hx a g hg
 have Xl : Hid (x.block < w.heap.size) := xl
 have gl2 : gs.length ≤ 144 := by omega
 clear cb hx xl G hg gl gp ha
 go_enter Tryz.func106, Tryz.ntmps106
 go_wp2_with fail
 refine (ask_any _ _ W H gs os [(a : Int)] _ (F0.out.below (((Below.refl _ _).alloc (Nat.le_refl _) _).alloc (by simp) _)) (Ro.lit1 (w := w.alloc _) a (by simp))).mono ?_
 rintro e w1 ⟨v1, rfl, hv, hb⟩
 have B1 : Hid (Below w.heap.size w w1) := (((Below.refl _ _).alloc (Nat.le_refl _) _).alloc (by simp) _).trans (hb.mono (by simp; omega))
 have X1 := ((Bf.mk' (w := w) W H (Value.slice (some x) gs.length c) (Value.slice b1 os.length d) rfl).below ((Below.refl _ _).alloc (Nat.le_refl _) (Obj.cells #[Value.int IntKind.i64 a] 3)) (by simp)).below hb (by simp; omega)
 have c2 := X1.c2
 have cg : w1.cell? (x.add a) = some (.int .i64 g) := by rw [B1.out.cell (p := x.add a) (by rw [add_block]; exact Xl.out)]; exact cx.out
 rw [HF.out] at hv
 clear hb X1
 rcases hv with ⟨hz, rfl⟩ | ⟨hz, rfl⟩
 ·clear hz
  go_wp2_with fail
  refine (step_any _ _ _).mono ?_
  rintro e w2 ⟨rfl, rfl⟩
  go_wp2
  go_ret2
  exact ⟨rfl, B1⟩
 ·exact absurd rfl hz
end Go.Proofs.YteieikgkmfglaaaGreatDoor
namespace Go.Proofs.YteieikgkmfglaaaGreatDoor
open Go.RowKit
set_option linter.unusedVariables false
set_option maxHeartbeats 1000000 in
theorem fat_any (u : UnV) (at_ : Int) (b : Nat) (w : World) (hc : w.cell? ⟨b, 0, none⟩ = some (.int .i64 at_)) :
  Calls Tryz.prog 118 #[u.val, .pointer (some ⟨b, 0, none⟩)] w fun e w' => e = .returned (.bool (u.at_ == at_)) ∧ Below w.heap.size w w' := by
 have hb : b < w.heap.size := cell_lt hc
 have hne : b ≠ w.heap.size := by omega
 unfold UnV.val
 go_enter Tryz.func118, Tryz.ntmps118
 go_wp2
 go_ret
 exact ⟨rfl, (Below.refl _ _).alloc (Nat.le_refl _) _⟩
theorem onto_or (g : Int) (fl : Bool) : Fd.onto g fl = 0 ∨ 0 < Fd.onto g fl := by
 unfold Fd.onto
 cases fl <;> (repeat' split) <;> omega
set_option maxRecDepth 100000 in
set_option maxHeartbeats 2000000 in
theorem isopen_any (f us : Value) (Wd_ H : Nat) (gs os : List Int) (ahead : List UnV) (a : Nat) (g : Int) (fl : Bool) (w : World) (hf : Fl w f Wd_ H gs os) (G : Fd.Good Wd_ H gs os) (hu : Unl w us ahead) (ha : a < Wd_ * H) (hg : gs[a]? = some g) :
  Calls Tryz.prog 90 #[f, us, .int .i64 (a : Nat), .bool fl] w fun e w' => e = .returned (.bool (Wd.open_ gs ahead (a : Nat) fl)) ∧ Below w.heap.size w w' := by
 have F : Hid (Fl w f Wd_ H gs os) := hf
 have U : Hid (Unl w us ahead) := hu
 have HG : Hid (Fd.Good Wd_ H gs os) := G
 have AT : Hid (a < Wd_ * H ∧ gs[a]? = some g) := ⟨ha, hg⟩
 have OP : Hid (Wd.open_ gs ahead (a : Nat) fl = (decide (0 < Fd.onto g fl) && !ahead.any (fun u => u.at_ == (a : Int)))) := by
  unfold Hid Wd.open_
  rw [Int.toNat_natCast, List.getD_eq_getElem?_getD, hg]
  rfl
 obtain ⟨u1, u2, rfl, h1, h2⟩ := hf
 clear h1 h2 G ha hg hu
 go_enter Tryz.func90, Tryz.ntmps90
 go_wp2_with fail
 have B0 : Hid (Below w.heap.size w ((w.alloc (Obj.cells #[.int .i64 (Wd_ : Int), .int .i64 (H : Int), u1, u2] 25)).alloc (Obj.cells #[.int .i64 (a : Int)] 3))) := ((Below.refl _ _).alloc (Nat.le_refl _) _).alloc (by simp) _
 have C0 : Hid (((w.alloc (Obj.cells #[.int .i64 (Wd_ : Int), .int .i64 (H : Int), u1, u2] 25)).alloc (Obj.cells #[.int .i64 (a : Int)] 3)).cell? ⟨w.heap.size + 1, 0, none⟩ = some (.int .i64 (a : Int))) := cell_of_new (by simp) rfl
 generalize ((w.alloc (Obj.cells #[.int .i64 (Wd_ : Int), .int .i64 (H : Int), u1, u2] 25)).alloc (Obj.cells #[.int .i64 (a : Int)] 3)) = w0 at *
 refine (Step_ok _ Wd_ H gs os a g fl w0 (F.out.below B0.out) HG.out AT.out.1 AT.out.2).mono ?_
 rintro e w1 ⟨rfl, hb1⟩
 have B1 : Hid (Below w.heap.size w w1) := B0.out.trans (hb1.mono B0.out.size)
 have C1 : Hid (w1.cell? ⟨w.heap.size + 1, 0, none⟩ = some (.int .i64 (a : Int))) := by unfold Hid; rw [hb1.cell (p := ⟨w.heap.size + 1, 0, none⟩) (cell_lt C0.out)]; exact C0.out
 clear hb1 C0
 obtain ⟨o, ho⟩ : ∃ o, Fd.onto g fl = o := ⟨_, rfl⟩
 have OR := onto_or g fl
 rw [ho] at OP OR ⊢
 clear ho
 rcases OR with rfl | hpos
 ·have E : Hid (Wd.open_ gs ahead (a : Nat) fl = false) := by unfold Hid; rw [OP.out]; rfl
  go_wp2
  go_ret
  exact ⟨by rw [E.out]; rfl, B1.out⟩
 ·have E : Hid (Wd.open_ gs ahead (a : Nat) fl = !ahead.any (fun u => u.at_ == (a : Int))) := by unfold Hid; rw [OP.out, decide_eq_true hpos]; rfl
  go_wp2_with fail
  refine (hasu_any 118 (by intro args w; go_simp) us #[.pointer (some ⟨w.heap.size + 1, 0, none⟩)] ahead (fun u => u.at_ == (a : Int)) w1 (U.out.below B1.out) (fun V hV k => fat_any k (a : Int) (w.heap.size + 1) V (by rw [hV.cell (p := ⟨w.heap.size + 1, 0, none⟩) (cell_lt C1.out)]; exact C1.out))).mono ?_
  rintro e w2 ⟨rfl, hb2⟩
  have B2 : Hid (Below w.heap.size w w2) := B1.out.trans (hb2.mono B1.out.size)
  obtain ⟨m, hm⟩ : ∃ m, ahead.any (fun u => u.at_ == (a : Int)) = m := ⟨_, rfl⟩
  rw [hm] at E ⊢
  clear hb2 hm
  go_wp2
  go_ret
  exact ⟨by rw [E.out]; rfl, B2.out⟩
end Go.Proofs.YteieikgkmfglaaaGreatDoor
namespace Go.Proofs.YteieikgkmfglaaaGreatDoor
open Go Go.RowKit
set_option linter.unusedVariables false
section
variable {P : Program} {ops : Array Oper} {md : Region.Mode} {C : World → Prop}
/-- the operation gives v, in each of the worlds C, and leaves one of them. -/
def YieldsC (P : Program) (ops : Array Oper) (C : World → Prop) (o : Oper) (v : Value) (a : Act) : Prop :=
 (Region.wanted o (yielded ops a.tmps) = true ∧ ∀ W, C W → ((execOp a.eval o).run P W = .ok (.value v) W ∨ ((execOp a.eval o).run P W = .ok .skip W ∧ v = undef) ∨
  ∃ f args, (execOp a.eval o).run P W = .ok (.enter f args) W ∧ Calls P f args W (fun e w' => e = .returned v ∧ C w'))) ∨
 (Region.wanted o (yielded ops a.tmps) = false ∧ v = undef)
def stC (P : Program) (ops : Array Oper) (C : World → Prop) (i : Nat) (K : Act → Prop) (a : Act) : Prop :=
 match ops[i]? with
 | none => K a
 | some o => ∃ v, YieldsC P ops C o v a ∧ K (a.put o.dst v)
theorem stC_mono {i : Nat} {a : Act} {K K' : Act → Prop} (h : ∀ a, K a → K' a) (hh : stC P ops C i K a) : stC P ops C i K' a := by
 unfold stC at *
 split
 ·rename_i ho
  simp only [ho] at hh
  exact h _ hh
 ·rename_i o ho
  simp only [ho] at hh
  obtain ⟨v, h1, h2⟩ := hh
  exact ⟨v, h1, h _ h2⟩
theorem YieldsC.of_same {o : Oper} {v : Value} {a a' : Act} (hy : YieldsC P ops C o v a) (he : execOp a'.eval o = execOp a.eval o)
  (hw : Region.wanted o (yielded ops a'.tmps) = Region.wanted o (yielded ops a.tmps)) : YieldsC P ops C o v a' := by
 unfold YieldsC at *
 rw [he, hw]
 exact hy
theorem stC_put {j : Nat} {oi oj : Oper} {v : Value} (hj : ops[j]? = some oj) (hap : oi.apart ops oj = true)
  (hsi : ∀ cs b, oi.op ≠ .select cs b) (hsj : ∀ cs b, oj.op ≠ .select cs b) {K : Act → Prop} {a : Act}
  (hy : YieldsC P ops C oi v a) (h : stC P ops C j K (a.put oi.dst v)) :
  stC P ops C j (fun a' => YieldsC P ops C oi v a' ∧ K (a'.put oi.dst v)) a := by
 obtain ⟨h1, h2, h3⟩ := Oper.apart_spec hap
 unfold stC at *
 simp only [hj] at *
 obtain ⟨u, hu, hk⟩ := h
 refine ⟨u, hu.of_same (execOp_put oj hsj a oi.dst v h1).symm (wanted_put oj a oi.dst v h1).symm, hy.of_same (execOp_put oi hsi a oj.dst u h3) (wanted_put oi a oj.dst u h3), ?_⟩
 rw [← Act.put_comm a v u h2]
 exact hk
theorem wpOp_of_stC {i : Nat} {a : Act} {W : World} {K : Act → Prop} {K' : Act → World → Prop} {Q' : Exit → Act → World → Prop} (h : ∀ a W, K a → C W → K' a W) (hh : stC P ops C i K a) (hW : C W) : wpOp P ops Q' i K' a W := by
 unfold stC at hh
 unfold wpOp
 split
 ·rename_i ho
  simp only [ho] at hh
  exact h _ _ hh hW
 ·rename_i o ho
  simp only [ho] at hh
  obtain ⟨v, hy, hk⟩ := hh
  rcases hy with ⟨hw, hr⟩ | ⟨hw, rfl⟩
  ·simp only [hw, if_true]
   refine .inl ?_
   unfold Oper.wp
   rcases hr W hW with e | ⟨e, rfl⟩ | ⟨f, args, e, hc⟩
   ·rw [e]
    exact h _ _ hk hW
   ·rw [e]
    exact h _ _ hk hW
   ·rw [e]
    exact hc.mono fun e w' ⟨he, hw'⟩ => by subst he; exact h _ _ hk hw'
  ·simp only [hw]
   exact h _ _ hk hW
def wpAnyC (P : Program) (md : Region.Mode) (ops : Array Oper) (C : World → Prop) (n : Nat) (L : Array Bool → Act → Prop) : Nat → Array Bool → Act → Prop
 | 0, listed, a => L listed a
 | f + 1, listed, a =>
  Region.ready md ops listed ≠ [] ∧ ∀ i ∈ Region.ready md ops listed, i < n ∧ stC P ops C i (wpAnyC P md ops C n L f (listed.setIfInBounds i true)) a
theorem wpAny_of_headC {n g : Nat} {L : Array Bool → Act → Prop} {Q' : Exit → Act → World → Prop} (hL : ∀ listed a W, L listed a → C W → wpAny P md ops Q' g listed a W) :
  ∀ (f : Nat) (listed : Array Bool) (a : Act) (W : World), wpAnyC P md ops C n L f listed a → C W → wpAny P md ops Q' (f + g) listed a W
 | 0, listed, a, W, h, hW => by rw [Nat.zero_add]; exact hL _ _ _ h hW
 | f + 1, listed, a, W, h, hW => by
  rw [show f + 1 + g = (f + g) + 1 by omega]
  exact ⟨fun h0 => absurd h0 h.1, fun i hi => wpOp_of_stC (fun a' W' h' hW' => wpAny_of_headC hL f _ a' W' h' hW') (h.2 i hi).2 hW⟩
theorem wpAnyC_first {n i : Nat} {oi : Oper} {v : Value} {L : Array Bool → Act → Prop} (hi : ops[i]? = some oi) (hsel : ∀ (j : Nat) (o : Oper) cs b, ops[j]? = some o → o.op ≠ .select cs b)
  (hs : Region.sinkB md ops n = true) (hc : Region.chainB md ops n = true) (hn : n < ops.size) (hin : i < n)
  (hdone : ∀ listed a, L listed a → ∀ j ∈ Region.ready md ops listed, n ≤ j) :
  ∀ (f : Nat) (listed : Array Bool) (a : Act), HeadInv md ops n listed →
   (∀ j oj, ops[j]? = some oj → j ≠ i → listed.getD j true = false → (∀ e ∈ oj.after, Region.binds md e = true → e.on ≠ i) → oi.apart ops oj = true) →
   i ∈ Region.ready md ops listed → YieldsC P ops C oi v a →
   wpAnyC P md ops C n L f (listed.setIfInBounds i true) (a.put oi.dst v) → wpAnyC P md ops C n L (f + 1) listed a := by
 have hit : ∀ {K : Act → Prop} {a : Act}, YieldsC P ops C oi v a → K (a.put oi.dst v) → stC P ops C i K a := fun hy hk => by
  unfold stC
  simp only [hi]
  exact ⟨v, hy, hk⟩
 intro f
 induction f with
 | zero =>
  intro listed a inv _ hr hy H
  have hun := (mem_ready.1 hr).1
  refine ⟨fun h => (by rw [h] at hr; cases hr), fun j hj => ?_⟩
  have hjn : j < n := by
   rcases Nat.lt_or_ge j n with h | h
   ·exact h
   ·exact absurd hj (tail_waits hs hc hn inv _ i rfl hin hun j h)
  refine ⟨hjn, ?_⟩
  by_cases hji : j = i
  ·subst hji; exact hit hy H
  ·have := hdone _ _ H j (ready_mono hj hji)
   omega
 | succ f ih =>
  intro listed a inv hfree hr hy H
  have hun := (mem_ready.1 hr).1
  refine ⟨fun h => (by rw [h] at hr; cases hr), fun j hj => ?_⟩
  have hjn : j < n := by
   rcases Nat.lt_or_ge j n with h | h
   ·exact h
   ·exact absurd hj (tail_waits hs hc hn inv _ i rfl hin hun j h)
  refine ⟨hjn, ?_⟩
  by_cases hji : j = i
  ·subst hji; exact hit hy H
  ·have h1 := (H.2 j (ready_mono hj hji)).2
   obtain ⟨hjun, oj, hoj, hall⟩ := mem_ready.1 hj
   have hnot : ∀ e ∈ oj.after, Region.binds md e = true → e.on ≠ i := fun e he hb heq => by
    have h1 := hall e he hb
    rw [heq, getD_both hun] at h1
    cases h1
   have h2 := stC_put hoj (hfree j oj hoj hji hjun hnot) (fun cs b => hsel i oi cs b hi) (fun cs b => hsel j oj cs b hoj) hy h1
   have hfree' : ∀ k ok, ops[k]? = some ok → k ≠ i → (listed.setIfInBounds j true).getD k true = false →
     (∀ e ∈ ok.after, Region.binds md e = true → e.on ≠ i) → oi.apart ops ok = true := fun k ok hk hki hun hno => by
    refine hfree k ok hk hki ?_ hno
    by_cases hjk : j = k
    ·subst hjk; exact hjun
    ·rw [getD_set_ne true hjk] at hun; exact hun
   refine stC_mono (fun a' h3 => ih (listed.setIfInBounds j true) a' (inv.set hj hjn) hfree' (ready_mono hr (Ne.symm hji)) h3.1 ?_) h2
   rw [Array.setIfInBounds_comm _ _ hji]
   exact h3.2
/-- the head, in the text's order. -/
def wpHead (P : Program) (ops : Array Oper) (C : World → Prop) (Q : Act → Prop) : List Oper → Act → Prop
 | [], a => Q a
 | o :: rest, a => ∃ v, YieldsC P ops C o v a ∧ wpHead P ops C Q rest (a.put o.dst v)
theorem wpAnyC_lex {n g : Nat} {Lq : Act → Prop} (hsel : Region.noSelect ops = true) (hs : Region.sinkB md ops n = true) (hc : Region.chainB md ops n = true) (hn : n < ops.size) :
  ∀ (l : List Oper) (k : Nat) (listed : Array Bool) (a : Act), (∀ j, j < l.length → l[j]? = ops[k + j]?) → k + l.length = n → HeadInv md ops n listed →
  Region.lexHead md ops g l.length k listed = true → wpHead P ops C Lq l a →
  wpAnyC P md ops C n (fun listed' a' => Region.seqB md ops g n listed' = true ∧ Lq a') l.length listed a
 | [], k, listed, a, _, hk, _, hB, h => by
  have : k = n := by simpa using hk
  subst this
  exact ⟨by simpa [Region.lexHead] using hB, h⟩
 | o :: l, k, listed, a, hl, hk, inv, hB, h => by
  have h0 : ops[k]? = some o := by simpa using (hl 0 (by simp)).symm
  simp only [List.length_cons, Region.lexHead, Bool.and_eq_true] at hB
  obtain ⟨⟨hr, hf⟩, hB'⟩ := hB
  have hkn : k < n := by simp only [List.length_cons] at hk; omega
  have hr' : k ∈ Region.ready md ops listed := by simpa using hr
  obtain ⟨v, hy, hK⟩ := h
  exact wpAnyC_first h0 (Region.noSelect_spec hsel) hs hc hn hkn (fun listed' a' hL => seqB_ready hL.1) l.length listed a inv (Region.free_spec h0 hf) hr' hy
   (wpAnyC_lex hsel hs hc hn l (k + 1) _ _ (fun j hj => by have := hl (j + 1) (by simp; omega); simpa [Nat.add_assoc, Nat.add_comm 1 j] using this) (by simp only [List.length_cons] at hk; omega) (inv.set hr' hkn) hB' hK)
/-- the region: its head in the text's order, in each of the worlds C; its tail behind it. -/
theorem wp_region_class {id : Nat} {Q : Exit → Act → World → Prop} {a : Act} {w : World} {l : List Oper} (n : Nat) (C : World → Prop) (hm : P.follows .mixedOrders = true) (hB : Region.lexTailB .any l.toArray n = true)
  (hC : C { w with drawn := w.drawn + 1 }) (h : wpHead P l.toArray C (fun a' => ∀ W, C W → wpList P l.toArray Q (l.drop n) a' W) (l.take n) a) : (Code.region id l.toArray true).wp P Q a w := by
 simp only [Region.lexTailB, Bool.and_eq_true, decide_eq_true_eq] at hB
 obtain ⟨⟨⟨⟨hsel, hn⟩, hs⟩, hc⟩, hlex⟩ := hB
 have hn' : n < l.length := by simpa using hn
 have htl : (l.take n).length = n := by simp; omega
 have hdl : (l.drop n).length = l.toArray.size - n := by simp
 have inv0 : HeadInv .any l.toArray n (Array.replicate l.toArray.size false) :=
  ⟨by simp, fun j oj _ hl => (by rw [getD_replicate_false] at hl; cases hl), fun t _ ht => getD_in (by simpa using ht) (getD_replicate_false _ _)⟩
 have H := wpAnyC_lex (md := .any) (g := l.toArray.size - n) hsel hs hc hn (l.take n) 0 _ a (fun j hj => by
  have hj' : j < n := by rw [htl] at hj; exact hj
  simp [hj']) (by simpa using htl) inv0 (by rw [htl]; exact hlex) h
 refine wp_region_any hm ?_
 have := wpAny_of_headC (Q' := Q) (g := l.toArray.size - n) (fun listed a' W hL hW => by
  have := wpAny_of_seq (md := .any) (Q' := Q) (l.drop n) n listed a' W (fun j => by simp [List.getElem?_drop]) (by rw [hdl]; exact hL.1) (hL.2 W hW)
  rwa [hdl] at this) _ _ _ _ H hC
 rw [htl, show n + (l.toArray.size - n) = l.toArray.size by omega] at this
 exact this
end
theorem head_step {P : Program} {ops : Array Oper} {C : World → Prop} {Q : Act → Prop} {o : Oper} {rest : List Oper} {a : Act} (v : Value) (hw : Region.wanted o (yielded ops a.tmps) = true) (hr : ∀ W, C W → (execOp a.eval o).run P W = .ok (.value v) W) (h : wpHead P ops C Q rest (a.put o.dst v)) : wpHead P ops C Q (o :: rest) a :=
 ⟨v, .inl ⟨hw, fun W hW => .inl (hr W hW)⟩, h⟩
theorem head_call {P : Program} {ops : Array Oper} {C : World → Prop} {Q : Act → Prop} {o : Oper} {rest : List Oper} {a : Act} (v : Value) (f : FuncId) (args : Array Value) (hw : Region.wanted o (yielded ops a.tmps) = true) (hr : ∀ W, C W → (execOp a.eval o).run P W = .ok (.enter f args) W)
  (hc : ∀ W, C W → Calls P f args W (fun e w' => e = .returned v ∧ C w')) (h : wpHead P ops C Q rest (a.put o.dst v)) : wpHead P ops C Q (o :: rest) a :=
 ⟨v, .inl ⟨hw, fun W hW => .inr (.inr ⟨f, args, hr W hW, hc W hW⟩)⟩, h⟩
end Go.Proofs.YteieikgkmfglaaaGreatDoor
namespace Go.Proofs.YteieikgkmfglaaaGreatDoor
open Go.RowKit
set_option linter.unusedVariables false
theorem uf1 {ks : List KV} {W : WV} {i : Nat} {u : UnV} (h : decide (1 ≤ u.id ∧ u.id ≤ W.next - 1) = false) : Wd.unitFault ks W i u = 1 := by unfold Wd.unitFault; rw [h]; rfl
theorem uf2 {ks : List KV} {W : WV} {i : Nat} {u : UnV} (h : decide (1 ≤ u.id ∧ u.id ≤ W.next - 1) = true) (h2 : Wd.notAbove W.us i u = true) : Wd.unitFault ks W i u = 5 := by unfold Wd.unitFault; rw [h, h2]; rfl
theorem uf3 {ks : List KV} {W : WV} {i : Nat} {u : UnV} (h : decide (1 ≤ u.id ∧ u.id ≤ W.next - 1) = true) (h2 : Wd.notAbove W.us i u = false) (h3 : Wd.has W.gold.length u.player = false) : Wd.unitFault ks W i u = 1 := by unfold Wd.unitFault; rw [h, h2, h3]; rfl
theorem uf4 {ks : List KV} {W : WV} {i : Nat} {u : UnV} (h : decide (1 ≤ u.id ∧ u.id ≤ W.next - 1) = true) (h2 : Wd.notAbove W.us i u = false) (h3 : Wd.has W.gold.length u.player = true) (h4 : Wd.has ks.length u.kind = false) : Wd.unitFault ks W i u = 1 := by unfold Wd.unitFault; rw [h, h2, h3, h4]; rfl
theorem uf5 {ks : List KV} {W : WV} {i : Nat} {u : UnV} {k : KV} (h : decide (1 ≤ u.id ∧ u.id ≤ W.next - 1) = true) (h2 : Wd.notAbove W.us i u = false) (h3 : Wd.has W.gold.length u.player = true) (h4 : Wd.has ks.length u.kind = true) (h5 : ks[u.kind.toNat]? = some k) : Wd.unitFault ks W i u = Wd.kindPart W (W.us.take i) u k := by unfold Wd.unitFault; rw [h, h2, h3, h4, h5]; rfl
theorem wwithin_yes (x lo hi : Int) (w : World) (h : lo ≤ x ∧ x ≤ hi) : Calls Tryz.prog 86 #[.int .i64 x, .int .i64 lo, .int .i64 hi] w fun e w' => e = .returned (.bool true) ∧ w' = w := (wwithin_any x lo hi w).mono fun e w' ⟨h1, h2⟩ => ⟨by rw [h1, decide_eq_true h], h2⟩
theorem wwithin_no (x lo hi : Int) (w : World) (h : ¬ (lo ≤ x ∧ x ≤ hi)) : Calls Tryz.prog 86 #[.int .i64 x, .int .i64 lo, .int .i64 hi] w fun e w' => e = .returned (.bool false) ∧ w' = w := (wwithin_any x lo hi w).mono fun e w' ⟨h1, h2⟩ => ⟨by rw [h1, decide_eq_false h], h2⟩
section
variable {W : WV} {ah : List UnV} {u : UnV} {k : KV}
theorem kp1 (h : ¬ (1 ≤ u.life ∧ u.life ≤ k.n0) ∨ ¬ (0 ≤ u.load ∧ u.load ≤ k.n7) ∨ ¬ (0 ≤ u.task ∧ u.task ≤ 2)) : Wd.kindPart W ah u k = 1 := by
 unfold Wd.kindPart
 rw [if_pos]
 rcases h with h | h | h <;> simp only [decide_eq_false h, Bool.not_false, Bool.true_or, Bool.or_true]
theorem kp6 (h5 : 1 ≤ u.life ∧ u.life ≤ k.n0) (h6 : 0 ≤ u.load ∧ u.load ≤ k.n7) (h7 : 0 ≤ u.task ∧ u.task ≤ 2) (h : ¬ (0 ≤ u.at_ ∧ u.at_ < (W.gs.length : Int)) ∨ ¬ (0 ≤ u.goal ∧ u.goal < (W.gs.length : Int))) : Wd.kindPart W ah u k = 6 := by
 unfold Wd.kindPart Wd.has
 rw [decide_eq_true h5, decide_eq_true h6, decide_eq_true h7, if_neg (by decide), if_pos]
 rcases h with h | h <;> simp only [decide_eq_false h, Bool.not_false, Bool.true_or, Bool.or_true]
theorem kp7 (h5 : 1 ≤ u.life ∧ u.life ≤ k.n0) (h6 : 0 ≤ u.load ∧ u.load ≤ k.n7) (h7 : 0 ≤ u.task ∧ u.task ≤ 2) (h8 : 0 ≤ u.at_ ∧ u.at_ < (W.gs.length : Int)) (h9 : 0 ≤ u.goal ∧ u.goal < (W.gs.length : Int)) (h : Wd.open_ W.gs ah u.at_ k.f = false ∨ (u.goal ≠ 0 ∧ u.task = 0)) : Wd.kindPart W ah u k = 7 := by
 unfold Wd.kindPart Wd.has
 rw [decide_eq_true h5, decide_eq_true h6, decide_eq_true h7, decide_eq_true h8, decide_eq_true h9, if_neg (by decide), if_neg (by decide), if_pos]
 rcases h with h | ⟨h, h'⟩
 ·rw [h]; rfl
 ·simp [h, h']
theorem kp0 (h5 : 1 ≤ u.life ∧ u.life ≤ k.n0) (h6 : 0 ≤ u.load ∧ u.load ≤ k.n7) (h7 : 0 ≤ u.task ∧ u.task ≤ 2) (h8 : 0 ≤ u.at_ ∧ u.at_ < (W.gs.length : Int)) (h9 : 0 ≤ u.goal ∧ u.goal < (W.gs.length : Int)) (h : Wd.open_ W.gs ah u.at_ k.f = true) (h' : u.goal = 0 ∨ u.task ≠ 0) : Wd.kindPart W ah u k = 0 := by
 unfold Wd.kindPart Wd.has
 rw [decide_eq_true h5, decide_eq_true h6, decide_eq_true h7, decide_eq_true h8, decide_eq_true h9, h, if_neg (by decide), if_neg (by decide), if_neg]
 rcases h' with h' | h' <;> simp [h']
end
theorem Unl.take_ {w : World} {a : Option Addr} {n c : Nat} {us : List UnV} (h : Unl w (.slice a n c) us) {q : Nat} (hq : q ≤ us.length) : Unl w (.slice a q c) (us.take q) := by
 obtain ⟨a', c', e, h1, h2, h3⟩ := h
 injection e with e1 e2 e3
 subst e1 e3
 have hl : (us.take q).length = q := by rw [List.length_take]; omega
 refine ⟨a, c, by rw [hl], by omega, h2, fun hn => ?_⟩
 obtain ⟨x, e, hx, hc⟩ := h3 (by intro e; rw [e] at hn; simp at hn)
 refine ⟨x, e, hx, fun i k hk => hc i k ?_⟩
 rw [List.getElem?_take] at hk
 split at hk
 ·exact hk
 ·cases hk
set_option maxRecDepth 100000 in
set_option maxHeartbeats 16000000 in
theorem unit_any (vk vw : Value) (ks : List KV) (W : WV) (Wn Hn : Nat) (i : Nat) (u : UnV) (w : World) (hk : Kl w vk ks) (hw : Wl w vw W) (hW : W.wide = Wn) (hH : W.high = Hn) (G : Fd.Good Wn Hn W.gs W.os) (hu : W.us[i]? = some u) (hn : Wd.off 1 W.next = false) (hul : W.us.length ≤ 40) (hkl : ks.length ≤ 8) (hgl : W.gold.length ≤ 4) :
  Calls Tryz.prog 55 #[vk, vw, .int .i64 (i : Nat)] w fun e w' => ∃ r, e = .returned r ∧ Er r (Wd.unitFault ks W i u) ∧ Below w.heap.size w w' := by
 have K : Hid (Kl w vk ks) := hk
 have H : Hid (Wl w vw W) := hw
 have HG : Hid (Fd.Good Wn Hn W.gs W.os ∧ W.wide = Wn ∧ W.high = Hn) := ⟨G, hW, hH⟩
 have HU : Hid (W.us[i]? = some u) := hu
 have gl144 : W.gs.length ≤ 144 := by have := G.gl; have := G.pos; have := G.pos.2; omega
 obtain ⟨u1, u2, u3, u4, u5, rfl, r1, r2, r3, r4, r5⟩ := hw
 obtain ⟨p1, q1, rfl, -⟩ := r1
 obtain ⟨p2, q2, rfl, -⟩ := r2
 obtain ⟨p3, q3, rfl, -⟩ := r3
 obtain ⟨p4, q4, rfl, k41, k42, k43⟩ := r4
 obtain ⟨p5, q5, rfl, -⟩ := r5
 obtain ⟨pk, qk, rfl, kk1, kk2, kk3⟩ := hk
 have hil : i < W.us.length := (List.getElem?_eq_some_iff.1 hu).1
 have hili : (i : Int) < (W.us.length : Int) := by omega
 obtain ⟨x, rfl, hx, hcell⟩ := k43 (by intro e; rw [e] at hil; simp at hil)
 have UC : Hid (x.block < w.heap.size ∧ ∀ (i : Nat) k, W.us[i]? = some k → Unc w (x.add (i * 8)) k) := ⟨hx, hcell⟩
 obtain ⟨d0, d1, d2, d3, d4, d5, d6, d7⟩ := hcell i u hu
 have nx : 1 ≤ W.next ∧ W.next ≤ 1000000 := by
  unfold Wd.off at hn
  have : decide (1 ≤ W.next ∧ W.next ≤ 1000000) = true := by cases h : decide (1 ≤ W.next ∧ W.next ≤ 1000000) with | true => rfl | false => rw [h] at hn; cases hn
  exact of_decide_eq_true this
 obtain ⟨n1, hn1⟩ : ∃ n1 : Int, W.next - 1 = n1 := ⟨_, rfl⟩
 have wn1 : IntKind.i64.wrap n1 = n1 := by rw [IntKind.wrap_i64]; omega
 obtain ⟨b1, hb1⟩ : ∃ b, decide (1 ≤ u.id ∧ u.id ≤ n1) = b := ⟨_, rfl⟩
 have HB1 : Hid (decide (1 ≤ u.id ∧ u.id ≤ W.next - 1) = b1) := by unfold Hid; rw [hn1]; exact hb1
 clear hcell hx k43 hn nx hu hW hH G
 go_enter Tryz.func55, Tryz.ntmps55
 go_upto_region 1 with fail
 have Y0 : Hid (Bw (w.alloc (Obj.cells #[.int .i64 W.turn, .int .i64 W.next, .int .i64 W.wide, .int .i64 W.high, .slice p1 W.gs.length q1, .slice p2 W.os.length q2, .slice p3 W.gold.length q3, .slice (some x) W.us.length q4, .slice p5 W.qs.length q5] 29)) w.heap.size W (.slice p1 W.gs.length q1) (.slice p2 W.os.length q2) (.slice p3 W.gold.length q3) (.slice (some x) W.us.length q4) (.slice p5 W.qs.length q5)) := Bw.mk' W _ _ _ _ _ rfl
 have BY : Hid (Below w.heap.size w (w.alloc (Obj.cells #[.int .i64 W.turn, .int .i64 W.next, .int .i64 W.wide, .int .i64 W.high, .slice p1 W.gs.length q1, .slice p2 W.os.length q2, .slice p3 W.gold.length q3, .slice (some x) W.us.length q4, .slice p5 W.qs.length q5] 29))) := (Below.refl _ _).alloc (Nat.le_refl _) _
 have SY : Hid ((w.alloc (Obj.cells #[.int .i64 W.turn, .int .i64 W.next, .int .i64 W.wide, .int .i64 W.high, .slice p1 W.gs.length q1, .slice p2 W.os.length q2, .slice p3 W.gold.length q3, .slice (some x) W.us.length q4, .slice p5 W.qs.length q5] 29)).heap.size = w.heap.size + 1) := by unfold Hid; simp
 generalize (w.alloc (Obj.cells #[.int .i64 W.turn, .int .i64 W.next, .int .i64 W.wide, .int .i64 W.high, .slice p1 W.gs.length q1, .slice p2 W.os.length q2, .slice p3 W.gold.length q3, .slice (some x) W.us.length q4, .slice p5 W.qs.length q5] 29)) = wy at *
 clear d0 d1 d2 d3 d4 d5 d6 d7
 obtain ⟨d0, d1, d2, d3, d4, d5, d6, d7⟩ := (UC.out.2 i u HU.out).below BY.out (by rw [add_block]; exact UC.out.1)
 have x7 := Y0.out.c7
 go_upto_region 2 with fail
 have X0 : Hid (Bw (wy.alloc (Obj.cells #[.int .i64 u.id, .int .i64 u.player, .int .i64 u.kind, .int .i64 u.at_, .int .i64 u.life, .int .i64 u.load, .int .i64 u.task, .int .i64 u.goal] 44)) w.heap.size W (.slice p1 W.gs.length q1) (.slice p2 W.os.length q2) (.slice p3 W.gold.length q3) (.slice (some x) W.us.length q4) (.slice p5 W.qs.length q5)) := Y0.out.below ((Below.refl _ _).alloc (Nat.le_refl _) _) Y0.out.lt
 have U0 : Hid (Unc (wy.alloc (Obj.cells #[.int .i64 u.id, .int .i64 u.player, .int .i64 u.kind, .int .i64 u.at_, .int .i64 u.life, .int .i64 u.load, .int .i64 u.task, .int .i64 u.goal] 44)) ⟨wy.heap.size, 0, none⟩ u) := Unc.mk' u rfl
 have B0 : Hid (Below w.heap.size w (wy.alloc (Obj.cells #[.int .i64 u.id, .int .i64 u.player, .int .i64 u.kind, .int .i64 u.at_, .int .i64 u.life, .int .i64 u.load, .int .i64 u.task, .int .i64 u.goal] 44))) := BY.out.alloc BY.out.size _
 generalize (wy.alloc (Obj.cells #[.int .i64 u.id, .int .i64 u.player, .int .i64 u.kind, .int .i64 u.at_, .int .i64 u.life, .int .i64 u.load, .int .i64 u.task, .int .i64 u.goal] 44)) = w0 at *
 generalize wy.heap.size = zu at *
 clear d0 d1 d2 d3 d4 d5 d6 d7 x7 Y0 BY SY
 obtain ⟨x0, x1, x2, x3, x4, x5, x6, x7, x8⟩ := X0.out
 obtain ⟨y0, y1, y2, y3, y4, y5, y6, y7⟩ := U0.out
 go_wp2_with fail
 refine (wwithin_any u.id 1 n1 w0).mono ?_
 rintro e ww ⟨rfl, rfl⟩
 rw [hb1]
 clear hb1 hn1 wn1
 cases b1 with
 | false =>
  go_wp2
  go_ret
  exact ⟨_, rfl, by rw [uf1 HB1.out]; exact Er.no (by decide), B0.out⟩
 | true =>
  obtain ⟨b2, hb2⟩ : ∃ b, Wd.notAbove W.us i u = b := ⟨_, rfl⟩
  have HB2 : Hid (Wd.notAbove W.us i u = b2) := hb2
  go_upto_region 4 with fail
  go_cut [2, 22] from 23 to 36 (fun v2 v22 V => v2 = .int .i64 (i : Nat) ∧ v22 = .bool b2 ∧ Below ww.heap.size ww V)
  case first =>
   rcases Nat.eq_zero_or_pos i with hi0 | hi0
   ·have g0 : ¬ (0 : Int) < (i : Int) := by omega
    have hbf : b2 = false := by rw [← hb2, hi0]; rfl
    subst hbf
    clear hb2
    have HI0 : Hid (i = 0) := hi0
    have hnp : ¬ 0 < i := by omega
    clear hi0
    go_quiet (fail)
    go_wp2
    go_meet
    case rel => exact ⟨by first | rfl | rw [HI0.out], rfl, _root_.Go.below_drewN (Below.refl _ _) _⟩
   ·obtain ⟨j, hj⟩ : ∃ j, i = j + 1 := ⟨i - 1, by omega⟩
    obtain ⟨v, hv⟩ : ∃ v, W.us[j]? = some v := ⟨_, List.getElem?_eq_getElem (by omega)⟩
    have e0 : (i : Int) - 1 = (j : Nat) := by omega
    have g0 : (0 : Int) < (i : Int) := by omega
    have wj : IntKind.i64.wrap ((j : Nat) : Int) = (j : Nat) := by rw [IntKind.wrap_i64]; omega
    have jl : (j : Int) < (W.us.length : Int) := by omega
    obtain ⟨d0, -, -, -, -, -, -, -⟩ := (UC.out.2 j v hv).below B0.out (by rw [add_block]; exact UC.out.1)
    have hb : decide (u.id ≤ v.id) = b2 := by rw [← hb2, hj]; unfold Wd.notAbove; simp only [hv]
    clear hj hb2 hv
    cases b2
    ·have hgt : ¬ u.id ≤ v.id := of_decide_eq_false hb
     clear hb
     go_quiet (fail)
     go_wp2
     go_meet
     case rel => exact ⟨by first | rfl | rw [HI0.out], rfl, _root_.Go.below_drewN (Below.refl _ _) _⟩
    ·have hle : u.id ≤ v.id := of_decide_eq_true hb
     clear hb
     go_quiet (fail)
     go_wp2
     go_meet
     case rel => exact ⟨by first | rfl | rw [HI0.out], rfl, _root_.Go.below_drewN (Below.refl _ _) _⟩
  case rest =>
   obtain ⟨rfl, rfl, hbc⟩ := hcut
   have BC : Hid (Below w.heap.size w wc) := B0.out.trans (hbc.mono B0.out.size)
   have XC : Hid (Bw wc w.heap.size W (.slice p1 W.gs.length q1) (.slice p2 W.os.length q2) (.slice p3 W.gold.length q3) (.slice (some x) W.us.length q4) (.slice p5 W.qs.length q5)) := X0.out.below hbc X0.out.lt
   have VC : Hid (Unc wc ⟨zu, 0, none⟩ u) := U0.out.below hbc U0.out.lt
   clear hbc hb2 x0 x1 x2 x3 x4 x5 x6 x7 x8 y0 y1 y2 y3 y4 y5 y6 y7 X0 U0 B0
   obtain ⟨x0, x1, x2, x3, x4, x5, x6, x7, x8⟩ := XC.out
   obtain ⟨y0, y1, y2, y3, y4, y5, y6, y7⟩ := VC.out
   cases b2 with
   | true =>
    go_wp2
    go_ret
    exact ⟨_, rfl, by rw [uf2 HB1.out HB2.out]; exact Er.no (by decide), BC.out⟩
   | false =>
    obtain ⟨b3, hb3⟩ : ∃ b, decide (0 ≤ u.player ∧ u.player < (W.gold.length : Int)) = b := ⟨_, rfl⟩
    have HB3 : Hid (Wd.has W.gold.length u.player = b3) := hb3
    go_wp2_with fail
    refine (isone_ints _ _ _ _ _ (by omega)).mono ?_
    rintro e w5 ⟨rfl, hww⟩
    obtain rfl := hww.symm
    rw [hb3]
    clear hb3
    cases b3 with
    | false =>
     go_wp2
     go_ret
     exact ⟨_, rfl, by rw [uf3 HB1.out HB2.out HB3.out]; exact Er.no (by decide), BC.out⟩
    | true =>
     obtain ⟨b4, hb4⟩ : ∃ b, decide (0 ≤ u.kind ∧ u.kind < (ks.length : Int)) = b := ⟨_, rfl⟩
     have HB4 : Hid (Wd.has ks.length u.kind = b4) := hb4
     go_wp2_with fail
     refine (isone_kinds _ _ _ _ _ (by omega)).mono ?_
     rintro e w6 ⟨rfl, hww⟩
     obtain rfl := hww.symm
     rw [hb4]
     cases b4 with
     | false =>
      clear hb4
      go_wp2
      go_ret
      exact ⟨_, rfl, by rw [uf4 HB1.out HB2.out HB3.out HB4.out]; exact Er.no (by decide), BC.out⟩
     | true =>
      have hkr := of_decide_eq_true hb4
      obtain ⟨kn, ek⟩ : ∃ kn : Nat, u.kind = kn := ⟨u.kind.toNat, by omega⟩
      have hkn : kn < ks.length := by omega
      obtain ⟨k, hkk⟩ : ∃ k, ks[kn]? = some k := ⟨_, List.getElem?_eq_getElem hkn⟩
      have UF : Hid (Wd.unitFault ks W i u = Wd.kindPart W (W.us.take i) u k) := uf5 HB1.out HB2.out HB3.out HB4.out (by rw [ek, Int.toNat_natCast]; exact hkk)
      obtain ⟨xk, rfl, hxk, hkc⟩ := kk3 (by intro e; rw [e] at hkn; simp at hkn)
      have hkni : (kn : Int) < (ks.length : Int) := by omega
      have KC : Hid (Kc _ (xk.add (kn * 11)) k) := (hkc kn k hkk).below BC.out (by rw [add_block]; exact hxk)
      rw [ek] at y2
      obtain ⟨l0, l1, l2, l3, l4, l5, l6, l7, l8, l9, l10⟩ := KC.out
      clear hkr hb4 hkc hxk hkk kk3
      go_upto_region 9 with fail
      by_cases h5 : 1 ≤ u.life ∧ u.life ≤ k.n0
      ·go_quiet ((go_at_call 86; exact Calls.quiet_of_same (wwithin_yes _ _ _ _ h5)))
       have BC' : Hid (Below w.heap.size w (wc.drewN nq)) := _root_.Go.below_drewN BC.out nq
       have XC' : Hid (Bw (wc.drewN nq) w.heap.size W (.slice p1 W.gs.length q1) (.slice p2 W.os.length q2) (.slice p3 W.gold.length q3) (.slice (some x) W.us.length q4) (.slice p5 W.qs.length q5)) := XC.out.below (_root_.Go.below_drewN (Below.refl _ _) nq) XC.out.lt
       have VC' : Hid (Unc (wc.drewN nq) ⟨zu, 0, none⟩ u) := VC.out.below (_root_.Go.below_drewN (Below.refl _ _) nq) VC.out.lt
       have KC' : Hid (Kc (wc.drewN nq) (xk.add (kn * 11)) k) := KC.out.below (_root_.Go.below_drewN (Below.refl _ _) nq) KC.out.lt
       generalize wc.drewN nq = wd at *
       clear BC XC VC KC x0 x1 x2 x3 x4 x5 x6 x7 x8 y0 y1 y2 y3 y4 y5 y6 y7 l0 l1 l2 l3 l4 l5 l6 l7 l8 l9 l10
       obtain ⟨wc, hwc⟩ : ∃ wc, wc = wd := ⟨_, rfl⟩
       subst hwc
       have BC := BC'
       have XC := XC'
       have VC := VC'
       have KC := KC'
       clear BC' XC' VC' KC'
       obtain ⟨x0, x1, x2, x3, x4, x5, x6, x7, x8⟩ := XC.out
       obtain ⟨y0, y1, y2, y3, y4, y5, y6, y7⟩ := VC.out
       rw [ek] at y2
       obtain ⟨l0, l1, l2, l3, l4, l5, l6, l7, l8, l9, l10⟩ := KC.out
       go_upto_region 10 with fail
       by_cases h6 : 0 ≤ u.load ∧ u.load ≤ k.n7
       ·go_quiet ((go_at_call 86; exact Calls.quiet_of_same (wwithin_yes _ _ _ _ h6)))
        have BC' : Hid (Below w.heap.size w (wc.drewN nq)) := _root_.Go.below_drewN BC.out nq
        have XC' : Hid (Bw (wc.drewN nq) w.heap.size W (.slice p1 W.gs.length q1) (.slice p2 W.os.length q2) (.slice p3 W.gold.length q3) (.slice (some x) W.us.length q4) (.slice p5 W.qs.length q5)) := XC.out.below (_root_.Go.below_drewN (Below.refl _ _) nq) XC.out.lt
        have VC' : Hid (Unc (wc.drewN nq) ⟨zu, 0, none⟩ u) := VC.out.below (_root_.Go.below_drewN (Below.refl _ _) nq) VC.out.lt
        have KC' : Hid (Kc (wc.drewN nq) (xk.add (kn * 11)) k) := KC.out.below (_root_.Go.below_drewN (Below.refl _ _) nq) KC.out.lt
        generalize wc.drewN nq = wd at *
        clear BC XC VC KC x0 x1 x2 x3 x4 x5 x6 x7 x8 y0 y1 y2 y3 y4 y5 y6 y7 l0 l1 l2 l3 l4 l5 l6 l7 l8 l9 l10
        obtain ⟨wc, hwc⟩ : ∃ wc, wc = wd := ⟨_, rfl⟩
        subst hwc
        have BC := BC'
        have XC := XC'
        have VC := VC'
        have KC := KC'
        clear BC' XC' VC' KC'
        obtain ⟨x0, x1, x2, x3, x4, x5, x6, x7, x8⟩ := XC.out
        obtain ⟨y0, y1, y2, y3, y4, y5, y6, y7⟩ := VC.out
        rw [ek] at y2
        obtain ⟨l0, l1, l2, l3, l4, l5, l6, l7, l8, l9, l10⟩ := KC.out
        by_cases h7 : 0 ≤ u.task ∧ u.task ≤ 2
        ·go_wp2_with fail
         refine (wwithin_yes _ _ _ _ h7).mono ?_
         rintro e w8 ⟨rfl, hww⟩
         obtain rfl := hww.symm
         by_cases h8 : 0 ≤ u.at_ ∧ u.at_ < (W.gs.length : Int)
         ·have t8 : decide (0 ≤ u.at_ ∧ u.at_ < (W.gs.length : Int)) = true := decide_eq_true h8
          go_wp2_with fail
          refine (isone_ints _ _ _ _ _ (by omega)).mono ?_
          rintro e w9 ⟨rfl, hww⟩
          obtain rfl := hww.symm
          rw [t8]
          by_cases h9 : 0 ≤ u.goal ∧ u.goal < (W.gs.length : Int)
          ·have t9 : decide (0 ≤ u.goal ∧ u.goal < (W.gs.length : Int)) = true := decide_eq_true h9
           go_wp2_with fail
           refine (isone_ints _ _ _ _ _ (by omega)).mono ?_
           rintro e w10 ⟨rfl, hww⟩
           obtain rfl := hww.symm
           rw [t9]
           clear t8 t9
           obtain ⟨an, ea⟩ : ∃ an : Nat, u.at_ = an := ⟨u.at_.toNat, by omega⟩
           obtain ⟨g, hg0⟩ : ∃ g, W.gs[an]? = some g := ⟨_, List.getElem?_eq_getElem (by omega)⟩
           have hgan : Hid (W.gs[an]? = some g) := hg0
           clear hg0
           have FC : Hid (∀ V, Below wc.heap.size wc V → V.cell? ⟨w.heap.size, 2, none⟩ = some (.int .i64 W.wide) ∧ V.cell? ⟨w.heap.size, 3, none⟩ = some (.int .i64 W.high) ∧ V.cell? ⟨w.heap.size, 4, none⟩ = some (.slice p1 W.gs.length q1) ∧ V.cell? ⟨w.heap.size, 5, none⟩ = some (.slice p2 W.os.length q2) ∧ V.cell? ⟨w.heap.size, 7, none⟩ = some (.slice (some x) W.us.length q4) ∧ V.cell? ⟨zu, 3, none⟩ = some (.int .i64 (an : Nat)) ∧ V.cell? ⟨zu, 2, none⟩ = some (.int .i64 (kn : Nat)) ∧ V.cell? ⟨(xk.add (kn * 11)).block, (xk.add (kn * 11)).off + 9, none⟩ = some (.bool k.f)) := fun V hV => by
            obtain ⟨-, -, z2, z3, z4, z5, -, z7, -⟩ := XC.out.below hV XC.out.lt
            obtain ⟨-, -, g2, g3, -, -, -, -⟩ := VC.out.below hV VC.out.lt
            obtain ⟨-, -, -, -, -, -, -, -, -, m9, -⟩ := KC.out.below hV KC.out.lt
            rw [ek] at g2
            rw [ea] at g3
            exact ⟨z2, z3, z4, z5, z7, g3, g2, m9⟩
           have OPN : Hid (∀ V, Below wc.heap.size wc V → Calls Tryz.prog 90 #[.agg #[.int .i64 W.wide, .int .i64 W.high, .slice p1 W.gs.length q1, .slice p2 W.os.length q2], .slice (some x) i q4, .int .i64 (an : Nat), .bool k.f] V fun e w' => e = .returned (.bool (Wd.open_ W.gs (W.us.take i) (an : Nat) k.f)) ∧ Below wc.heap.size wc w') := fun V hV => by
            have BV : Below w.heap.size w V := BC.out.trans (hV.mono BC.out.size)
            obtain ⟨r1, r2, -, r4, -⟩ := (H.out.below BV).slices
            obtain ⟨hGood, hWn, hHn⟩ := HG.out
            rw [hWn, hHn]
            exact (isopen_any _ _ Wn Hn W.gs W.os (W.us.take i) an g k.f V ⟨_, _, rfl, r1, r2⟩ hGood (r4.take_ (by omega)) (by have := hGood.gl; omega) hgan.out).mono fun e w' ⟨h1, h2⟩ => ⟨h1, hV.trans (h2.mono hV.size)⟩
           have eo : ∀ args w, (callFunc 90 args).run Tryz.prog w = .ok (.enter 90 args) w := by intro args w; go_simp
           have hin : (i : Int) ≤ (q4 : Int) := by omega
           go_upto_region 16 with fail
           refine wp_region_class 15 (fun V => Below wc.heap.size wc V) (by kernel_rfl) (by kernel_rfl) (Below.refl _ _).drew ?_
           simp only [List.take_succ_cons, List.take_zero, List.drop_succ_cons, List.drop_zero]
           refine head_step (.pointer (some ⟨w.heap.size, 2, none⟩)) (by go_simp) (fun V hV => by go_simp) ?_
           go_simp
           refine head_step (.agg #[.int .i64 W.wide, .int .i64 W.high, .slice p1 W.gs.length q1, .slice p2 W.os.length q2]) (by go_simp) (fun V hV => by obtain ⟨f2, f3, f4, f5, -⟩ := FC.out V hV; go_simp) ?_
           go_simp
           refine head_step (.pointer (some ⟨w.heap.size, 7, none⟩)) (by go_simp) (fun V hV => by go_simp) ?_
           go_simp
           refine head_step (.slice (some x) W.us.length q4) (by go_simp) (fun V hV => by obtain ⟨-, -, -, -, f7, -⟩ := FC.out V hV; go_simp) ?_
           go_simp
           refine head_step (.int .i64 (i : Nat)) (by go_simp) (fun V hV => by go_simp) ?_
           go_simp
           refine head_step (.slice (some x) i q4) (by go_simp) (fun V hV => by go_simp) ?_
           go_simp
           refine head_step (.pointer (some ⟨zu, 3, none⟩)) (by go_simp) (fun V hV => by go_simp) ?_
           go_simp
           refine head_step (.int .i64 (an : Nat)) (by go_simp) (fun V hV => by obtain ⟨-, -, -, -, -, f8, -⟩ := FC.out V hV; go_simp) ?_
           go_simp
           refine head_step (.slice (some xk) ks.length qk) (by go_simp) (fun V hV => by go_simp) ?_
           go_simp
           refine head_step (.pointer (some ⟨zu, 2, none⟩)) (by go_simp) (fun V hV => by go_simp) ?_
           go_simp
           refine head_step (.int .i64 (kn : Nat)) (by go_simp) (fun V hV => by obtain ⟨-, -, -, -, -, -, f9, -⟩ := FC.out V hV; go_simp) ?_
           go_simp
           refine head_step (.pointer (some (xk.add (kn * 11)))) (by go_simp) (fun V hV => by go_simp) ?_
           go_simp
           refine head_step (.pointer (some ⟨(xk.add (kn * 11)).block, (xk.add (kn * 11)).off + 9, none⟩)) (by go_simp) (fun V hV => by go_simp) ?_
           go_simp
           refine head_step (.bool k.f) (by go_simp) (fun V hV => by obtain ⟨-, -, -, -, -, -, -, f10⟩ := FC.out V hV; go_simp) ?_
           go_simp
           refine head_call (.bool (Wd.open_ W.gs (W.us.take i) (an : Nat) k.f)) 90 #[.agg #[.int .i64 W.wide, .int .i64 W.high, .slice p1 W.gs.length q1, .slice p2 W.os.length q2], .slice (some x) i q4, .int .i64 (an : Nat), .bool k.f] (by go_simp) (fun V hV => by go_simp) (fun V hV => OPN.out V hV) ?_
           go_simp
           intro V hV
           have BV : Hid (Below w.heap.size w V) := BC.out.trans (hV.mono BC.out.size)
           have VV : Hid (Unc V ⟨zu, 0, none⟩ u) := VC.out.below hV VC.out.lt
           obtain ⟨b9, hb9⟩ : ∃ b, Wd.open_ W.gs (W.us.take i) (an : Nat) k.f = b := ⟨_, rfl⟩
           have HB9 : Hid (Wd.open_ W.gs (W.us.take i) (an : Nat) k.f = b9) := hb9
           rw [hb9]
           clear hV FC OPN hb9 x0 x1 x2 x3 x4 x5 x6 x7 x8 y0 y1 y2 y3 y4 y5 y6 y7 l0 l1 l2 l3 l4 l5 l6 l7 l8 l9 l10
           cases b9 with
           | false =>
            go_wp2
            go_ret
            exact ⟨_, rfl, by rw [UF.out, kp7 h5 h6 h7 h8 h9 (.inl (by rw [ea]; exact HB9.out))]; exact Er.no (by decide), BV.out⟩
           | true =>
            obtain ⟨y0, y1, y2, y3, y4, y5, y6, y7⟩ := VV.out
            by_cases hgo : u.goal = 0
            ·have FINE : Hid (Wd.unitFault ks W i u = 0) := by unfold Hid; rw [UF.out, kp0 h5 h6 h7 h8 h9 (by rw [ea]; exact HB9.out) (.inl hgo)]
             go_wp2
             go_ret
             exact ⟨_, rfl, by rw [FINE.out]; exact Er.nil, BV.out⟩
            ·by_cases hta : u.task = 0
             ·have BADF : Hid (Wd.unitFault ks W i u = 7) := by unfold Hid; rw [UF.out, kp7 h5 h6 h7 h8 h9 (.inr ⟨hgo, hta⟩)]
              go_wp2
              go_ret
              exact ⟨_, rfl, by rw [BADF.out]; exact Er.no (by decide), BV.out⟩
             ·have FINE : Hid (Wd.unitFault ks W i u = 0) := by unfold Hid; rw [UF.out, kp0 h5 h6 h7 h8 h9 (by rw [ea]; exact HB9.out) (.inr hta)]
              have tb : (u.task == 0) = false := by simpa using hta
              clear hta
              go_wp2
              go_ret
              exact ⟨_, rfl, by rw [FINE.out]; exact Er.nil, BV.out⟩
          ·have t9 : decide (0 ≤ u.goal ∧ u.goal < (W.gs.length : Int)) = false := decide_eq_false h9
           go_wp2_with fail
           refine (isone_ints _ _ _ _ _ (by omega)).mono ?_
           rintro e w10 ⟨rfl, hww⟩
           obtain rfl := hww.symm
           rw [t9]
           clear t9 t8
           go_wp2
           go_ret
           exact ⟨_, rfl, by rw [UF.out, kp6 h5 h6 h7 (.inr h9)]; exact Er.no (by decide), BC.out⟩
         ·have t8 : decide (0 ≤ u.at_ ∧ u.at_ < (W.gs.length : Int)) = false := decide_eq_false h8
          go_wp2_with fail
          refine (isone_ints _ _ _ _ _ (by omega)).mono ?_
          rintro e w9 ⟨rfl, hww⟩
          obtain rfl := hww.symm
          rw [t8]
          clear t8
          go_wp2
          go_ret
          exact ⟨_, rfl, by rw [UF.out, kp6 h5 h6 h7 (.inl h8)]; exact Er.no (by decide), BC.out⟩
        ·go_wp2_with fail
         refine (wwithin_no _ _ _ _ h7).mono ?_
         rintro e w8 ⟨rfl, hww⟩
         obtain rfl := hww.symm
         go_wp2
         go_ret
         exact ⟨_, rfl, by rw [UF.out, kp1 (.inr (.inr h7))]; exact Er.no (by decide), BC.out⟩
       ·go_quiet ((go_at_call 86; exact Calls.quiet_of_same (wwithin_no _ _ _ _ h6)))
        have BC' : Hid (Below w.heap.size w (wc.drewN nq)) := _root_.Go.below_drewN BC.out nq
        have XC' : Hid (Bw (wc.drewN nq) w.heap.size W (.slice p1 W.gs.length q1) (.slice p2 W.os.length q2) (.slice p3 W.gold.length q3) (.slice (some x) W.us.length q4) (.slice p5 W.qs.length q5)) := XC.out.below (_root_.Go.below_drewN (Below.refl _ _) nq) XC.out.lt
        have VC' : Hid (Unc (wc.drewN nq) ⟨zu, 0, none⟩ u) := VC.out.below (_root_.Go.below_drewN (Below.refl _ _) nq) VC.out.lt
        have KC' : Hid (Kc (wc.drewN nq) (xk.add (kn * 11)) k) := KC.out.below (_root_.Go.below_drewN (Below.refl _ _) nq) KC.out.lt
        generalize wc.drewN nq = wd at *
        clear BC XC VC KC x0 x1 x2 x3 x4 x5 x6 x7 x8 y0 y1 y2 y3 y4 y5 y6 y7 l0 l1 l2 l3 l4 l5 l6 l7 l8 l9 l10
        obtain ⟨wc, hwc⟩ : ∃ wc, wc = wd := ⟨_, rfl⟩
        subst hwc
        have BC := BC'
        have XC := XC'
        have VC := VC'
        have KC := KC'
        clear BC' XC' VC' KC'
        obtain ⟨x0, x1, x2, x3, x4, x5, x6, x7, x8⟩ := XC.out
        obtain ⟨y0, y1, y2, y3, y4, y5, y6, y7⟩ := VC.out
        rw [ek] at y2
        obtain ⟨l0, l1, l2, l3, l4, l5, l6, l7, l8, l9, l10⟩ := KC.out
        go_wp2
        go_ret
        exact ⟨_, rfl, by rw [UF.out, kp1 (.inr (.inl h6))]; exact Er.no (by decide), BC.out⟩
      ·go_quiet ((go_at_call 86; exact Calls.quiet_of_same (wwithin_no _ _ _ _ h5)))
       have BC' : Hid (Below w.heap.size w (wc.drewN nq)) := _root_.Go.below_drewN BC.out nq
       have XC' : Hid (Bw (wc.drewN nq) w.heap.size W (.slice p1 W.gs.length q1) (.slice p2 W.os.length q2) (.slice p3 W.gold.length q3) (.slice (some x) W.us.length q4) (.slice p5 W.qs.length q5)) := XC.out.below (_root_.Go.below_drewN (Below.refl _ _) nq) XC.out.lt
       have VC' : Hid (Unc (wc.drewN nq) ⟨zu, 0, none⟩ u) := VC.out.below (_root_.Go.below_drewN (Below.refl _ _) nq) VC.out.lt
       have KC' : Hid (Kc (wc.drewN nq) (xk.add (kn * 11)) k) := KC.out.below (_root_.Go.below_drewN (Below.refl _ _) nq) KC.out.lt
       generalize wc.drewN nq = wd at *
       clear BC XC VC KC x0 x1 x2 x3 x4 x5 x6 x7 x8 y0 y1 y2 y3 y4 y5 y6 y7 l0 l1 l2 l3 l4 l5 l6 l7 l8 l9 l10
       obtain ⟨wc, hwc⟩ : ∃ wc, wc = wd := ⟨_, rfl⟩
       subst hwc
       have BC := BC'
       have XC := XC'
       have VC := VC'
       have KC := KC'
       clear BC' XC' VC' KC'
       obtain ⟨x0, x1, x2, x3, x4, x5, x6, x7, x8⟩ := XC.out
       obtain ⟨y0, y1, y2, y3, y4, y5, y6, y7⟩ := VC.out
       rw [ek] at y2
       obtain ⟨l0, l1, l2, l3, l4, l5, l6, l7, l8, l9, l10⟩ := KC.out
       go_wp2
       go_ret
       exact ⟨_, rfl, by rw [UF.out, kp1 (.inl h5)]; exact Er.no (by decide), BC.out⟩
end Go.Proofs.YteieikgkmfglaaaGreatDoor
namespace Go.Proofs.YteieikgkmfglaaaGreatDoor
open Go.RowKit
set_option linter.unusedVariables false
theorem find_fst {us : List UnV} {id : Int} : ∀ {r : Int}, FstU (fun u => u.id == id) us r → (r = -1 ∧ us.find? (fun u => u.id == id) = none) ∨ ∃ (n : Nat) (x : UnV), r = n ∧ us[n]? = some x ∧ us.find? (fun u => u.id == id) = some x
 | r, .inl ⟨h, h1⟩ => .inl ⟨h, by
   rw [List.find?_eq_none]
   intro x hx hp
   have : us.any (fun u => u.id == id) = true := List.any_eq_true.2 ⟨x, hx, hp⟩
   rw [h1] at this; cases this⟩
 | r, .inr ⟨n, x, h, h1, h2, h3⟩ => .inr ⟨n, x, h, h1, by
   have hn : n < us.length := (List.getElem?_eq_some_iff.1 h1).1
   have e : us = us.take n ++ x :: us.drop (n + 1) := by
    obtain ⟨hi, e⟩ := List.getElem?_eq_some_iff.1 h1
    rw [← e, ← List.drop_eq_getElem_cons hi, List.take_append_drop]
   have h4 : (us.take n).find? (fun u => u.id == id) = none := by
    rw [List.find?_eq_none]
    intro y hy hp
    have : (us.take n).any (fun u => u.id == id) = true := List.any_eq_true.2 ⟨y, hy, hp⟩
    rw [h3] at this; cases this
   rw [e, List.find?_append, h4]
   simp only [Option.none_or]
   have h2' : (x.id == id) = true := h2
   simp only [List.find?_cons, h2']⟩
theorem jf6 {ks : List KV} {W : WV} {j : JbV} (h : W.us.find? (fun u => u.id == j.unit) = none) : Wd.jobFault ks W j = 6 := by unfold Wd.jobFault; rw [h]
theorem jf7 {ks : List KV} {W : WV} {j : JbV} {u : UnV} {k : KV} (h : W.us.find? (fun u => u.id == j.unit) = some u) (hk : ks[u.kind.toNat]? = some k) (h7 : u.player ≠ j.player ∨ k.t = false) : Wd.jobFault ks W j = 7 := by
 unfold Wd.jobFault
 rw [h]
 simp only [hk]
 rw [if_pos]
 rcases h7 with h7 | h7 <;> simp [h7]
theorem jf1 {ks : List KV} {W : WV} {j : JbV} {u : UnV} {k : KV} (h : W.us.find? (fun u => u.id == j.unit) = some u) (hk : ks[u.kind.toNat]? = some k) (hp : u.player = j.player) (ht : k.t = true) (h1 : decide (0 ≤ j.kind ∧ j.kind < (ks.length : Int)) = false ∨ decide (1 ≤ j.left ∧ j.left ≤ 1000) = false) : Wd.jobFault ks W j = 1 := by
 unfold Wd.jobFault Wd.has
 rw [h]
 simp only [hk]
 rw [hp, ht, if_neg (by simp), if_pos]
 rcases h1 with h1 | h1 <;> rw [h1] <;> simp
theorem jf0 {ks : List KV} {W : WV} {j : JbV} {u : UnV} {k : KV} (h : W.us.find? (fun u => u.id == j.unit) = some u) (hk : ks[u.kind.toNat]? = some k) (hp : u.player = j.player) (ht : k.t = true) (h1 : decide (0 ≤ j.kind ∧ j.kind < (ks.length : Int)) = true) (h2 : decide (1 ≤ j.left ∧ j.left ≤ 1000) = true) : Wd.jobFault ks W j = 0 := by
 unfold Wd.jobFault Wd.has
 rw [h]
 simp only [hk]
 rw [hp, ht, h1, h2, if_neg (by simp), if_neg (by simp)]
set_option maxRecDepth 100000 in
set_option maxHeartbeats 8000000 in
theorem job_any (vk vw : Value) (ks : List KV) (W : WV) (j : JbV) (w : World) (hk : Kl w vk ks) (hw : Wl w vw W) (hul : W.us.length ≤ 40) (hkl : ks.length ≤ 8) (hall : ∀ u ∈ W.us, 0 ≤ u.kind ∧ u.kind < (ks.length : Int)) :
  Calls Tryz.prog 56 #[vk, vw, j.val] w fun e w' => ∃ r, e = .returned r ∧ Er r (Wd.jobFault ks W j) ∧ Below w.heap.size w w' := by
 have K : Hid (Kl w vk ks) := hk
 have H : Hid (Wl w vw W) := hw
 have HA : Hid (∀ u ∈ W.us, 0 ≤ u.kind ∧ u.kind < (ks.length : Int)) := hall
 obtain ⟨u1, u2, u3, u4, u5, rfl, r1, r2, r3, r4, r5⟩ := hw
 obtain ⟨p4, q4, rfl, k41, k42, k43⟩ := r4
 obtain ⟨pk, qk, rfl, kk1, kk2, kk3⟩ := hk
 have UC : Hid (W.us ≠ [] → ∃ x, p4 = some x ∧ x.block < w.heap.size ∧ ∀ (i : Nat) k, W.us[i]? = some k → Unc w (x.add (i * 8)) k) := k43
 have KK : Hid (ks ≠ [] → ∃ x, pk = some x ∧ x.block < w.heap.size ∧ ∀ (i : Nat) k, ks[i]? = some k → Kc w (x.add (i * 11)) k) := kk3
 clear r1 r2 r3 r5 k43 kk3 hall
 unfold JbV.val
 go_enter Tryz.func56, Tryz.ntmps56
 go_wp2_with fail
 have B0 : Hid (Below w.heap.size w ((w.alloc (Obj.cells #[.int .i64 W.turn, .int .i64 W.next, .int .i64 W.wide, .int .i64 W.high, u1, u2, u3, .slice p4 W.us.length q4, u5] 29)).alloc (Obj.cells #[.int .i64 j.player, .int .i64 j.unit, .int .i64 j.kind, .int .i64 j.left] 71))) := ((Below.refl _ _).alloc (Nat.le_refl _) _).alloc (by simp) _
 have X0 : Hid (Bw ((w.alloc (Obj.cells #[.int .i64 W.turn, .int .i64 W.next, .int .i64 W.wide, .int .i64 W.high, u1, u2, u3, .slice p4 W.us.length q4, u5] 29)).alloc (Obj.cells #[.int .i64 j.player, .int .i64 j.unit, .int .i64 j.kind, .int .i64 j.left] 71)) w.heap.size W u1 u2 u3 (.slice p4 W.us.length q4) u5) := (Bw.mk' W _ _ _ _ _ rfl).below (n := w.heap.size + 1) ((Below.refl _ _).alloc (by simp) _) (Nat.lt_succ_self _)
 have J0 : Hid (Jbc ((w.alloc (Obj.cells #[.int .i64 W.turn, .int .i64 W.next, .int .i64 W.wide, .int .i64 W.high, u1, u2, u3, .slice p4 W.us.length q4, u5] 29)).alloc (Obj.cells #[.int .i64 j.player, .int .i64 j.unit, .int .i64 j.kind, .int .i64 j.left] 71)) ⟨w.heap.size + 1, 0, none⟩ j) := Jbc.mk' j (by simp)
 generalize ((w.alloc (Obj.cells #[.int .i64 W.turn, .int .i64 W.next, .int .i64 W.wide, .int .i64 W.high, u1, u2, u3, .slice p4 W.us.length q4, u5] 29)).alloc (Obj.cells #[.int .i64 j.player, .int .i64 j.unit, .int .i64 j.kind, .int .i64 j.left] 71)) = w0 at *
 generalize w.heap.size + 1 = zj at *
 refine (wfind_any _ W j.unit w0 (H.out.below B0.out)).mono ?_
 rintro e w1 ⟨r, rfl, hf, hb1⟩
 have B1 : Hid (Below w.heap.size w w1) := B0.out.trans (hb1.mono B0.out.size)
 have X1 : Hid (Bw w1 w.heap.size W u1 u2 u3 (.slice p4 W.us.length q4) u5) := X0.out.below hb1 X0.out.lt
 have J1 : Hid (Jbc w1 ⟨zj, 0, none⟩ j) := J0.out.below hb1 J0.out.lt
 clear hb1 X0 J0 B0
 rcases find_fst hf with ⟨rfl, hfn⟩ | ⟨n, u, rfl, hn, hfs⟩
 ·have F6 : Hid (Wd.jobFault ks W j = 6) := jf6 hfn
  clear hf hfn
  go_wp2
  go_ret
  exact ⟨_, rfl, by rw [F6.out]; exact Er.no (by decide), B1.out⟩
 ·have hnl : n < W.us.length := (List.getElem?_eq_some_iff.1 hn).1
  have hni : (n : Int) < (W.us.length : Int) := by omega
  have hn0 : ¬ (n : Int) < 0 := by omega
  have HF : Hid (W.us.find? (fun u => u.id == j.unit) = some u) := hfs
  obtain ⟨x, rfl, hx, hcell⟩ := UC.out (by intro e; rw [e] at hnl; simp at hnl)
  obtain ⟨d0, d1, d2, d3, d4, d5, d6, d7⟩ := (hcell n u hn).below B1.out (by rw [add_block]; exact hx)
  have hku := HA.out u (List.mem_of_getElem? hn)
  obtain ⟨kn, ek⟩ : ∃ kn : Nat, u.kind = kn := ⟨u.kind.toNat, by omega⟩
  have hkn : kn < ks.length := by omega
  have hkni : (kn : Int) < (ks.length : Int) := by omega
  obtain ⟨k, hkk⟩ : ∃ k, ks[kn]? = some k := ⟨_, List.getElem?_eq_getElem hkn⟩
  have HK : Hid (ks[u.kind.toNat]? = some k) := by unfold Hid; rw [ek, Int.toNat_natCast]; exact hkk
  obtain ⟨xk, rfl, hxk, hkc⟩ := KK.out (by intro e; rw [e] at hkn; simp at hkn)
  have KC1 : Hid (Kc w1 (xk.add (kn * 11)) k) := (hkc kn k hkk).below B1.out (by rw [add_block]; exact hxk)
  have x7 := X1.out.c7
  have EK : Hid (u.kind = kn) := ek
  clear hf hfs hcell hx hn hku hkc hxk hkk ek
  go_upto_region 5 with fail
  have U2 : Hid (Unc (w1.alloc (Obj.cells #[.int .i64 u.id, .int .i64 u.player, .int .i64 u.kind, .int .i64 u.at_, .int .i64 u.life, .int .i64 u.load, .int .i64 u.task, .int .i64 u.goal] 44)) ⟨w1.heap.size, 0, none⟩ u) := Unc.mk' u rfl
  have BA : Hid (Below w1.heap.size w1 (w1.alloc (Obj.cells #[.int .i64 u.id, .int .i64 u.player, .int .i64 u.kind, .int .i64 u.at_, .int .i64 u.life, .int .i64 u.load, .int .i64 u.task, .int .i64 u.goal] 44))) := (Below.refl _ _).alloc (Nat.le_refl _) _
  generalize (w1.alloc (Obj.cells #[.int .i64 u.id, .int .i64 u.player, .int .i64 u.kind, .int .i64 u.at_, .int .i64 u.life, .int .i64 u.load, .int .i64 u.task, .int .i64 u.goal] 44)) = w2 at *
  have B2 : Hid (Below w.heap.size w w2) := B1.out.trans (BA.out.mono B1.out.size)
  have J2 : Hid (Jbc w2 ⟨zj, 0, none⟩ j) := J1.out.below BA.out J1.out.lt
  have KC2 : Hid (Kc w2 (xk.add (kn * 11)) k) := KC1.out.below BA.out KC1.out.lt
  clear d0 d1 d2 d3 d4 d5 d6 d7 x7 X1 J1 KC1 BA B1
  generalize w1.heap.size = zu at *
  obtain ⟨y0, y1, y2, y3, y4, y5, y6, y7⟩ := U2.out
  rw [EK.out] at y2
  obtain ⟨j0, j1, j2, j3⟩ := J2.out
  obtain ⟨l0, l1, l2, l3, l4, l5, l6, l7, l8, l9, l10⟩ := KC2.out
  simp only [Nat.zero_add] at y1 y2 y3 y4 y5 y6 y7 j1 j2 j3
  by_cases hp : u.player = j.player
  ·cases ht : k.t with
   | false =>
    have F7 : Hid (Wd.jobFault ks W j = 7) := jf7 HF.out HK.out (.inr ht)
    rw [ht] at l10
    rw [hp] at y1
    clear ht
    go_wp2
    go_ret
    exact ⟨_, rfl, by rw [F7.out]; exact Er.no (by decide), B2.out⟩
   | true =>
    obtain ⟨b4, hb4⟩ : ∃ b, decide (0 ≤ j.kind ∧ j.kind < (ks.length : Int)) = b := ⟨_, rfl⟩
    obtain ⟨b5, hb5⟩ : ∃ b, decide (1 ≤ j.left ∧ j.left ≤ 1000) = b := ⟨_, rfl⟩
    have HB : Hid (decide (0 ≤ j.kind ∧ j.kind < (ks.length : Int)) = b4 ∧ decide (1 ≤ j.left ∧ j.left ≤ 1000) = b5) := ⟨hb4, hb5⟩
    have HPT : Hid (u.player = j.player ∧ k.t = true) := ⟨hp, ht⟩
    rw [ht] at l10
    rw [hp] at y1
    clear ht
    go_wp2_with fail
    refine (isone_kinds _ _ _ _ _ (by omega)).mono ?_
    rintro e w3 ⟨rfl, hww⟩
    obtain rfl := hww.symm
    rw [hb4]
    clear hb4
    cases b4 with
    | false =>
     have F1 : Hid (Wd.jobFault ks W j = 1) := jf1 HF.out HK.out HPT.out.1 HPT.out.2 (.inl HB.out.1)
     clear hb5
     go_wp2
     go_ret
     exact ⟨_, rfl, by rw [F1.out]; exact Er.no (by decide), B2.out⟩
    | true =>
     go_wp2_with fail
     refine (wwithin_any j.left 1 1000 _).mono ?_
     rintro e w4 ⟨rfl, hww⟩
     obtain rfl := hww.symm
     rw [hb5]
     clear hb5
     cases b5 with
     | false =>
      have F1 : Hid (Wd.jobFault ks W j = 1) := jf1 HF.out HK.out HPT.out.1 HPT.out.2 (.inr HB.out.2)
      go_wp2
      go_ret
      exact ⟨_, rfl, by rw [F1.out]; exact Er.no (by decide), B2.out⟩
     | true =>
      have F0 : Hid (Wd.jobFault ks W j = 0) := jf0 HF.out HK.out HPT.out.1 HPT.out.2 HB.out.1 HB.out.2
      go_wp2
      go_ret
      exact ⟨_, rfl, by rw [F0.out]; exact Er.nil, B2.out⟩
  ·have F7 : Hid (Wd.jobFault ks W j = 7) := jf7 HF.out HK.out (.inl hp)
   go_wp2
   go_ret
   exact ⟨_, rfl, by rw [F7.out]; exact Er.no (by decide), B2.out⟩
end Go.Proofs.YteieikgkmfglaaaGreatDoor
namespace Go.Proofs.YteieikgkmfglaaaGreatDoor
open Go.RowKit
set_option linter.unusedVariables false
set_option maxHeartbeats 400000 in
theorem kwin_any (x a b : Int) (w : World) :
  Calls Tryz.prog 162 #[.int .i64 x, .int .i64 a, .int .i64 b] w fun e w' => e = .returned (.bool (decide (a ≤ x ∧ x ≤ b))) ∧ w' = w := by
 by_cases h1 : a ≤ x
 ·by_cases h2 : x ≤ b
  ·go_enter Tryz.func162, Tryz.ntmps162
   go_wp2
   go_ret
   exact ⟨by simp [h1, h2], rfl⟩
  ·go_enter Tryz.func162, Tryz.ntmps162
   go_wp2
   go_ret
   exact ⟨by simp; omega, rfl⟩
 ·go_enter Tryz.func162, Tryz.ntmps162
  go_wp2
  go_ret
  exact ⟨by simp; omega, rfl⟩
theorem kwin_yes (x a b : Int) (w : World) (h1 : a ≤ x) (h2 : x ≤ b) :
  Calls Tryz.prog 162 #[.int .i64 x, .int .i64 a, .int .i64 b] w fun e w' => e = .returned (.bool true) ∧ w' = w :=
 (kwin_any x a b w).mono fun e w' ⟨h, hw⟩ => ⟨by rw [h, decide_eq_true ⟨h1, h2⟩], hw⟩
theorem kwin_no (x a b : Int) (w : World) (h : x < a ∨ b < x) :
  Calls Tryz.prog 162 #[.int .i64 x, .int .i64 a, .int .i64 b] w fun e w' => e = .returned (.bool false) ∧ w' = w :=
 (kwin_any x a b w).mono fun e w' ⟨h', hw⟩ => ⟨by rw [h', decide_eq_false (by omega)], hw⟩
/-- r is where the first is; -1: there is none. -/
def FstK (p : KV → Bool) (ks : List KV) (r : Int) : Prop := (r = -1 ∧ ks.any p = false) ∨ ∃ (k : Nat) (x : KV), r = k ∧ ks[k]? = some x ∧ p x = true ∧ (ks.take k).any p = false
theorem anyk_next {p : KV → Bool} {ks : List KV} {k : Nat} {x : KV} (h : ks[k]? = some x) : (ks.take (k + 1)).any p = ((ks.take k).any p || p x) := by
 obtain ⟨hi, e⟩ := List.getElem?_eq_some_iff.1 h
 rw [List.take_succ_eq_append_getElem hi, List.any_append, e]
 simp
set_option maxHeartbeats 2000000 in
theorem idxk_any (K : Nat) (eK : ∀ args w, (callFunc K args).run Tryz.prog w = .ok (.enter K args) w) (u : Value) (cs : Array Value) (ks : List KV) (p : KV → Bool) (w : World) (hu : Kl w u ks)
  (hp : ∀ W, Below w.heap.size w W → ∀ k : KV, Calls Tryz.prog K (#[k.val] ++ cs) W fun e w' => e = .returned (.bool (p k)) ∧ Below W.heap.size W w') :
  Calls Tryz.prog 164 #[u, .func (Fn.func K) #[] cs] w fun e w' => ∃ r : Int, e = .returned (.int .i64 r) ∧ FstK p ks r ∧ Below w.heap.size w w' := by
 obtain ⟨a, c, rfl, c1, c2, ca⟩ := hu
 have Ca : Hid (ks ≠ [] → ∃ x, a = some x ∧ x.block < w.heap.size ∧ ∀ (i : Nat) k, ks[i]? = some k → Kc w (x.add (i * 11)) k) := ca
 have Hp : Hid (∀ W, Below w.heap.size w W → ∀ k : KV, Calls Tryz.prog K (#[k.val] ++ cs) W fun e w' => e = .returned (.bool (p k)) ∧ Below W.heap.size W w') := hp
 clear ca hp
 go_enter Tryz.func164, Tryz.ntmps164
 go_wp2
 go_loopw [8] (fun i W' => ∃ k : Nat, k ≤ ks.length ∧ i = .int .i64 (k : Nat) ∧ (ks.take k).any p = false ∧ Below w.heap.size w W') (fun i _ => ks.length - (intOf i).toNat)
 case atStart => exact ⟨0, Nat.zero_le _, rfl, by simp, Below.refl _ _⟩
 case round =>
  obtain ⟨k, hk, rfl, ht, hb⟩ := hrel
  have Ht : Hid ((ks.take k).any p = false) := ht
  have B : Hid (Below w.heap.size w wr) := hb
  clear ht hb
  by_cases h0 : k = ks.length
  ·subst h0
   go_wp2
   go_ret
   refine ⟨_, rfl, .inl ⟨rfl, ?_⟩, B⟩
   have := Ht.out
   rw [List.take_of_length_le (Nat.le_refl _)] at this
   exact this
  ·have hkx : k < ks.length := by omega
   obtain ⟨x, rfl, hx1, hx⟩ := Ca.out (by intro h; rw [h] at hkx; simp at hkx)
   obtain ⟨y, hy⟩ : ∃ y, ks[k]? = some y := ⟨_, List.getElem?_eq_getElem hkx⟩
   have Yc := (hx k y hy).below B.out (by rw [add_block]; exact hx1)
   obtain ⟨q0, q1, q2, q3, q4, q5, q6, q7, q8, q9, q10⟩ := Yc
   have hc := Hp.out wr B.out y
   have Hs : Hid _ := anyk_next (p := p) hy
   have Hm : Hid (ks[k]? = some y) := hy
   clear hx hx1 hy
   cases hy : p y with
   | true =>
    rw [hy] at hc
    have Hc : Hid (Calls Tryz.prog K (#[y.val] ++ cs) wr fun e w' => e = .returned (.bool true) ∧ Below wr.heap.size wr w') := hc
    have Hy : Hid (p y = true) := hy
    clear hc hy
    go_wp2_with fail
    refine Calls.mono Hc.out ?_
    rintro e w1 ⟨rfl, b1⟩
    have B1 : Hid (Below w.heap.size w w1) := B.out.trans (b1.mono B.out.size)
    clear b1
    go_wp2
    go_ret
    exact ⟨_, rfl, .inr ⟨k, y, rfl, Hm, Hy, Ht⟩, B1⟩
   | false =>
    rw [hy] at hc
    have Hc : Hid (Calls Tryz.prog K (#[y.val] ++ cs) wr fun e w' => e = .returned (.bool false) ∧ Below wr.heap.size wr w') := hc
    have Hy : Hid (p y = false) := hy
    clear hc hy
    go_wp2_with fail
    refine Calls.mono Hc.out ?_
    rintro e w1 ⟨rfl, b1⟩
    have B1 : Hid (Below w.heap.size w w1) := B.out.trans (b1.mono B.out.size)
    clear b1
    go_wp2
    go_round
    case rel => exact ⟨k + 1, by omega, by go_num, by have := Hs.out; rw [Ht.out, Hy.out] at this; exact this, B1⟩
    case measure => simp [intOf]; omega
set_option maxHeartbeats 400000 in
theorem findc_any (k : KV) (s : ByteArray) (b : Nat) (w : World) (hc : w.cell? ⟨b, 0, none⟩ = some (.string s)) :
  Calls Tryz.prog 165 #[k.val, .pointer (some ⟨b, 0, none⟩)] w fun e w' => e = .returned (.bool (k.k.name == s.data.toList)) ∧ Below w.heap.size w w' := by
 obtain ⟨kb, n0, n1, n2, n3, n4, n5, n6, n7, kf, kt⟩ := k
 have hl := cell_lt hc
 unfold KV.val
 go_enter Tryz.func165, Tryz.ntmps165
 go_wp2
 go_ret
 refine ⟨?_, (Below.refl _ _).alloc (Nat.le_refl _) _⟩
 show Ending.returned (.bool (kb.toList == s.toList)) = _
 rw [ByteArray.toList_eq, ByteArray.toList_eq]
 rfl
theorem efind1 : ∀ args w, (callFunc 165 args).run Tryz.prog w = .ok (.enter 165 args) w := by
 intro args w
 go_simp
set_option maxHeartbeats 400000 in
/-- where a name is. -/
theorem find_any (v : Value) (ks : List KV) (s : ByteArray) (w : World) (h : Kl w v ks) :
  Calls Tryz.prog 147 #[v, .string s] w fun e w' => ∃ r : Int, e = .returned (.int .i64 r) ∧ FstK (fun k => k.k.name == s.data.toList) ks r ∧ Below w.heap.size w w' := by
 have K0 : Hid (Kl w v ks) := h
 obtain ⟨a, c, rfl, c1, c2, -⟩ := h
 go_enter Tryz.func147, Tryz.ntmps147
 go_wp2_with fail
 have B1 : Below w.heap.size w (w.alloc (Obj.cells #[.string s] 9)) := (Below.refl _ _).alloc (Nat.le_refl _) _
 have hc : (w.alloc (Obj.cells #[.string s] 9)).cell? ⟨w.heap.size, 0, none⟩ = some (.string s) := by simp
 have hz : (w.alloc (Obj.cells #[.string s] 9)).heap.size = w.heap.size + 1 := by simp
 refine (idxk_any 165 efind1 _ _ ks (fun k => k.k.name == s.data.toList) _ (K0.out.below B1) ?_).mono ?_
 ·intro W hW k
  exact findc_any k s w.heap.size W (by rw [hW.cell (p := ⟨w.heap.size, 0, none⟩) (by rw [hz]; exact Nat.lt_succ_self _)]; exact hc)
 ·rintro e w1 ⟨r, rfl, hr, b1⟩
  have B2 : Hid (Below w.heap.size w w1) := B1.trans (b1.mono B1.size)
  have Hr : Hid (FstK (fun k => k.k.name == s.data.toList) ks r) := hr
  clear hr b1 B1 hc hz
  go_wp2
  go_ret
  exact ⟨r, rfl, Hr, B2⟩
end Go.Proofs.YteieikgkmfglaaaGreatDoor
namespace Go.Proofs.YteieikgkmfglaaaGreatDoor
open Go.RowKit
set_option linter.unusedVariables false
def KV.arr (k : KV) : Value := .agg #[.int .i64 k.n0, .int .i64 k.n1, .int .i64 k.n2, .int .i64 k.n3, .int .i64 k.n4, .int .i64 k.n5, .int .i64 k.n6, .int .i64 k.n7]
set_option maxHeartbeats 1000000 in
theorem nums_any (k : KV) (w : World) :
  Calls Tryz.prog 166 #[k.val] w fun e w' => e = .returned k.arr ∧ Below w.heap.size w w' := by
 obtain ⟨kb, n0, n1, n2, n3, n4, n5, n6, n7, kf, kt⟩ := k
 unfold KV.val KV.arr
 go_enter Tryz.func166, Tryz.ntmps166
 go_wp2
 refine bodyPost_ret (v := .agg #[.int .i64 n0, .int .i64 n1, .int .i64 n2, .int .i64 n3, .int .i64 n4, .int .i64 n5, .int .i64 n6, .int .i64 n7]) (by simp [results, Tryz.results166, go_sem]) rfl ⟨rfl, ?_⟩
 exact ((Below.refl _ _).alloc (Nat.le_refl _) _).alloc (by simp) _
theorem idx8 (cs : Array Value) (p : Nat) (x : Int) (hp : p < 8) (h : cs[p]? = some (.int .i64 x)) (W : World) : (Instr.index 213 (.agg cs) (.int .i64 (p : Int))).run Tryz.prog W = .ok (.int .i64 x) W := by
 have h1 : (0 : Int) ≤ p ∧ (p : Int) < 8 := by omega
 have hs : p < cs.size := (Array.getElem?_eq_some_iff.1 h).1
 unfold Instr.index
 simp [go_sem, h1]
 rw [if_pos hp, h]
 simp [go_sem]
def KV.ns (k : KV) : List Int := [k.n0, k.n1, k.n2, k.n3, k.n4, k.n5, k.n6, k.n7]
set_option maxRecDepth 100000 in
set_option maxHeartbeats 4000000 in
theorem inb_any (k : KV) (w : World) :
  Calls Tryz.prog 148 #[k.val] w fun e w' => e = .returned (.bool (decide (Kd.numsFault k.ns = 0))) ∧ Below w.heap.size w w' := by
 have NA := nums_any k
 obtain ⟨kb, n0, n1, n2, n3, n4, n5, n6, n7, kf, kt⟩ := k
 have R : Hid (Kd.numsFault (KV.ns ⟨kb, n0, n1, n2, n3, n4, n5, n6, n7, kf, kt⟩) = if [n0, n1, n2, n3, n4, n5, n6, n7].any (fun x => decide (x < 0 ∨ 1000 < x)) then 1 else if n0 < 1 ∨ 4 < n4 ∨ 12 < n2 ∨ 12 < n3 then 1 else 0) := rfl
 generalize Kd.numsFault (KV.ns ⟨kb, n0, n1, n2, n3, n4, n5, n6, n7, kf, kt⟩) = r at *
 unfold KV.val KV.arr at *
 simp only at NA
 have NA' : Hid (∀ w : World, Calls Tryz.prog 166 #[.agg #[.string kb, .int .i64 n0, .int .i64 n1, .int .i64 n2, .int .i64 n3, .int .i64 n4, .int .i64 n5, .int .i64 n6, .int .i64 n7, .bool kf, .bool kt]] w fun e w' => e = .returned (.agg #[.int .i64 n0, .int .i64 n1, .int .i64 n2, .int .i64 n3, .int .i64 n4, .int .i64 n5, .int .i64 n6, .int .i64 n7]) ∧ Below w.heap.size w w') := NA
 clear NA
 go_enter Tryz.func148, Tryz.ntmps148
 have B1 : Hid (Below w.heap.size w (w.alloc (Obj.cells #[.string kb, .int .i64 n0, .int .i64 n1, .int .i64 n2, .int .i64 n3, .int .i64 n4, .int .i64 n5, .int .i64 n6, .int .i64 n7, .bool kf, .bool kt] 68))) := (Below.refl _ _).alloc (Nat.le_refl _) _
 have X1 : Hid (Kc (w.alloc (Obj.cells #[.string kb, .int .i64 n0, .int .i64 n1, .int .i64 n2, .int .i64 n3, .int .i64 n4, .int .i64 n5, .int .i64 n6, .int .i64 n7, .bool kf, .bool kt] 68)) ⟨w.heap.size, 0, none⟩ ⟨kb, n0, n1, n2, n3, n4, n5, n6, n7, kf, kt⟩) := Kc.mk' ⟨kb, n0, n1, n2, n3, n4, n5, n6, n7, kf, kt⟩ rfl
 go_wp2_with fail
 refine (NA'.out _).mono ?_
 rintro e w2 ⟨rfl, b2⟩
 have X2 : Hid (Kc w2 ⟨w.heap.size, 0, none⟩ ⟨kb, n0, n1, n2, n3, n4, n5, n6, n7, kf, kt⟩) := X1.out.below b2 X1.out.lt
 have B2 : Hid (Below w.heap.size w w2) := B1.out.trans (b2.mono B1.out.size)
 clear b2 B1 X1 NA'
 obtain ⟨ns, hns⟩ : ∃ ns, [n0, n1, n2, n3, n4, n5, n6, n7] = ns := ⟨_, rfl⟩
 have Hns : Hid ([n0, n1, n2, n3, n4, n5, n6, n7] = ns) := hns
 have nl : Hid (ns.length = 8) := by rw [← hns]; rfl
 rw [hns] at R
 clear hns
 go_wp2_with fail
 go_loop [7] (fun j => ∃ p : Nat, p ≤ 8 ∧ j = .int .i64 (p : Nat) ∧ (ns.take p).any (fun x => decide (x < 0 ∨ 1000 < x)) = false) (fun j => 8 - (intOf j).toNat)
 case atStart => exact ⟨0, Nat.zero_le _, rfl, by simp⟩
 case round =>
  obtain ⟨p, hp, rfl, hany⟩ := hrel
  have An : Hid ((ns.take p).any (fun x => decide (x < 0 ∨ 1000 < x)) = false) := hany
  clear hany
  by_cases hp8 : p = 8
  ·have R2 : Hid (r = if n0 < 1 ∨ 4 < n4 ∨ 12 < n2 ∨ 12 < n3 then 1 else 0) := by
    have h9 := An.out
    rw [List.take_of_length_le (by rw [nl.out, hp8]; exact Nat.le_refl _)] at h9
    unfold Hid
    rw [R.out, if_neg (by rw [h9]; decide)]
   have z1 : w2.cell? ⟨w.heap.size, 1, none⟩ = some (.int .i64 n0) := X2.out.c1
   have z3 : w2.cell? ⟨w.heap.size, 3, none⟩ = some (.int .i64 n2) := X2.out.c3
   have z4 : w2.cell? ⟨w.heap.size, 4, none⟩ = some (.int .i64 n3) := X2.out.c4
   have z5 : w2.cell? ⟨w.heap.size, 5, none⟩ = some (.int .i64 n4) := X2.out.c5
   subst hp8
   clear R An X2
   by_cases t1 : 0 < n0
   ·by_cases t2 : n4 ≤ 4
    ·by_cases t3 : n2 ≤ 12
     ·by_cases t4 : n3 ≤ 12
      ·have E : Hid (decide (r = 0) = true) := by unfold Hid; rw [R2.out, if_neg (by omega)]; rfl
       go_wp2
       go_ret
       exact ⟨by rw [E.out]; rfl, B2⟩
      ·have E : Hid (decide (r = 0) = false) := by unfold Hid; rw [R2.out, if_pos (by omega)]; rfl
       go_wp2
       go_ret
       exact ⟨by rw [E.out]; rfl, B2⟩
     ·have E : Hid (decide (r = 0) = false) := by unfold Hid; rw [R2.out, if_pos (by omega)]; rfl
      go_wp2
      go_ret
      exact ⟨by rw [E.out]; rfl, B2⟩
    ·have E : Hid (decide (r = 0) = false) := by unfold Hid; rw [R2.out, if_pos (by omega)]; rfl
     go_wp2
     go_ret
     exact ⟨by rw [E.out]; rfl, B2⟩
   ·have E : Hid (decide (r = 0) = false) := by unfold Hid; rw [R2.out, if_pos (by omega)]; rfl
    go_wp2
    go_ret
    exact ⟨by rw [E.out]; rfl, B2⟩
  ·have hp9 : p < 8 := by omega
   obtain ⟨x, hx⟩ : ∃ x, ns[p]? = some x := ⟨_, List.getElem?_eq_getElem (by rw [nl.out]; exact hp9)⟩
   have As : Hid ((ns.take (p + 1)).any (fun x => decide (x < 0 ∨ 1000 < x)) = decide (x < 0 ∨ 1000 < x)) := by
    obtain ⟨hi, e⟩ := List.getElem?_eq_some_iff.1 hx
    unfold Hid
    rw [List.take_succ_eq_append_getElem hi, List.any_append, An.out, e]
    simp
   have ax : (#[.int .i64 n0, .int .i64 n1, .int .i64 n2, .int .i64 n3, .int .i64 n4, .int .i64 n5, .int .i64 n6, .int .i64 n7] : Array Value)[p]? = some (.int .i64 x) := by
    have h9 : (ns.map (Value.int .i64)).toArray[p]? = some (.int .i64 x) := by simp [hx]
    rw [← Hns.out] at h9
    exact h9
   have hix := idx8 _ p x hp9 ax
   clear ax
   have Mx : Hid (x ∈ ns) := List.mem_of_getElem? hx
   clear hx
   by_cases t : x < 0 ∨ 1000 < x
   ·have E : Hid (decide (r = 0) = false) := by
     unfold Hid
     rw [R.out, if_pos (List.any_eq_true.2 ⟨x, Mx.out, by simpa using t⟩)]; rfl
    go_wp2_with (go_at_call 162; refine (kwin_no _ _ _ _ t).mono ?_; rintro e w' ⟨rfl, rfl⟩)
    go_ret
    exact ⟨by rw [E.out]; rfl, B2⟩
   ·have A2 : Hid ((ns.take (p + 1)).any (fun x => decide (x < 0 ∨ 1000 < x)) = false) := by unfold Hid; rw [As.out, decide_eq_false t]
    go_wp2_with (go_at_call 162; refine (kwin_yes _ _ _ _ (by omega) (by omega)).mono ?_; rintro e w' ⟨rfl, rfl⟩)
    go_round
    case rel => exact ⟨p + 1, by omega, by go_num, A2⟩
    case measure => simp [intOf]; omega
end Go.Proofs.YteieikgkmfglaaaGreatDoor
namespace Go.Proofs.YteieikgkmfglaaaGreatDoor.Kd
set_option linter.unusedVariables false
/-- a rune that is none of a to z. -/
def otherR (r : Nat) : Bool := decide ((r : Int) < 97) || decide (122 < (r : Int))
theorem other_big {r : Nat} (h : 128 ≤ r) : otherR r = true := by
 unfold otherR
 rw [decide_eq_true (show (122 : Int) < (r : Int) by omega), Bool.or_true]
theorem decode_small (s : ByteArray) (i : Nat) (h : (s.get! i).toNat < 128) : Utf8.decode s i = ((s.get! i).toNat, 1) := by
 unfold Utf8.decode
 simp only [Nat.add_zero]
 rw [if_pos h]
theorem decode_big (s : ByteArray) (i : Nat) (h : ¬ (s.get! i).toNat < 128) : 128 ≤ (Utf8.decode s i).1 := by
 unfold Utf8.decode
 simp only [Nat.add_zero]
 rw [if_neg h]
 simp only [Utf8.runeError]
 split
 ·split
  ·rename_i h2; exact h2
  ·simp
 ·split
  ·split
   ·rename_i h2
    simp only [Bool.and_eq_true, decide_eq_true_eq] at h2
    have := h2.1
    simp only
    omega
   ·simp
  ·split
   ·split
    ·rename_i h2
     simp only [Bool.and_eq_true, decide_eq_true_eq] at h2
     have := h2.1
     simp only
     omega
    ·simp
   ·simp
theorem other_letter (b : UInt8) (h : b.toNat < 128) : otherR b.toNat = !isLetter b := by
 unfold otherR isLetter
 by_cases h1 : 97 ≤ b.toNat
 ·by_cases h2 : b.toNat ≤ 122
  ·rw [decide_eq_true h1, decide_eq_true h2, decide_eq_false (show ¬ (b.toNat : Int) < 97 by omega), decide_eq_false (show ¬ 122 < (b.toNat : Int) by omega)]; rfl
  ·rw [decide_eq_true h1, decide_eq_false h2, decide_eq_false (show ¬ (b.toNat : Int) < 97 by omega), decide_eq_true (show 122 < (b.toNat : Int) by omega)]; rfl
 ·rw [decide_eq_false h1, decide_eq_true (show (b.toNat : Int) < 97 by omega)]; rfl
theorem get_at (s : ByteArray) (i : Nat) (h : i < s.size) : s.get! i = s.data.toList[i]'h := by
 show s.data[i]! = _
 rw [getElem!_pos s.data i h]
 simp
theorem other_from (s : ByteArray) : ∀ (f pos : Nat), s.size ≤ pos + f → decide (0 ≤ Lib.idxFuncFrom otherR true s f pos) = !((s.data.toList.drop pos).all isLetter)
 | 0, pos, h => by
  rw [List.drop_eq_nil_of_le (by show s.size ≤ pos; omega)]
  rfl
 | f + 1, pos, h => by
  unfold Lib.idxFuncFrom
  by_cases hp : pos < s.size
  ·have hl : pos < s.data.toList.length := hp
   rw [if_pos hp, List.drop_eq_getElem_cons hl, List.all_cons, ← get_at s pos hp]
   by_cases hb : (s.get! pos).toNat < 128
   ·rw [decode_small s pos hb]
    simp only
    rw [other_letter _ hb]
    cases hi : isLetter (s.get! pos) with
    | true =>
     rw [if_neg (by simp), Bool.true_and]
     exact other_from s f (pos + 1) (by omega)
    | false =>
     rw [if_pos (by simp), decide_eq_true (by omega)]
     simp
   ·rw [if_pos (other_big (decode_big s pos hb)), decide_eq_true (by omega)]
    have : isLetter (s.get! pos) = false := by
     unfold isLetter
     rw [decide_eq_false (show ¬ (s.get! pos).toNat ≤ 122 by omega), Bool.and_false]
    rw [this]
    rfl
  ·rw [if_neg hp, List.drop_eq_nil_of_le (by show s.size ≤ pos; omega)]
   rfl
theorem other_name (s : ByteArray) : decide (0 ≤ Lib.idxFunc otherR true s) = !(s.data.toList.all isLetter) := by
 have := other_from s s.size 0 (by omega)
 rw [List.drop_zero] at this
 exact this
end Go.Proofs.YteieikgkmfglaaaGreatDoor.Kd
