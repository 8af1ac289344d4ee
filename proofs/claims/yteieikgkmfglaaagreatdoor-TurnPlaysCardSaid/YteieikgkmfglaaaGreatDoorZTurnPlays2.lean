/- slices.IndexFunc and ContainsFunc, of any function that tells yes or no and turns nothing. · Worlds: a unit by its id; whether a list has one of that number. · An error that is told. · Fields: what is wrong with a cell, with a field. · Fields: what Check says. · Fields: what every call says first. · Lists of integers that are written out. · Fields: how far it is onto a cell (cut out of FdN, which wants field.sides). · Worlds: whether one may stand on a cell. · A region whose operations read, and call what makes memory, ahead of a tail in one order: it may be walked in the text's order. -/
import Derived.Test.YteieikgkmfglaaaGreatDoorZTurnPlays1
import Derived.Test.YteieikgkmfglaaaGreatDoorRows
import Derived.StillTail
import Derived.Below
namespace Go.Proofs.YteieikgkmfglaaaGreatDoor
open Go.RowKit
set_option linter.unusedVariables false

theorem any_next {p : Int → Bool} {xs : List Int} {k : Nat} (h : k < xs.length) : (xs.take (k + 1)).any p = ((xs.take k).any p || p xs[k]) := by
  rw [List.take_succ_eq_append_getElem h, List.any_append]
  simp

/-- r is where the first is; -1: there is none. -/
def Fst (p : Int → Bool) (xs : List Int) (r : Int) : Prop := (r = -1 ∧ xs.any p = false) ∨ ∃ (k : Nat) (x : Int), r = k ∧ xs[k]? = some x ∧ p x = true ∧ (xs.take k).any p = false

set_option maxHeartbeats 1000000 in
theorem idxf_any (K : Nat) (eK : ∀ args w, (callFunc K args).run Tryz.prog w = .ok (.enter K args) w) (u : Value) (cs : Array Value) (xs : List Int) (p : Int → Bool) (w : World) (hu : Ro w u xs)
    (hp : ∀ m, ∀ x ∈ xs, Calls Tryz.prog K (#[.int .i64 x] ++ cs) (w.drewN m) fun e w' => e = .returned (.bool (p x)) ∧ ∃ q, w' = w.drewN q) :
    Calls Tryz.prog 67 #[u, .func (Fn.func K) #[] cs] w fun e w' => ∃ r : Int, e = .returned (.int .i64 r) ∧ Fst p xs r ∧ ∃ q, w' = w.drewN q := by
  obtain ⟨a, c, rfl, c1, c2, ca⟩ := hu
  have Ca : Hid (Cells w a xs) := ca
  have Hp : Hid (∀ m, ∀ x ∈ xs, Calls Tryz.prog K (#[.int .i64 x] ++ cs) (w.drewN m) fun e w' => e = .returned (.bool (p x)) ∧ ∃ q, w' = w.drewN q) := hp
  clear ca hp
  go_enter Tryz.func67, Tryz.ntmps67
  go_wp2
  go_loopw [8] (fun i W' => ∃ k q : Nat, k ≤ xs.length ∧ i = .int .i64 (k : Nat) ∧ (xs.take k).any p = false ∧ W' = w.drewN q) (fun i _ => xs.length - (intOf i).toNat)
  case atStart => exact ⟨0, 0, Nat.zero_le _, rfl, by simp, rfl⟩
  case round =>
    obtain ⟨k, q, hk, rfl, ht, rfl⟩ := hrel
    have Ht : Hid ((xs.take k).any p = false) := ht
    clear ht
    by_cases h0 : k = xs.length
    · subst h0
      go_wp2
      go_ret
      refine ⟨_, rfl, .inl ⟨rfl, ?_⟩, _, rfl⟩
      have := Ht.out
      rw [List.take_of_length_le (Nat.le_refl _)] at this
      exact this
    · have hkx : k < xs.length := by omega
      obtain ⟨x, rfl, -, hx⟩ := Ca.out (by intro h; rw [h] at hkx; simp at hkx)
      have cx : (w.drewN q).cell? (x.add k) = some (.int .i64 xs[k]) := hx k xs[k] (List.getElem?_eq_getElem hkx)
      have hc := Hp.out q xs[k] (List.getElem_mem hkx)
      have Hs : Hid _ := any_next (p := p) hkx
      have Hm : Hid (xs[k]? = some xs[k]) := List.getElem?_eq_getElem hkx
      generalize xs[k] = y at *
      generalize w.drewN q = w1 at *
      clear hx
      cases hy : p y with
      | true =>
        rw [hy] at hc
        have Hc : Hid (Calls Tryz.prog K (#[.int .i64 y] ++ cs) w1 fun e w' => e = .returned (.bool true) ∧ ∃ q, w' = w.drewN q) := hc
        have Hy : Hid (p y = true) := hy
        clear hc hy
        go_wp2_with fail
        refine Calls.mono Hc.out ?_
        rintro e w1 ⟨rfl, q1, rfl⟩
        go_wp2
        go_ret
        exact ⟨_, rfl, .inr ⟨k, y, rfl, Hm, Hy, Ht⟩, q1, rfl⟩
      | false =>
        rw [hy] at hc
        have Hc : Hid (Calls Tryz.prog K (#[.int .i64 y] ++ cs) w1 fun e w' => e = .returned (.bool false) ∧ ∃ q, w' = w.drewN q) := hc
        have Hy : Hid (p y = false) := hy
        clear hc hy
        go_wp2_with fail
        refine Calls.mono Hc.out ?_
        rintro e w1 ⟨rfl, q1, rfl⟩
        go_wp2
        go_round
        case rel => exact ⟨k + 1, q1, by omega, by go_num, by have := Hs.out; rw [Ht.out, Hy.out] at this; exact this, rfl⟩
        case measure => simp [intOf]; omega

theorem Fst.has {p : Int → Bool} {xs : List Int} {r : Int} (h : Fst p xs r) : decide (0 ≤ r) = xs.any p := by
  rcases h with ⟨rfl, h⟩ | ⟨k, x, rfl, h1, h2, _⟩
  · rw [h]; decide
  · rw [decide_eq_true (by omega)]
    exact (List.any_eq_true.2 ⟨x, List.mem_of_getElem? h1, h2⟩).symm

set_option maxHeartbeats 1000000 in
theorem hasf_any (K : Nat) (eK : ∀ args w, (callFunc K args).run Tryz.prog w = .ok (.enter K args) w) (u : Value) (cs : Array Value) (xs : List Int) (p : Int → Bool) (w : World) (hu : Ro w u xs)
    (hp : ∀ m, ∀ x ∈ xs, Calls Tryz.prog K (#[.int .i64 x] ++ cs) (w.drewN m) fun e w' => e = .returned (.bool (p x)) ∧ ∃ q, w' = w.drewN q) :
    Calls Tryz.prog 87 #[u, .func (Fn.func K) #[] cs] w fun e w' => e = .returned (.bool (xs.any p)) ∧ ∃ q, w' = w.drewN q := by
  have H := idxf_any K eK u cs xs p w hu hp
  have H' : Hid (Calls Tryz.prog 67 #[u, .func (Fn.func K) #[] cs] w fun e w' => ∃ r : Int, e = .returned (.int .i64 r) ∧ Fst p xs r ∧ ∃ q, w' = w.drewN q) := H
  clear H hp
  go_enter Tryz.func87, Tryz.ntmps87
  go_wp2_with fail
  refine Calls.mono H'.out ?_
  rintro e w1 ⟨r, rfl, hr, q, rfl⟩
  have Hr : Hid (decide (0 ≤ r) = xs.any p) := hr.has
  clear hr
  go_wp2
  go_ret
  exact ⟨by show Ending.returned (.bool (decide (0 ≤ r))) = _; rw [Hr.out], q, rfl⟩
end Go.Proofs.YteieikgkmfglaaaGreatDoor

namespace Go.Proofs.YteieikgkmfglaaaGreatDoor
open Go.RowKit
set_option linter.unusedVariables false

theorem FstU.one {p : UnV → Bool} {us : List UnV} {r r' : Int} (h : FstU p us r) (h' : FstU p us r') : r = r' := by
  rcases h with ⟨rfl, h1⟩ | ⟨k, x, rfl, h1, h2, h3⟩
  · rcases h' with ⟨rfl, _⟩ | ⟨k, x, rfl, g1, g2, g3⟩
    · rfl
    · have : us.any p = true := List.any_eq_true.2 ⟨x, List.mem_of_getElem? g1, g2⟩
      rw [h1] at this; cases this
  · rcases h' with ⟨rfl, g⟩ | ⟨k', x', rfl, g1, g2, g3⟩
    · have : us.any p = true := List.any_eq_true.2 ⟨x, List.mem_of_getElem? h1, h2⟩
      rw [g] at this; cases this
    · rcases Nat.lt_trichotomy k k' with hl | hl | hl
      · have : (us.take k').any p = true := List.any_eq_true.2 ⟨x, List.mem_of_getElem? (by rw [List.getElem?_take, if_pos hl]; exact h1), h2⟩
        rw [g3] at this; cases this
      · rw [hl]
      · have : (us.take k).any p = true := List.any_eq_true.2 ⟨x', List.mem_of_getElem? (by rw [List.getElem?_take, if_pos hl]; exact g1), g2⟩
        rw [h3] at this; cases this
set_option maxHeartbeats 1000000 in
theorem fid_any (u : UnV) (id : Int) (b : Nat) (w : World) (hc : w.cell? ⟨b, 0, none⟩ = some (.int .i64 id)) :
    Calls Tryz.prog 65 #[u.val, .pointer (some ⟨b, 0, none⟩)] w fun e w' => e = .returned (.bool (u.id == id)) ∧ Below w.heap.size w w' := by
  have hb : b < w.heap.size := cell_lt hc
  have hne : b ≠ w.heap.size := by omega
  unfold UnV.val
  go_enter Tryz.func65, Tryz.ntmps65
  go_wp2
  go_ret
  exact ⟨rfl, (Below.refl _ _).alloc (Nat.le_refl _) _⟩
set_option maxHeartbeats 1000000 in
theorem wfind_any (v : Value) (W : WV) (id : Int) (w : World) (h : Wl w v W) :
    Calls Tryz.prog 40 #[v, .int .i64 id] w fun e w' => ∃ r : Int, e = .returned (.int .i64 r) ∧ FstU (fun u => u.id == id) W.us r ∧ Below w.heap.size w w' := by
  have H : Hid (Wl w v W) := h
  obtain ⟨u1, u2, u3, u4, u5, rfl, -, -, -, h4, -⟩ := h
  have U : Hid (Unl w u4 W.us) := h4
  clear h4
  go_enter Tryz.func40, Tryz.ntmps40
  go_wp2_with fail
  have B0 : Hid (Below w.heap.size w ((w.alloc (Obj.cells #[.int .i64 W.turn, .int .i64 W.next, .int .i64 W.wide, .int .i64 W.high, u1, u2, u3, u4, u5] 29)).alloc (Obj.cells #[.int .i64 id] 3))) := ((Below.refl _ _).alloc (Nat.le_refl _) _).alloc (by simp) _
  have C0 : Hid (((w.alloc (Obj.cells #[.int .i64 W.turn, .int .i64 W.next, .int .i64 W.wide, .int .i64 W.high, u1, u2, u3, u4, u5] 29)).alloc (Obj.cells #[.int .i64 id] 3)).cell? ⟨w.heap.size + 1, 0, none⟩ = some (.int .i64 id)) := cell_of_new (by simp) rfl
  generalize ((w.alloc (Obj.cells #[.int .i64 W.turn, .int .i64 W.next, .int .i64 W.wide, .int .i64 W.high, u1, u2, u3, u4, u5] 29)).alloc (Obj.cells #[.int .i64 id] 3)) = w0 at *
  refine (idxu_any 65 (by intro args w; go_simp) u4 #[.pointer (some ⟨w.heap.size + 1, 0, none⟩)] W.us (fun u => u.id == id) w0 (U.out.below B0.out) (fun V hV k => fid_any k id (w.heap.size + 1) V (by rw [hV.cell (p := ⟨w.heap.size + 1, 0, none⟩) (cell_lt C0.out)]; exact C0.out))).mono ?_
  rintro e w1 ⟨r, rfl, hf, hb⟩
  have F : Hid (FstU (fun u => u.id == id) W.us r ∧ Below w.heap.size w w1) := ⟨hf, B0.out.trans (hb.mono B0.out.size)⟩
  clear hf hb
  go_wp2
  go_ret
  exact ⟨r, rfl, F.out.1, F.out.2⟩
set_option maxHeartbeats 1000000 in
theorem isone_ints (a : Option Addr) (n c : Nat) (i : Int) (w : World) (hn : n ≤ 9223372036854775807) :
    Calls Tryz.prog 88 #[.slice a n c, .int .i64 i] w fun e w' => e = .returned (.bool (decide (0 ≤ i ∧ i < (n : Int)))) ∧ w' = w := by
  have hw : IntKind.i64.wrap ((n : Int) - 1) = (n : Int) - 1 := by rw [IntKind.wrap_i64]; omega
  go_enter Tryz.func88, Tryz.ntmps88
  go_wp2_with fail
  refine (wwithin_any i 0 ((n : Int) - 1) w).mono ?_
  rintro e w1 ⟨rfl, rfl⟩
  have E : decide (0 ≤ i ∧ i ≤ (n : Int) - 1) = decide (0 ≤ i ∧ i < (n : Int)) := decide_eq_decide.2 ⟨fun h => by omega, fun h => by omega⟩
  rw [E]
  obtain ⟨b, hb⟩ : ∃ b, decide (0 ≤ i ∧ i < (n : Int)) = b := ⟨_, rfl⟩
  rw [hb]
  have HB : Hid (decide (0 ≤ i ∧ i < (n : Int)) = b) := hb
  clear hb E
  go_wp2
  go_ret
  exact ⟨by rw [HB.out]; rfl, rfl⟩
set_option maxHeartbeats 1000000 in
theorem isone_kinds (a : Option Addr) (n c : Nat) (i : Int) (w : World) (hn : n ≤ 9223372036854775807) :
    Calls Tryz.prog 89 #[.slice a n c, .int .i64 i] w fun e w' => e = .returned (.bool (decide (0 ≤ i ∧ i < (n : Int)))) ∧ w' = w := by
  have hw : IntKind.i64.wrap ((n : Int) - 1) = (n : Int) - 1 := by rw [IntKind.wrap_i64]; omega
  go_enter Tryz.func89, Tryz.ntmps89
  go_wp2_with fail
  refine (wwithin_any i 0 ((n : Int) - 1) w).mono ?_
  rintro e w1 ⟨rfl, rfl⟩
  have E : decide (0 ≤ i ∧ i ≤ (n : Int) - 1) = decide (0 ≤ i ∧ i < (n : Int)) := decide_eq_decide.2 ⟨fun h => by omega, fun h => by omega⟩
  rw [E]
  obtain ⟨b, hb⟩ : ∃ b, decide (0 ≤ i ∧ i < (n : Int)) = b := ⟨_, rfl⟩
  rw [hb]
  have HB : Hid (decide (0 ≤ i ∧ i < (n : Int)) = b) := hb
  clear hb E
  go_wp2
  go_ret
  exact ⟨by rw [HB.out]; rfl, rfl⟩
end Go.Proofs.YteieikgkmfglaaaGreatDoor

namespace Go.Proofs.YteieikgkmfglaaaGreatDoor

/-- v tells the fault n. -/
def Er (v : Value) (n : Int) : Prop := (n = 0 ∧ v = .nilIface) ∨ (n ≠ 0 ∧ v = .iface 77 (.int .i64 n))
theorem Er.nil : Er .nilIface 0 := .inl ⟨rfl, rfl⟩
theorem Er.no {n : Int} (h : n ≠ 0) : Er (.iface 77 (.int .i64 n)) n := .inr ⟨h, rfl⟩
end Go.Proofs.YteieikgkmfglaaaGreatDoor

namespace Go.Proofs.YteieikgkmfglaaaGreatDoor
open Go.RowKit

set_option maxHeartbeats 400000 in
theorem fin_any (x a b : Int) (w : World) :
    Calls Tryz.prog 116 #[.int .i64 x, .int .i64 a, .int .i64 b] w fun e w' => e = .returned (.bool (decide (a ≤ x ∧ x ≤ b))) ∧ w' = w := by
  by_cases h1 : a ≤ x
  · by_cases h2 : x ≤ b
    · go_enter Tryz.func116, Tryz.ntmps116
      go_wp2
      go_ret
      exact ⟨by simp [h1, h2], rfl⟩
    · go_enter Tryz.func116, Tryz.ntmps116
      go_wp2
      go_ret
      exact ⟨by simp; omega, rfl⟩
  · go_enter Tryz.func116, Tryz.ntmps116
    go_wp2
    go_ret
    exact ⟨by simp; omega, rfl⟩
theorem fin_yes (x a b : Int) (w : World) (h1 : a ≤ x) (h2 : x ≤ b) :
    Calls Tryz.prog 116 #[.int .i64 x, .int .i64 a, .int .i64 b] w fun e w' => e = .returned (.bool true) ∧ w' = w :=
  (fin_any x a b w).mono fun e w' ⟨h, hw⟩ => ⟨by rw [h, decide_eq_true ⟨h1, h2⟩], hw⟩
theorem fin_no (x a b : Int) (w : World) (h : x < a ∨ b < x) :
    Calls Tryz.prog 116 #[.int .i64 x, .int .i64 a, .int .i64 b] w fun e w' => e = .returned (.bool false) ∧ w' = w :=
  (fin_any x a b w).mono fun e w' ⟨h', hw⟩ => ⟨by rw [h', decide_eq_false (by omega)], hw⟩

set_option maxHeartbeats 400000 in
theorem cell_any (g o : Int) (w : World) :
    Calls Tryz.prog 117 #[.int .i64 g, .int .i64 o] w fun e w' => ∃ v, e = .returned v ∧ Er v (Fd.cellFault g o) ∧ w' = w := by
  unfold Fd.cellFault
  by_cases h1 : 0 ≤ g ∧ g ≤ 3
  · obtain ⟨h1a, h1b⟩ := h1
    by_cases h2 : 0 ≤ o ∧ o ≤ 1000000
    · obtain ⟨h2a, h2b⟩ := h2
      rw [if_neg (by omega)]
      by_cases h3 : 0 < o
      · by_cases h4 : g = 0
        · subst h4
          rw [if_neg (by omega)]
          go_enter Tryz.func117, Tryz.ntmps117
          go_wp2_with (go_at_call 116; refine (fin_yes _ _ _ _ (by omega) (by omega)).mono ?_; rintro e w' ⟨rfl, rfl⟩)
          go_ret
          exact ⟨_, rfl, Er.nil, rfl⟩
        · rw [if_pos ⟨h3, h4⟩]
          go_enter Tryz.func117, Tryz.ntmps117
          go_wp2_with (go_at_call 116; refine (fin_yes _ _ _ _ (by omega) (by omega)).mono ?_; rintro e w' ⟨rfl, rfl⟩)
          go_ret
          exact ⟨_, rfl, Er.no (by decide), rfl⟩
      · rw [if_neg (by omega)]
        go_enter Tryz.func117, Tryz.ntmps117
        go_wp2_with (go_at_call 116; refine (fin_yes _ _ _ _ (by omega) (by omega)).mono ?_; rintro e w' ⟨rfl, rfl⟩)
        go_ret
        exact ⟨_, rfl, Er.nil, rfl⟩
    · rw [if_pos (by omega)]
      have h2' : o < 0 ∨ 1000000 < o := by omega
      clear h2
      go_enter Tryz.func117, Tryz.ntmps117
      go_wp2_with fail
      refine (fin_yes _ _ _ _ (by omega) (by omega)).mono ?_
      rintro e w' ⟨rfl, rfl⟩
      go_wp2_with fail
      refine (fin_no _ _ _ _ h2').mono ?_
      rintro e w' ⟨rfl, rfl⟩
      go_wp2
      go_ret
      exact ⟨_, rfl, Er.no (by decide), rfl⟩
  · rw [if_pos (by omega)]
    have h1' : g < 0 ∨ 3 < g := by omega
    clear h1
    go_enter Tryz.func117, Tryz.ntmps117
    go_wp2_with fail
    refine (fin_no _ _ _ _ h1').mono ?_
    rintro e w' ⟨rfl, rfl⟩
    go_wp2
    go_ret
    exact ⟨_, rfl, Er.no (by decide), rfl⟩
theorem cell_ok (g o : Int) (w : World) (h : Fd.cellFault g o = 0) :
    Calls Tryz.prog 117 #[.int .i64 g, .int .i64 o] w fun e w' => e = .returned .nilIface ∧ w' = w := by
  refine (cell_any g o w).mono ?_
  rintro e w' ⟨v, rfl, hv, rfl⟩
  rcases hv with ⟨_, rfl⟩ | ⟨hn, _⟩
  · exact ⟨rfl, rfl⟩
  · exact absurd h hn
theorem cell_bad (g o f : Int) (w : World) (h : Fd.cellFault g o = f) (hf : f ≠ 0) :
    Calls Tryz.prog 117 #[.int .i64 g, .int .i64 o] w fun e w' => e = .returned (.iface 77 (.int .i64 f)) ∧ w' = w := by
  refine (cell_any g o w).mono ?_
  rintro e w' ⟨v, rfl, hv, rfl⟩
  rw [h] at hv
  rcases hv with ⟨hn, _⟩ | ⟨_, rfl⟩
  · exact absurd hn hf
  · exact ⟨rfl, rfl⟩
end Go.Proofs.YteieikgkmfglaaaGreatDoor

namespace Go.Proofs.YteieikgkmfglaaaGreatDoor
open Go.RowKit
set_option linter.unusedVariables false

/-- v is a field of Ground gs and Ore os. -/
def Fl (w : World) (v : Value) (W H : Int) (gs os : List Int) : Prop := ∃ u1 u2, v = .agg #[.int .i64 W, .int .i64 H, u1, u2] ∧ Ro w u1 gs ∧ Ro w u2 os
theorem Fl.below {w w' : World} {v : Value} {W H : Int} {gs os : List Int} (h : Fl w v W H gs os) (hb : Below w.heap.size w w') : Fl w' v W H gs os := by
  obtain ⟨u1, u2, h1, h2, h3⟩ := h
  exact ⟨u1, u2, h1, h2.below hb, h3.below hb⟩

/-- a field in a box. -/
structure Bf (w : World) (z : Nat) (W H : Int) (u1 u2 : Value) : Prop where
  c0 : w.cell? ⟨z, 0, none⟩ = some (.int .i64 W)
  c1 : w.cell? ⟨z, 1, none⟩ = some (.int .i64 H)
  c2 : w.cell? ⟨z, 2, none⟩ = some u1
  c3 : w.cell? ⟨z, 3, none⟩ = some u2
theorem Bf.lt {w : World} {z : Nat} {W H : Int} {u1 u2 : Value} (h : Bf w z W H u1 u2) : z < w.heap.size := cell_lt h.c0
theorem Bf.below {w w' : World} {z n : Nat} {W H : Int} {u1 u2 : Value} (h : Bf w z W H u1 u2) (hb : Below n w w') (hn : z < n) : Bf w' z W H u1 u2 :=
  ⟨by rw [hb.cell (p := ⟨z, 0, none⟩) hn]; exact h.c0, by rw [hb.cell (p := ⟨z, 1, none⟩) hn]; exact h.c1, by rw [hb.cell (p := ⟨z, 2, none⟩) hn]; exact h.c2, by rw [hb.cell (p := ⟨z, 3, none⟩) hn]; exact h.c3⟩
theorem Bf.drewN {w : World} {z : Nat} {W H : Int} {u1 u2 : Value} (h : Bf w z W H u1 u2) (n : Nat) : Bf (w.drewN n) z W H u1 u2 := h.below (_root_.Go.below_drewN (Below.refl _ _) n) h.lt
theorem Bf.mk' {w : World} {z : Nat} (W H : Int) (u1 u2 : Value) (hz : w.heap.size = z) : Bf (w.alloc (.cells #[.int .i64 W, .int .i64 H, u1, u2] 25)) z W H u1 u2 := by
  subst hz
  exact ⟨by simp, by simp, by simp, by simp⟩

set_option maxHeartbeats 1000000 in
theorem check_cells (a b : Option Addr) (c d : Nat) (W H : Int) (gs os : List Int) (w : World) (w1 : 1 ≤ W) (w2 : W ≤ 12) (h1 : 1 ≤ H) (h2 : H ≤ 12) (hg : (gs.length : Int) = W * H) (ho : (os.length : Int) = W * H)
    (c1 : gs.length ≤ c) (c2 : c ≤ 9223372036854775807) (d1 : os.length ≤ d) (d2 : d ≤ 9223372036854775807) (ha : Cells w a gs) (hb : Cells w b os) :
    Calls Tryz.prog 84 #[.agg #[.int .i64 W, .int .i64 H, .slice a gs.length c, .slice b os.length d]] w fun e w' => ∃ v, e = .returned v ∧ Er v (Fd.cellsFault gs os) ∧ Below w.heap.size w w' := by
  have Ha : Hid (Cells w a gs) := ha
  have Hb : Hid (Cells w b os) := hb
  have hn : W * H ≤ 144 := by
    have := Int.mul_le_mul w2 h2 (by omega) (by omega)
    omega
  have Ho : Hid (os.length = gs.length) := by unfold Hid; omega
  have e1 : W * H = (gs.length : Int) := by omega
  have e2 : os.length = gs.length := Ho.out
  clear ha hb
  rw [e2] at d1 ⊢
  clear hg ho e2
  generalize hw0 : w.alloc (Obj.cells #[.int .i64 W, .int .i64 H, .slice a gs.length c, .slice b gs.length d] 25) = w0
  have B0 : Hid (Below w.heap.size w w0) := by rw [← hw0]; exact (Below.refl _ _).alloc (Nat.le_refl _) _
  have f0 : w0.cell? ⟨w.heap.size, 2, none⟩ = some (.slice a gs.length c) := by rw [← hw0]; simp
  have f1 : w0.cell? ⟨w.heap.size, 3, none⟩ = some (.slice b gs.length d) := by rw [← hw0]; simp
  have Hw : Hid (w.alloc (Obj.cells #[.int .i64 W, .int .i64 H, .slice a gs.length c, .slice b gs.length d] 25) = w0) := hw0
  clear hw0
  have Ca : Hid (Cells w0 a gs) := Ha.out.below B0.out
  have Cb : Hid (Cells w0 b os) := Hb.out.below B0.out
  clear Ha Hb
  go_enter Tryz.func84, Tryz.ntmps84
  go_wp2_with (go_at_call 116; refine (fin_yes _ _ _ _ (by omega) (by omega)).mono ?_; rintro e w' ⟨rfl, rfl⟩)
  rw [Hw.out]
  go_loopw [36] (fun i W' => ∃ (k q : Nat), k ≤ gs.length ∧ i = .int .i64 (k : Nat) ∧ Fd.cellsFault (gs.drop k) (os.drop k) = Fd.cellsFault gs os ∧ W' = w0.drewN q) (fun i _ => gs.length - (intOf i).toNat)
  case atStart => exact ⟨0, 0, Nat.zero_le _, rfl, by simp, rfl⟩
  case round =>
    obtain ⟨k, q, hk, rfl, hf, rfl⟩ := hrel
    have Hf : Hid (Fd.cellsFault (gs.drop k) (os.drop k) = Fd.cellsFault gs os) := hf
    clear hf
    by_cases h0 : k = gs.length
    · subst h0
      go_wp2
      go_ret
      refine ⟨_, rfl, ?_, _root_.Go.below_drewN B0.out q⟩
      rw [← Hf.out, List.drop_of_length_le (Nat.le_refl _)]
      exact Er.nil
    · have hkx : k < gs.length := by omega
      have hky : k < os.length := by rw [Ho.out]; exact hkx
      obtain ⟨x, rfl, -, hx⟩ := Ca.out (by intro h; rw [h] at hkx; simp at hkx)
      obtain ⟨y, rfl, -, hy⟩ := Cb.out (by intro h; rw [h] at hky; simp at hky)
      have cx := hx k gs[k] (List.getElem?_eq_getElem hkx)
      have cy := hy k os[k] (List.getElem?_eq_getElem hky)
      have Te := Fd.cellsFault_drop gs os k gs[k] os[k] (List.getElem?_eq_getElem hkx) (List.getElem?_eq_getElem hky)
      rw [Hf.out] at Te
      have HT : Hid _ := Te
      generalize gs[k] = p at *
      generalize os[k] = r at *
      clear hx hy Te
      have f0q : (w0.drewN q).cell? ⟨w.heap.size, 2, none⟩ = some (.slice (some x) gs.length c) := f0
      have f1q : (w0.drewN q).cell? ⟨w.heap.size, 3, none⟩ = some (.slice (some y) gs.length d) := f1
      have cxq : (w0.drewN q).cell? (x.add k) = some (.int .i64 p) := cx
      have cyq : (w0.drewN q).cell? (y.add k) = some (.int .i64 r) := cy
      have Bq : Hid (∀ n, Below w.heap.size w ((w0.drewN q).drewN n)) := fun n => _root_.Go.below_drewN (_root_.Go.below_drewN B0.out q) n
      have Eq : Hid (∀ n, (w0.drewN q).drewN n = w0.drewN (q + n)) := fun n => by rw [World.drewN_drewN]
      clear cx cy
      generalize w0.drewN q = wq at *
      by_cases hc : Fd.cellFault p r = 0
      · have Hc : Hid (Fd.cellFault p r = 0) := hc
        clear hc
        go_wp2
        go_quiet ((go_at_call 117; exact Calls.quiet_of_same (cell_ok _ _ _ Hc.out)))
        go_wp2
        go_round
        case rel => exact ⟨k + 1, q + nq, by omega, by go_num, by have := HT.out; rw [if_pos Hc.out] at this; exact this.symm, Eq.out _⟩
        case measure => simp [intOf]; omega
      · generalize hff : Fd.cellFault p r = ff at *
        have Hc : Hid (Fd.cellFault p r = ff) := hff
        have Hn : Hid (ff ≠ 0) := hc
        clear hc hff
        go_wp2
        go_quiet ((go_at_call 117; exact Calls.quiet_of_same (cell_bad _ _ _ _ Hc.out Hn.out)))
        go_wp2
        go_ret
        refine ⟨_, rfl, ?_, Bq.out _⟩
        rw [HT.out, if_neg Hn.out]
        exact Er.no Hn.out

set_option maxHeartbeats 1000000 in
theorem check_range (u1 u2 : Value) (W H : Int) (w : World) (h : W < 1 ∨ 12 < W ∨ H < 1 ∨ 12 < H) :
    Calls Tryz.prog 84 #[.agg #[.int .i64 W, .int .i64 H, u1, u2]] w fun e w' => e = .returned (.iface 77 (.int .i64 1)) ∧ Below w.heap.size w w' := by
  by_cases h1 : 1 ≤ W ∧ W ≤ 12
  · obtain ⟨h1a, h1b⟩ := h1
    have h2 : H < 1 ∨ 12 < H := by omega
    clear h
    go_enter Tryz.func84, Tryz.ntmps84
    go_wp2_with fail
    refine (fin_yes _ _ _ _ (by omega) (by omega)).mono ?_
    rintro e w' ⟨rfl, rfl⟩
    go_wp2_with fail
    refine (fin_no _ _ _ _ h2).mono ?_
    rintro e w' ⟨rfl, rfl⟩
    go_wp2
    go_ret
    exact ⟨rfl, (Below.refl _ _).alloc (Nat.le_refl _) _⟩
  · have h2 : W < 1 ∨ 12 < W := by omega
    clear h h1
    go_enter Tryz.func84, Tryz.ntmps84
    go_wp2_with fail
    refine (fin_no _ _ _ _ h2).mono ?_
    rintro e w' ⟨rfl, rfl⟩
    go_wp2
    go_ret
    exact ⟨rfl, (Below.refl _ _).alloc (Nat.le_refl _) _⟩

set_option maxHeartbeats 1000000 in
theorem check_shape (a b : Option Addr) (n m c d : Nat) (W H : Int) (w : World) (w1 : 1 ≤ W) (w2 : W ≤ 12) (h1 : 1 ≤ H) (h2 : H ≤ 12) (h : (n : Int) ≠ W * H ∨ (m : Int) ≠ W * H) :
    Calls Tryz.prog 84 #[.agg #[.int .i64 W, .int .i64 H, .slice a n c, .slice b m d]] w fun e w' => e = .returned (.iface 77 (.int .i64 3)) ∧ Below w.heap.size w w' := by
  have hn : W * H ≤ 144 := by
    have := Int.mul_le_mul w2 h2 (by omega) (by omega)
    omega
  have hp : 0 ≤ W * H := Int.mul_nonneg (by omega) (by omega)
  by_cases e : (n : Int) = W * H
  · have e2 : ¬ (m : Int) = W * H := by omega
    have e' : W * H = (n : Int) := e.symm
    rw [e'] at e2
    clear h e
    go_enter Tryz.func84, Tryz.ntmps84
    go_wp2_with (go_at_call 116; refine (fin_yes _ _ _ _ (by omega) (by omega)).mono ?_; rintro e w' ⟨rfl, rfl⟩)
    go_ret
    exact ⟨rfl, (Below.refl _ _).alloc (Nat.le_refl _) _⟩
  · clear h
    go_enter Tryz.func84, Tryz.ntmps84
    go_wp2_with (go_at_call 116; refine (fin_yes _ _ _ _ (by omega) (by omega)).mono ?_; rintro e w' ⟨rfl, rfl⟩)
    go_ret
    exact ⟨rfl, (Below.refl _ _).alloc (Nat.le_refl _) _⟩

/-- what Check says. -/
theorem check_any (v : Value) (W H : Int) (gs os : List Int) (w : World) (h : Fl w v W H gs os) :
    Calls Tryz.prog 84 #[v] w fun e w' => ∃ u, e = .returned u ∧ Er u (Fd.fault W H gs os) ∧ Below w.heap.size w w' := by
  obtain ⟨u1, u2, rfl, ⟨a, c, rfl, c1, c2, ca⟩, ⟨b, d, rfl, d1, d2, cb⟩⟩ := h
  unfold Fd.fault
  by_cases h1 : W < 1 ∨ 12 < W ∨ H < 1 ∨ 12 < H
  · rw [if_pos h1]
    exact (check_range _ _ W H w h1).mono fun e w' ⟨he, hb⟩ => ⟨_, he, Er.no (by decide), hb⟩
  · rw [if_neg h1]
    by_cases h2 : (gs.length : Int) ≠ W * H ∨ (os.length : Int) ≠ W * H
    · rw [if_pos h2]
      exact (check_shape _ _ _ _ _ _ W H w (by omega) (by omega) (by omega) (by omega) h2).mono fun e w' ⟨he, hb⟩ => ⟨_, he, Er.no (by decide), hb⟩
    · rw [if_neg h2]
      exact check_cells a b c d W H gs os w (by omega) (by omega) (by omega) (by omega) (by omega) (by omega) c1 c2 d1 d2 ca cb
end Go.Proofs.YteieikgkmfglaaaGreatDoor

namespace Go.Proofs.YteieikgkmfglaaaGreatDoor
open Go.RowKit
set_option linter.unusedVariables false

theorem any_snoc {p : Int → Bool} {xs : List Int} {k : Nat} (h : k < xs.length) : (xs.take (k + 1)).any p = ((xs.take k).any p || p xs[k]) := by
  rw [List.take_succ_eq_append_getElem h, List.any_append]
  simp

set_option maxHeartbeats 1000000 in
theorem idx1_any (u q : Value) (xs : List Int) (p : Int → Bool) (w : World) (hu : Ro w u xs)
    (hp : ∀ x ∈ xs, Calls Tryz.prog 149 #[.int .i64 x, q] w fun e w' => e = .returned (.bool (p x)) ∧ w' = w) :
    Calls Tryz.prog 67 #[u, .func (Fn.func 149) #[] #[q]] w fun e w' => ∃ r : Int, e = .returned (.int .i64 r) ∧ decide (0 ≤ r) = xs.any p ∧ w' = w := by
  obtain ⟨a, c, rfl, c1, c2, ca⟩ := hu
  have Ca : Hid (Cells w a xs) := ca
  have Hp : Hid (∀ x ∈ xs, Calls Tryz.prog 149 #[.int .i64 x, q] w fun e w' => e = .returned (.bool (p x)) ∧ w' = w) := hp
  clear ca hp
  go_enter Tryz.func67, Tryz.ntmps67
  go_wp2
  go_loop [8] (fun i => ∃ k : Nat, k ≤ xs.length ∧ i = .int .i64 (k : Nat) ∧ (xs.take k).any p = false) (fun i => xs.length - (intOf i).toNat)
  case atStart => exact ⟨0, Nat.zero_le _, rfl, by simp⟩
  case round =>
    obtain ⟨k, hk, rfl, ht⟩ := hrel
    have Ht : Hid ((xs.take k).any p = false) := ht
    clear ht
    by_cases h0 : k = xs.length
    · subst h0
      go_wp2
      go_ret
      refine ⟨_, rfl, ?_, rfl⟩
      have := Ht.out
      rw [List.take_of_length_le (Nat.le_refl _)] at this
      rw [this]
      decide
    · have hkx : k < xs.length := by omega
      obtain ⟨x, rfl, -, hx⟩ := Ca.out (by intro h; rw [h] at hkx; simp at hkx)
      have cx := hx k xs[k] (List.getElem?_eq_getElem hkx)
      have hc := Hp.out xs[k] (List.getElem_mem hkx)
      have Hs : Hid _ := any_snoc (p := p) hkx
      have Hm : Hid (p xs[k] = true → xs.any p = true) := fun h => List.any_eq_true.2 ⟨_, List.getElem_mem hkx, h⟩
      generalize xs[k] = y at *
      clear hx
      cases hy : p y with
      | true =>
        rw [hy] at hc
        have Hc : Hid (Calls Tryz.prog 149 #[.int .i64 y, q] w fun e w' => e = .returned (.bool true) ∧ w' = w) := hc
        have Hy : Hid (p y = true) := hy
        clear hc hy
        go_wp2_with fail
        refine Calls.mono Hc.out ?_
        rintro e w1 ⟨rfl, rfl⟩
        go_wp2
        go_ret
        exact ⟨_, rfl, by rw [Hm.out Hy.out, decide_eq_true (by omega)], rfl⟩
      | false =>
        rw [hy] at hc
        have Hc : Hid (Calls Tryz.prog 149 #[.int .i64 y, q] w fun e w' => e = .returned (.bool false) ∧ w' = w) := hc
        have Hy : Hid (p y = false) := hy
        clear hc hy
        go_wp2_with fail
        refine Calls.mono Hc.out ?_
        rintro e w1 ⟨rfl, rfl⟩
        go_wp2
        go_round
        case rel => exact ⟨k + 1, by omega, by go_num, by have := Hs.out; rw [Ht.out, Hy.out] at this; exact this⟩
        case measure => simp [intOf]; omega

set_option maxHeartbeats 1000000 in
theorem has1_any (u q : Value) (xs : List Int) (p : Int → Bool) (w : World) (hu : Ro w u xs)
    (hp : ∀ x ∈ xs, Calls Tryz.prog 149 #[.int .i64 x, q] w fun e w' => e = .returned (.bool (p x)) ∧ w' = w) :
    Calls Tryz.prog 87 #[u, .func (Fn.func 149) #[] #[q]] w fun e w' => e = .returned (.bool (xs.any p)) ∧ w' = w := by
  have H := idx1_any u q xs p w hu hp
  have H' : Hid (Calls Tryz.prog 67 #[u, .func (Fn.func 149) #[] #[q]] w fun e w' => ∃ r : Int, e = .returned (.int .i64 r) ∧ decide (0 ≤ r) = xs.any p ∧ w' = w) := H
  clear H hp
  go_enter Tryz.func87, Tryz.ntmps87
  go_wp2_with fail
  refine Calls.mono H'.out ?_
  rintro e w1 ⟨r, rfl, hr, rfl⟩
  have Hr : Hid (decide (0 ≤ r) = xs.any p) := hr
  clear hr
  go_wp2
  go_ret
  exact ⟨by show Ending.returned (.bool (decide (0 ≤ r))) = _; rw [Hr.out], rfl⟩

set_option maxHeartbeats 1000000 in
theorem none_any (x : Int) (b : Nat) (a : Option Addr) (n c : Nat) (w : World) (hb : w.cell? ⟨b, 2, none⟩ = some (.slice a n c)) (hn : n ≤ 9223372036854775807) :
    Calls Tryz.prog 149 #[.int .i64 x, .pointer (some ⟨b, 0, none⟩)] w fun e w' => e = .returned (.bool (!decide (0 ≤ x ∧ x < n))) ∧ w' = w := by
  go_enter Tryz.func149, Tryz.ntmps149
  go_wp2_with (go_at_call 116; refine (fin_any _ _ _ _).mono ?_; rintro e w' ⟨rfl, rfl⟩)
  go_ret
  exact ⟨by show Ending.returned (.bool (!decide (0 ≤ x) || !decide (x ≤ (n : Int) - 1))) = _; rw [show (!decide (0 ≤ x) || !decide (x ≤ (n : Int) - 1)) = !decide (0 ≤ x ∧ x < n) by rw [← Bool.not_and, ← Bool.decide_and]; congr 1; rw [decide_eq_decide]; omega], rfl⟩

set_option maxHeartbeats 1000000 in
theorem ask_any (v u : Value) (W H : Int) (gs os xs : List Int) (w : World) (h : Fl w v W H gs os) (hu : Ro w u xs) :
    Calls Tryz.prog 119 #[v, u] w fun e w' => ∃ u, e = .returned u ∧ Er u (Fd.askFault (Fd.fault W H gs os) gs.length xs) ∧ Below w.heap.size w w' := by
  have F0 : Hid (Fl w v W H gs os) := h
  have U0 : Hid (Ro w u xs) := hu
  obtain ⟨u1, u2, rfl, ⟨a, c, rfl, c1, c2, ca⟩, ⟨b, d, rfl, d1, d2, cb⟩⟩ := h
  clear hu ca cb d1 d2
  generalize hw0 : w.alloc (Obj.cells #[.int .i64 W, .int .i64 H, .slice a gs.length c, .slice b os.length d] 25) = w0
  have B0 : Hid (Below w.heap.size w w0) := by rw [← hw0]; exact (Below.refl _ _).alloc (Nat.le_refl _) _
  have f0 : Hid (w0.cell? ⟨w.heap.size, 2, none⟩ = some (.slice a gs.length c)) := by rw [← hw0]; unfold Hid; simp
  have Z0 : Hid (w.heap.size < w0.heap.size) := by rw [← hw0]; unfold Hid; simp
  have Hw : Hid (w.alloc (Obj.cells #[.int .i64 W, .int .i64 H, .slice a gs.length c, .slice b os.length d] 25) = w0) := hw0
  clear hw0
  go_enter Tryz.func119, Tryz.ntmps119
  go_wp2_with fail
  rw [Hw.out]
  refine (check_any _ W H gs os _ (F0.out.below B0.out)).mono ?_
  rintro e w1 ⟨v1, rfl, hv, hb⟩
  have B1 : Hid (Below w.heap.size w w1) := B0.out.trans (hb.mono B0.out.size)
  have f1 : Hid (w1.cell? ⟨w.heap.size, 2, none⟩ = some (.slice a gs.length c)) := by
    unfold Hid
    rw [hb.cell (p := ⟨w.heap.size, 2, none⟩) Z0.out]
    exact f0.out
  have U1 : Hid (Ro w1 u xs) := U0.out.below B1.out
  clear hb
  rcases hv with ⟨hz, rfl⟩ | ⟨hz, rfl⟩
  · have Hz : Hid (Fd.fault W H gs os = 0) := hz
    clear hz
    have hh := has1_any u (.pointer (some ⟨w.heap.size, 0, none⟩)) xs (fun x => !decide (0 ≤ x ∧ x < gs.length)) w1 U1.out (fun x _ => none_any x _ a gs.length c w1 f1.out (by omega))
    have Ea : Hid (Fd.askFault (Fd.fault W H gs os) gs.length xs = if xs.any (fun x => !decide (0 ≤ x ∧ x < gs.length)) then 6 else 0) := by
      unfold Hid Fd.askFault
      rw [if_neg (by rw [Hz.out]; decide)]
      cases hx : xs.all (fun x => decide (0 ≤ x ∧ x < gs.length)) with
      | true =>
        rw [if_pos rfl, if_neg]
        rw [List.all_eq_true] at hx
        simp only [List.any_eq_true, Bool.not_eq_true', not_exists, not_and]
        intro x hm
        rw [hx x hm]
        decide
      | false =>
        rw [if_neg (by decide), if_pos]
        rw [List.all_eq_false] at hx
        obtain ⟨x, hm, hx⟩ := hx
        exact List.any_eq_true.2 ⟨x, hm, by rw [Bool.not_eq_true] at hx; rw [hx]; rfl⟩
    generalize xs.any (fun x => !decide (0 ≤ x ∧ x < gs.length)) = y at *
    have Hh : Hid (Calls Tryz.prog 87 #[u, .func (Fn.func 149) #[] #[.pointer (some ⟨w.heap.size, 0, none⟩)]] w1 fun e w' => e = .returned (.bool y) ∧ w' = w1) := hh
    clear hh
    cases y with
    | true =>
      go_wp2_with fail
      refine Calls.mono Hh.out ?_
      rintro e w2 ⟨rfl, rfl⟩
      go_wp2
      go_ret
      exact ⟨_, rfl, by rw [Ea.out]; exact Er.no (by decide), B1.out⟩
    | false =>
      go_wp2_with fail
      refine Calls.mono Hh.out ?_
      rintro e w2 ⟨rfl, rfl⟩
      go_wp2
      go_ret
      exact ⟨_, rfl, by rw [Ea.out]; exact Er.nil, B1.out⟩
  · have Hz : Hid (Fd.fault W H gs os ≠ 0) := hz
    clear hz
    have Ea : Hid (Fd.askFault (Fd.fault W H gs os) gs.length xs = Fd.fault W H gs os) := by
      unfold Hid Fd.askFault
      rw [if_pos Hz.out]
    go_wp2
    go_ret
    exact ⟨_, rfl, by rw [Ea.out]; exact Er.no Hz.out, B1.out⟩
end Go.Proofs.YteieikgkmfglaaaGreatDoor

namespace Go.Proofs.YteieikgkmfglaaaGreatDoor
open Go.RowKit
set_option linter.unusedVariables false

theorem Ro.lit1 {w : World} {z : Nat} (a : Int) (hz : w.heap.size = z) : Ro (w.alloc (.cells #[.int .i64 a] 3)) (.slice (some ⟨z, 0, none⟩) 1 1) [a] := by
  subst hz
  refine ⟨_, 1, rfl, Nat.le_refl _, by omega, fun _ => ⟨_, rfl, by simp, fun i d hd => ?_⟩⟩
  rw [Addr.add_lit, Nat.zero_add]
  match i, hd with
  | 0, hd => simp at hd; subst hd; simp
theorem Ro.lit2 {w : World} {z : Nat} (a b : Int) (hz : w.heap.size = z) : Ro (w.alloc (.cells #[.int .i64 a, .int .i64 b] 3)) (.slice (some ⟨z, 0, none⟩) 2 2) [a, b] := by
  subst hz
  refine ⟨_, 2, rfl, Nat.le_refl _, by omega, fun _ => ⟨_, rfl, by simp, fun i d hd => ?_⟩⟩
  rw [Addr.add_lit, Nat.zero_add]
  match i, hd with
  | 0, hd => simp at hd; subst hd; simp
  | 1, hd => simp at hd; subst hd; simp
end Go.Proofs.YteieikgkmfglaaaGreatDoor

namespace Go.Proofs.YteieikgkmfglaaaGreatDoor
open Go.RowKit
set_option linter.unusedVariables false

theorem ask1_zero {F : Int} {n : Nat} {a : Int} (h : Fd.askFault F n [a] = 0) : F = 0 ∧ 0 ≤ a ∧ a < n := by
  unfold Fd.askFault at h
  split at h
  · omega
  · rename_i hF
    have hF : F = 0 := by omega
    split at h
    · rename_i hx
      simp at hx
      omega
    · omega
theorem ask1_good {W H : Nat} {gs os : List Int} {a : Nat} (G : Fd.Good W H gs os) (ha : a < W * H) : Fd.askFault (Fd.fault W H gs os) gs.length [(a : Int)] = 0 := by
  unfold Fd.askFault
  rw [Fd.fault_good G, if_neg (by decide), if_pos]
  rw [G.gl]
  simp
  omega
set_option maxHeartbeats 1000000 in
theorem step_any (g : Int) (fl : Bool) (w : World) :
    Calls Tryz.prog 134 #[.int .i64 g, .bool fl] w fun e w' => e = .returned (.int .i64 (Fd.onto g fl)) ∧ w' = w := by
  have O : Hid (∀ u, u = Fd.onto g fl → Ending.returned (.int .i64 u) = .returned (.int .i64 (Fd.onto g fl))) := fun u h => by rw [h]
  unfold Fd.onto at O
  by_cases h1 : g = 1
  · subst h1
    go_enter Tryz.func134, Tryz.ntmps134
    go_wp2
    go_ret
    exact ⟨O.out 0 rfl, rfl⟩
  · by_cases h2 : g = 2
    · subst h2
      cases fl
      · go_enter Tryz.func134, Tryz.ntmps134
        go_wp2
        go_ret
        exact ⟨O.out 0 rfl, rfl⟩
      · go_enter Tryz.func134, Tryz.ntmps134
        go_wp2
        go_ret
        exact ⟨O.out 1 rfl, rfl⟩
    · by_cases h3 : g = 3
      · subst h3
        cases fl
        · go_enter Tryz.func134, Tryz.ntmps134
          go_wp2
          go_ret
          exact ⟨O.out 2 rfl, rfl⟩
        · go_enter Tryz.func134, Tryz.ntmps134
          go_wp2
          go_ret
          exact ⟨O.out 1 rfl, rfl⟩
      · go_enter Tryz.func134, Tryz.ntmps134
        go_wp2
        go_ret
        exact ⟨O.out 1 (by rw [if_neg h1, if_neg h2, if_neg h3]), rfl⟩
set_option maxHeartbeats 1000000 in
theorem Step_ok (v : Value) (W H : Nat) (gs os : List Int) (a : Nat) (g : Int) (fl : Bool) (w : World) (h : Fl w v W H gs os) (G : Fd.Good W H gs os) (ha : a < W * H) (hg : gs[a]? = some g) :
    Calls Tryz.prog 106 #[v, .int .i64 (a : Nat), .bool fl] w fun e w' => e = .returned (.tuple #[.int .i64 (Fd.onto g fl), .nilIface]) ∧ Below w.heap.size w w' := by
  have F0 : Hid (Fl w v W H gs os) := h
  have HF : Hid (Fd.askFault (Fd.fault W H gs os) gs.length [(a : Int)] = 0) := ask1_good G ha
  obtain ⟨u1, u2, rfl, ⟨a1, c, rfl, c1, c2, ca⟩, ⟨b1, d, rfl, d1, d2, cb⟩⟩ := h
  have gl := G.gl
  have hal : a < gs.length := by omega
  have gp := G.pos.2
  obtain ⟨x, rfl, xl, hx⟩ := ca (by intro e; rw [e] at hal; simp at hal)
  have cx : Hid (w.cell? (x.add a) = some (.int .i64 g)) := hx a g hg
  have Xl : Hid (x.block < w.heap.size) := xl
  have gl2 : gs.length ≤ 144 := by omega
  clear cb hx xl G hg gl gp ha
  go_enter Tryz.func106, Tryz.ntmps106
  go_wp2_with fail
  refine (ask_any _ _ W H gs os [(a : Int)] _ (F0.out.below (((Below.refl _ _).alloc (Nat.le_refl _) _).alloc (by simp) _)) (Ro.lit1 (w := w.alloc _) a (by simp))).mono ?_
  rintro e w1 ⟨v1, rfl, hv, hb⟩
  have B1 : Hid (Below w.heap.size w w1) := (((Below.refl _ _).alloc (Nat.le_refl _) _).alloc (by simp) _).trans (hb.mono (by simp; omega))
  have X1 := ((Bf.mk' (w := w) W H (Value.slice (some x) gs.length c) (Value.slice b1 os.length d) rfl).below ((Below.refl _ _).alloc (Nat.le_refl _) (Obj.cells #[Value.int IntKind.i64 a] 3)) (by simp)).below hb (by simp; omega)
  have c2 := X1.c2
  have cg : w1.cell? (x.add a) = some (.int .i64 g) := by rw [B1.out.cell (p := x.add a) (by rw [add_block]; exact Xl.out)]; exact cx.out
  rw [HF.out] at hv
  clear hb X1
  rcases hv with ⟨hz, rfl⟩ | ⟨hz, rfl⟩
  · clear hz
    go_wp2_with fail
    refine (step_any _ _ _).mono ?_
    rintro e w2 ⟨rfl, rfl⟩
    go_wp2
    go_ret2
    exact ⟨rfl, B1⟩
  · exact absurd rfl hz
end Go.Proofs.YteieikgkmfglaaaGreatDoor

namespace Go.Proofs.YteieikgkmfglaaaGreatDoor
open Go.RowKit
set_option linter.unusedVariables false

set_option maxHeartbeats 1000000 in
theorem fat_any (u : UnV) (at_ : Int) (b : Nat) (w : World) (hc : w.cell? ⟨b, 0, none⟩ = some (.int .i64 at_)) :
    Calls Tryz.prog 118 #[u.val, .pointer (some ⟨b, 0, none⟩)] w fun e w' => e = .returned (.bool (u.at_ == at_)) ∧ Below w.heap.size w w' := by
  have hb : b < w.heap.size := cell_lt hc
  have hne : b ≠ w.heap.size := by omega
  unfold UnV.val
  go_enter Tryz.func118, Tryz.ntmps118
  go_wp2
  go_ret
  exact ⟨rfl, (Below.refl _ _).alloc (Nat.le_refl _) _⟩
theorem onto_or (g : Int) (fl : Bool) : Fd.onto g fl = 0 ∨ 0 < Fd.onto g fl := by
  unfold Fd.onto
  cases fl <;> (repeat' split) <;> omega
set_option maxRecDepth 100000 in
set_option maxHeartbeats 2000000 in
theorem isopen_any (f us : Value) (Wd_ H : Nat) (gs os : List Int) (ahead : List UnV) (a : Nat) (g : Int) (fl : Bool) (w : World) (hf : Fl w f Wd_ H gs os) (G : Fd.Good Wd_ H gs os) (hu : Unl w us ahead) (ha : a < Wd_ * H) (hg : gs[a]? = some g) :
    Calls Tryz.prog 90 #[f, us, .int .i64 (a : Nat), .bool fl] w fun e w' => e = .returned (.bool (Wd.open_ gs ahead (a : Nat) fl)) ∧ Below w.heap.size w w' := by
  have F : Hid (Fl w f Wd_ H gs os) := hf
  have U : Hid (Unl w us ahead) := hu
  have HG : Hid (Fd.Good Wd_ H gs os) := G
  have AT : Hid (a < Wd_ * H ∧ gs[a]? = some g) := ⟨ha, hg⟩
  have OP : Hid (Wd.open_ gs ahead (a : Nat) fl = (decide (0 < Fd.onto g fl) && !ahead.any (fun u => u.at_ == (a : Int)))) := by
    unfold Hid Wd.open_
    rw [Int.toNat_natCast, List.getD_eq_getElem?_getD, hg]
    rfl
  obtain ⟨u1, u2, rfl, h1, h2⟩ := hf
  clear h1 h2 G ha hg hu
  go_enter Tryz.func90, Tryz.ntmps90
  go_wp2_with fail
  have B0 : Hid (Below w.heap.size w ((w.alloc (Obj.cells #[.int .i64 (Wd_ : Int), .int .i64 (H : Int), u1, u2] 25)).alloc (Obj.cells #[.int .i64 (a : Int)] 3))) := ((Below.refl _ _).alloc (Nat.le_refl _) _).alloc (by simp) _
  have C0 : Hid (((w.alloc (Obj.cells #[.int .i64 (Wd_ : Int), .int .i64 (H : Int), u1, u2] 25)).alloc (Obj.cells #[.int .i64 (a : Int)] 3)).cell? ⟨w.heap.size + 1, 0, none⟩ = some (.int .i64 (a : Int))) := cell_of_new (by simp) rfl
  generalize ((w.alloc (Obj.cells #[.int .i64 (Wd_ : Int), .int .i64 (H : Int), u1, u2] 25)).alloc (Obj.cells #[.int .i64 (a : Int)] 3)) = w0 at *
  refine (Step_ok _ Wd_ H gs os a g fl w0 (F.out.below B0.out) HG.out AT.out.1 AT.out.2).mono ?_
  rintro e w1 ⟨rfl, hb1⟩
  have B1 : Hid (Below w.heap.size w w1) := B0.out.trans (hb1.mono B0.out.size)
  have C1 : Hid (w1.cell? ⟨w.heap.size + 1, 0, none⟩ = some (.int .i64 (a : Int))) := by unfold Hid; rw [hb1.cell (p := ⟨w.heap.size + 1, 0, none⟩) (cell_lt C0.out)]; exact C0.out
  clear hb1 C0
  obtain ⟨o, ho⟩ : ∃ o, Fd.onto g fl = o := ⟨_, rfl⟩
  have OR := onto_or g fl
  rw [ho] at OP OR ⊢
  clear ho
  rcases OR with rfl | hpos
  · have E : Hid (Wd.open_ gs ahead (a : Nat) fl = false) := by unfold Hid; rw [OP.out]; rfl
    go_wp2
    go_ret
    exact ⟨by rw [E.out]; rfl, B1.out⟩
  · have E : Hid (Wd.open_ gs ahead (a : Nat) fl = !ahead.any (fun u => u.at_ == (a : Int))) := by unfold Hid; rw [OP.out, decide_eq_true hpos]; rfl
    go_wp2_with fail
    refine (hasu_any 118 (by intro args w; go_simp) us #[.pointer (some ⟨w.heap.size + 1, 0, none⟩)] ahead (fun u => u.at_ == (a : Int)) w1 (U.out.below B1.out) (fun V hV k => fat_any k (a : Int) (w.heap.size + 1) V (by rw [hV.cell (p := ⟨w.heap.size + 1, 0, none⟩) (cell_lt C1.out)]; exact C1.out))).mono ?_
    rintro e w2 ⟨rfl, hb2⟩
    have B2 : Hid (Below w.heap.size w w2) := B1.out.trans (hb2.mono B1.out.size)
    obtain ⟨m, hm⟩ : ∃ m, ahead.any (fun u => u.at_ == (a : Int)) = m := ⟨_, rfl⟩
    rw [hm] at E ⊢
    clear hb2 hm
    go_wp2
    go_ret
    exact ⟨by rw [E.out]; rfl, B2.out⟩
end Go.Proofs.YteieikgkmfglaaaGreatDoor

namespace Go.Proofs.YteieikgkmfglaaaGreatDoor
open Go Go.RowKit
set_option linter.unusedVariables false

section
variable {P : Program} {ops : Array Oper} {md : Region.Mode} {C : World → Prop}

/-- the operation gives v, in each of the worlds C, and leaves one of them. -/
def YieldsC (P : Program) (ops : Array Oper) (C : World → Prop) (o : Oper) (v : Value) (a : Act) : Prop :=
  (Region.wanted o (yielded ops a.tmps) = true ∧ ∀ W, C W → ((execOp a.eval o).run P W = .ok (.value v) W ∨ ((execOp a.eval o).run P W = .ok .skip W ∧ v = undef) ∨
    ∃ f args, (execOp a.eval o).run P W = .ok (.enter f args) W ∧ Calls P f args W (fun e w' => e = .returned v ∧ C w'))) ∨
  (Region.wanted o (yielded ops a.tmps) = false ∧ v = undef)
def stC (P : Program) (ops : Array Oper) (C : World → Prop) (i : Nat) (K : Act → Prop) (a : Act) : Prop :=
  match ops[i]? with
  | none => K a
  | some o => ∃ v, YieldsC P ops C o v a ∧ K (a.put o.dst v)
theorem stC_mono {i : Nat} {a : Act} {K K' : Act → Prop} (h : ∀ a, K a → K' a) (hh : stC P ops C i K a) : stC P ops C i K' a := by
  unfold stC at *
  split
  · rename_i ho
    simp only [ho] at hh
    exact h _ hh
  · rename_i o ho
    simp only [ho] at hh
    obtain ⟨v, h1, h2⟩ := hh
    exact ⟨v, h1, h _ h2⟩
theorem YieldsC.of_same {o : Oper} {v : Value} {a a' : Act} (hy : YieldsC P ops C o v a) (he : execOp a'.eval o = execOp a.eval o)
    (hw : Region.wanted o (yielded ops a'.tmps) = Region.wanted o (yielded ops a.tmps)) : YieldsC P ops C o v a' := by
  unfold YieldsC at *
  rw [he, hw]
  exact hy
theorem stC_put {j : Nat} {oi oj : Oper} {v : Value} (hj : ops[j]? = some oj) (hap : oi.apart ops oj = true)
    (hsi : ∀ cs b, oi.op ≠ .select cs b) (hsj : ∀ cs b, oj.op ≠ .select cs b) {K : Act → Prop} {a : Act}
    (hy : YieldsC P ops C oi v a) (h : stC P ops C j K (a.put oi.dst v)) :
    stC P ops C j (fun a' => YieldsC P ops C oi v a' ∧ K (a'.put oi.dst v)) a := by
  obtain ⟨h1, h2, h3⟩ := Oper.apart_spec hap
  unfold stC at *
  simp only [hj] at *
  obtain ⟨u, hu, hk⟩ := h
  refine ⟨u, hu.of_same (execOp_put oj hsj a oi.dst v h1).symm (wanted_put oj a oi.dst v h1).symm, hy.of_same (execOp_put oi hsi a oj.dst u h3) (wanted_put oi a oj.dst u h3), ?_⟩
  rw [← Act.put_comm a v u h2]
  exact hk
theorem wpOp_of_stC {i : Nat} {a : Act} {W : World} {K : Act → Prop} {K' : Act → World → Prop} {Q' : Exit → Act → World → Prop} (h : ∀ a W, K a → C W → K' a W) (hh : stC P ops C i K a) (hW : C W) : wpOp P ops Q' i K' a W := by
  unfold stC at hh
  unfold wpOp
  split
  · rename_i ho
    simp only [ho] at hh
    exact h _ _ hh hW
  · rename_i o ho
    simp only [ho] at hh
    obtain ⟨v, hy, hk⟩ := hh
    rcases hy with ⟨hw, hr⟩ | ⟨hw, rfl⟩
    · simp only [hw, if_true]
      refine .inl ?_
      unfold Oper.wp
      rcases hr W hW with e | ⟨e, rfl⟩ | ⟨f, args, e, hc⟩
      · rw [e]
        exact h _ _ hk hW
      · rw [e]
        exact h _ _ hk hW
      · rw [e]
        exact hc.mono fun e w' ⟨he, hw'⟩ => by subst he; exact h _ _ hk hw'
    · simp only [hw]
      exact h _ _ hk hW
def wpAnyC (P : Program) (md : Region.Mode) (ops : Array Oper) (C : World → Prop) (n : Nat) (L : Array Bool → Act → Prop) : Nat → Array Bool → Act → Prop
  | 0, listed, a => L listed a
  | f + 1, listed, a =>
    Region.ready md ops listed ≠ [] ∧ ∀ i ∈ Region.ready md ops listed, i < n ∧ stC P ops C i (wpAnyC P md ops C n L f (listed.setIfInBounds i true)) a
theorem wpAny_of_headC {n g : Nat} {L : Array Bool → Act → Prop} {Q' : Exit → Act → World → Prop} (hL : ∀ listed a W, L listed a → C W → wpAny P md ops Q' g listed a W) :
    ∀ (f : Nat) (listed : Array Bool) (a : Act) (W : World), wpAnyC P md ops C n L f listed a → C W → wpAny P md ops Q' (f + g) listed a W
  | 0, listed, a, W, h, hW => by rw [Nat.zero_add]; exact hL _ _ _ h hW
  | f + 1, listed, a, W, h, hW => by
    rw [show f + 1 + g = (f + g) + 1 by omega]
    exact ⟨fun h0 => absurd h0 h.1, fun i hi => wpOp_of_stC (fun a' W' h' hW' => wpAny_of_headC hL f _ a' W' h' hW') (h.2 i hi).2 hW⟩
theorem wpAnyC_first {n i : Nat} {oi : Oper} {v : Value} {L : Array Bool → Act → Prop} (hi : ops[i]? = some oi) (hsel : ∀ (j : Nat) (o : Oper) cs b, ops[j]? = some o → o.op ≠ .select cs b)
    (hs : Region.sinkB md ops n = true) (hc : Region.chainB md ops n = true) (hn : n < ops.size) (hin : i < n)
    (hdone : ∀ listed a, L listed a → ∀ j ∈ Region.ready md ops listed, n ≤ j) :
    ∀ (f : Nat) (listed : Array Bool) (a : Act), HeadInv md ops n listed →
      (∀ j oj, ops[j]? = some oj → j ≠ i → listed.getD j true = false → (∀ e ∈ oj.after, Region.binds md e = true → e.on ≠ i) → oi.apart ops oj = true) →
      i ∈ Region.ready md ops listed → YieldsC P ops C oi v a →
      wpAnyC P md ops C n L f (listed.setIfInBounds i true) (a.put oi.dst v) → wpAnyC P md ops C n L (f + 1) listed a := by
  have hit : ∀ {K : Act → Prop} {a : Act}, YieldsC P ops C oi v a → K (a.put oi.dst v) → stC P ops C i K a := fun hy hk => by
    unfold stC
    simp only [hi]
    exact ⟨v, hy, hk⟩
  intro f
  induction f with
  | zero =>
    intro listed a inv _ hr hy H
    have hun := (mem_ready.1 hr).1
    refine ⟨fun h => (by rw [h] at hr; cases hr), fun j hj => ?_⟩
    have hjn : j < n := by
      rcases Nat.lt_or_ge j n with h | h
      · exact h
      · exact absurd hj (tail_waits hs hc hn inv _ i rfl hin hun j h)
    refine ⟨hjn, ?_⟩
    by_cases hji : j = i
    · subst hji; exact hit hy H
    · have := hdone _ _ H j (ready_mono hj hji)
      omega
  | succ f ih =>
    intro listed a inv hfree hr hy H
    have hun := (mem_ready.1 hr).1
    refine ⟨fun h => (by rw [h] at hr; cases hr), fun j hj => ?_⟩
    have hjn : j < n := by
      rcases Nat.lt_or_ge j n with h | h
      · exact h
      · exact absurd hj (tail_waits hs hc hn inv _ i rfl hin hun j h)
    refine ⟨hjn, ?_⟩
    by_cases hji : j = i
    · subst hji; exact hit hy H
    · have h1 := (H.2 j (ready_mono hj hji)).2
      obtain ⟨hjun, oj, hoj, hall⟩ := mem_ready.1 hj
      have hnot : ∀ e ∈ oj.after, Region.binds md e = true → e.on ≠ i := fun e he hb heq => by
        have h1 := hall e he hb
        rw [heq, getD_both hun] at h1
        cases h1
      have h2 := stC_put hoj (hfree j oj hoj hji hjun hnot) (fun cs b => hsel i oi cs b hi) (fun cs b => hsel j oj cs b hoj) hy h1
      have hfree' : ∀ k ok, ops[k]? = some ok → k ≠ i → (listed.setIfInBounds j true).getD k true = false →
          (∀ e ∈ ok.after, Region.binds md e = true → e.on ≠ i) → oi.apart ops ok = true := fun k ok hk hki hun hno => by
        refine hfree k ok hk hki ?_ hno
        by_cases hjk : j = k
        · subst hjk; exact hjun
        · rw [getD_set_ne true hjk] at hun; exact hun
      refine stC_mono (fun a' h3 => ih (listed.setIfInBounds j true) a' (inv.set hj hjn) hfree' (ready_mono hr (Ne.symm hji)) h3.1 ?_) h2
      rw [Array.setIfInBounds_comm _ _ hji]
      exact h3.2
/-- the head, in the text's order. -/
def wpHead (P : Program) (ops : Array Oper) (C : World → Prop) (Q : Act → Prop) : List Oper → Act → Prop
  | [], a => Q a
  | o :: rest, a => ∃ v, YieldsC P ops C o v a ∧ wpHead P ops C Q rest (a.put o.dst v)
theorem wpAnyC_lex {n g : Nat} {Lq : Act → Prop} (hsel : Region.noSelect ops = true) (hs : Region.sinkB md ops n = true) (hc : Region.chainB md ops n = true) (hn : n < ops.size) :
    ∀ (l : List Oper) (k : Nat) (listed : Array Bool) (a : Act), (∀ j, j < l.length → l[j]? = ops[k + j]?) → k + l.length = n → HeadInv md ops n listed →
    Region.lexHead md ops g l.length k listed = true → wpHead P ops C Lq l a →
    wpAnyC P md ops C n (fun listed' a' => Region.seqB md ops g n listed' = true ∧ Lq a') l.length listed a
  | [], k, listed, a, _, hk, _, hB, h => by
    have : k = n := by simpa using hk
    subst this
    exact ⟨by simpa [Region.lexHead] using hB, h⟩
  | o :: l, k, listed, a, hl, hk, inv, hB, h => by
    have h0 : ops[k]? = some o := by simpa using (hl 0 (by simp)).symm
    simp only [List.length_cons, Region.lexHead, Bool.and_eq_true] at hB
    obtain ⟨⟨hr, hf⟩, hB'⟩ := hB
    have hkn : k < n := by simp only [List.length_cons] at hk; omega
    have hr' : k ∈ Region.ready md ops listed := by simpa using hr
    obtain ⟨v, hy, hK⟩ := h
    exact wpAnyC_first h0 (Region.noSelect_spec hsel) hs hc hn hkn (fun listed' a' hL => seqB_ready hL.1) l.length listed a inv (Region.free_spec h0 hf) hr' hy
      (wpAnyC_lex hsel hs hc hn l (k + 1) _ _ (fun j hj => by have := hl (j + 1) (by simp; omega); simpa [Nat.add_assoc, Nat.add_comm 1 j] using this) (by simp only [List.length_cons] at hk; omega) (inv.set hr' hkn) hB' hK)
/-- the region: its head in the text's order, in each of the worlds C; its tail behind it. -/
theorem wp_region_class {id : Nat} {Q : Exit → Act → World → Prop} {a : Act} {w : World} {l : List Oper} (n : Nat) (C : World → Prop) (hm : P.follows .mixedOrders = true) (hB : Region.lexTailB .any l.toArray n = true)
    (hC : C { w with drawn := w.drawn + 1 }) (h : wpHead P l.toArray C (fun a' => ∀ W, C W → wpList P l.toArray Q (l.drop n) a' W) (l.take n) a) : (Code.region id l.toArray true).wp P Q a w := by
  simp only [Region.lexTailB, Bool.and_eq_true, decide_eq_true_eq] at hB
  obtain ⟨⟨⟨⟨hsel, hn⟩, hs⟩, hc⟩, hlex⟩ := hB
  have hn' : n < l.length := by simpa using hn
  have htl : (l.take n).length = n := by simp; omega
  have hdl : (l.drop n).length = l.toArray.size - n := by simp
  have inv0 : HeadInv .any l.toArray n (Array.replicate l.toArray.size false) :=
    ⟨by simp, fun j oj _ hl => (by rw [getD_replicate_false] at hl; cases hl), fun t _ ht => getD_in (by simpa using ht) (getD_replicate_false _ _)⟩
  have H := wpAnyC_lex (md := .any) (g := l.toArray.size - n) hsel hs hc hn (l.take n) 0 _ a (fun j hj => by
    have hj' : j < n := by rw [htl] at hj; exact hj
    simp [hj']) (by simpa using htl) inv0 (by rw [htl]; exact hlex) h
  refine wp_region_any hm ?_
  have := wpAny_of_headC (Q' := Q) (g := l.toArray.size - n) (fun listed a' W hL hW => by
    have := wpAny_of_seq (md := .any) (Q' := Q) (l.drop n) n listed a' W (fun j => by simp [List.getElem?_drop]) (by rw [hdl]; exact hL.1) (hL.2 W hW)
    rwa [hdl] at this) _ _ _ _ H hC
  rw [htl, show n + (l.toArray.size - n) = l.toArray.size by omega] at this
  exact this
end
theorem head_step {P : Program} {ops : Array Oper} {C : World → Prop} {Q : Act → Prop} {o : Oper} {rest : List Oper} {a : Act} (v : Value) (hw : Region.wanted o (yielded ops a.tmps) = true) (hr : ∀ W, C W → (execOp a.eval o).run P W = .ok (.value v) W) (h : wpHead P ops C Q rest (a.put o.dst v)) : wpHead P ops C Q (o :: rest) a :=
  ⟨v, .inl ⟨hw, fun W hW => .inl (hr W hW)⟩, h⟩
theorem head_call {P : Program} {ops : Array Oper} {C : World → Prop} {Q : Act → Prop} {o : Oper} {rest : List Oper} {a : Act} (v : Value) (f : FuncId) (args : Array Value) (hw : Region.wanted o (yielded ops a.tmps) = true) (hr : ∀ W, C W → (execOp a.eval o).run P W = .ok (.enter f args) W)
    (hc : ∀ W, C W → Calls P f args W (fun e w' => e = .returned v ∧ C w')) (h : wpHead P ops C Q rest (a.put o.dst v)) : wpHead P ops C Q (o :: rest) a :=
  ⟨v, .inl ⟨hw, fun W hW => .inr (.inr ⟨f, args, hr W hW, hc W hW⟩)⟩, h⟩

end Go.Proofs.YteieikgkmfglaaaGreatDoor

