/- Fields: what every call says first. · Lists of integers that are written out. · Fields: how far it is onto a cell (cut out of FdN, which wants field.sides). · Worlds: whether one may stand on a cell. · A region whose operations read, and call what makes memory, ahead of a tail in one order: it may be walked in the text's order. · Worlds: what is wrong with a unit. · Worlds: what is wrong with a job. · Worlds: what is wrong with what one lies on, and with its numbers. · Worlds: Check. · Slices of api.Unit that the call itself makes, by append. · Slices of api.Job that the call itself makes, by append. · A world's nine cells in a block that may be written; worlds that the call itself makes. · a unit that is to be put: what is wrong, and what comes of it. · Worlds with which nothing is wrong, unit by unit and job by job; a unit that is put keeps one right. Plain mathematics. · score.Points. · Worlds: the reference's Find. · Worlds: the reference's On and number. · The reference: what is wrong with a kind, and with some. -/
import Derived.Test.YtamgjhehnblbgaaDoorZScoreTells2
import Derived.Test.YtamgjhehnblbgaaDoorZScoreTells1
import Derived.StillTail
import Derived.Below
import Derived.BigQuiet
import Derived.BigRegion
import Derived.Deep.DeepCutAuto
import Derived.OwnWalk
import Derived.Deep.AppendLies
import Derived.Laws.Closers25
import Derived.IntWalk
namespace Go.Proofs.YtamgjhehnblbgaaDoor
open Go.RowKit
set_option linter.unusedVariables false

theorem any_snoc {p : Int → Bool} {xs : List Int} {k : Nat} (h : k < xs.length) : (xs.take (k + 1)).any p = ((xs.take k).any p || p xs[k]) := by
  rw [List.take_succ_eq_append_getElem h, List.any_append]
  simp

set_option maxHeartbeats 1000000 in
theorem idx1_any (u q : Value) (xs : List Int) (p : Int → Bool) (w : World) (hu : Ro w u xs)
    (hp : ∀ x ∈ xs, Calls Tryd.prog 70 #[.int .i64 x, q] w fun e w' => e = .returned (.bool (p x)) ∧ w' = w) :
    Calls Tryd.prog 56 #[u, .func (Fn.func 70) #[] #[q]] w fun e w' => ∃ r : Int, e = .returned (.int .i64 r) ∧ decide (0 ≤ r) = xs.any p ∧ w' = w := by
  obtain ⟨a, c, rfl, c1, c2, ca⟩ := hu
  have Ca : Hid (Cells w a xs) := ca
  have Hp : Hid (∀ x ∈ xs, Calls Tryd.prog 70 #[.int .i64 x, q] w fun e w' => e = .returned (.bool (p x)) ∧ w' = w) := hp
  clear ca hp
  go_enter Tryd.func56, Tryd.ntmps56
  go_wp2
  go_loop [8] (fun i => ∃ k : Nat, k ≤ xs.length ∧ i = .int .i64 (k : Nat) ∧ (xs.take k).any p = false) (fun i => xs.length - (intOf i).toNat)
  case atStart => exact ⟨0, Nat.zero_le _, rfl, by simp⟩
  case round =>
    obtain ⟨k, hk, rfl, ht⟩ := hrel
    have Ht : Hid ((xs.take k).any p = false) := ht
    clear ht
    by_cases h0 : k = xs.length
    · subst h0
      go_wp2
      go_ret
      refine ⟨_, rfl, ?_, rfl⟩
      have := Ht.out
      rw [List.take_of_length_le (Nat.le_refl _)] at this
      rw [this]
      decide
    · have hkx : k < xs.length := by omega
      obtain ⟨x, rfl, -, hx⟩ := Ca.out (by intro h; rw [h] at hkx; simp at hkx)
      have cx := hx k xs[k] (List.getElem?_eq_getElem hkx)
      have hc := Hp.out xs[k] (List.getElem_mem hkx)
      have Hs : Hid _ := any_snoc (p := p) hkx
      have Hm : Hid (p xs[k] = true → xs.any p = true) := fun h => List.any_eq_true.2 ⟨_, List.getElem_mem hkx, h⟩
      generalize xs[k] = y at *
      clear hx
      cases hy : p y with
      | true =>
        rw [hy] at hc
        have Hc : Hid (Calls Tryd.prog 70 #[.int .i64 y, q] w fun e w' => e = .returned (.bool true) ∧ w' = w) := hc
        have Hy : Hid (p y = true) := hy
        clear hc hy
        go_wp2_with fail
        refine Calls.mono Hc.out ?_
        rintro e w1 ⟨rfl, rfl⟩
        go_wp2
        go_ret
        exact ⟨_, rfl, by rw [Hm.out Hy.out, decide_eq_true (by omega)], rfl⟩
      | false =>
        rw [hy] at hc
        have Hc : Hid (Calls Tryd.prog 70 #[.int .i64 y, q] w fun e w' => e = .returned (.bool false) ∧ w' = w) := hc
        have Hy : Hid (p y = false) := hy
        clear hc hy
        go_wp2_with fail
        refine Calls.mono Hc.out ?_
        rintro e w1 ⟨rfl, rfl⟩
        go_wp2
        go_round
        case rel => exact ⟨k + 1, by omega, by go_num, by have := Hs.out; rw [Ht.out, Hy.out] at this; exact this⟩
        case measure => simp [intOf]; omega

set_option maxHeartbeats 1000000 in
theorem has1_any (u q : Value) (xs : List Int) (p : Int → Bool) (w : World) (hu : Ro w u xs)
    (hp : ∀ x ∈ xs, Calls Tryd.prog 70 #[.int .i64 x, q] w fun e w' => e = .returned (.bool (p x)) ∧ w' = w) :
    Calls Tryd.prog 44 #[u, .func (Fn.func 70) #[] #[q]] w fun e w' => e = .returned (.bool (xs.any p)) ∧ w' = w := by
  have H := idx1_any u q xs p w hu hp
  have H' : Hid (Calls Tryd.prog 56 #[u, .func (Fn.func 70) #[] #[q]] w fun e w' => ∃ r : Int, e = .returned (.int .i64 r) ∧ decide (0 ≤ r) = xs.any p ∧ w' = w) := H
  clear H hp
  go_enter Tryd.func44, Tryd.ntmps44
  go_wp2_with fail
  refine Calls.mono H'.out ?_
  rintro e w1 ⟨r, rfl, hr, rfl⟩
  have Hr : Hid (decide (0 ≤ r) = xs.any p) := hr
  clear hr
  go_wp2
  go_ret
  exact ⟨by show Ending.returned (.bool (decide (0 ≤ r))) = _; rw [Hr.out], rfl⟩

set_option maxHeartbeats 1000000 in
theorem none_any (x : Int) (b : Nat) (a : Option Addr) (n c : Nat) (w : World) (hb : w.cell? ⟨b, 2, none⟩ = some (.slice a n c)) (hn : n ≤ 9223372036854775807) :
    Calls Tryd.prog 70 #[.int .i64 x, .pointer (some ⟨b, 0, none⟩)] w fun e w' => e = .returned (.bool (!decide (0 ≤ x ∧ x < n))) ∧ w' = w := by
  go_enter Tryd.func70, Tryd.ntmps70
  go_wp2_with (go_at_call 54; refine (fin_any _ _ _ _).mono ?_; rintro e w' ⟨rfl, rfl⟩)
  go_ret
  exact ⟨by show Ending.returned (.bool (!decide (0 ≤ x) || !decide (x ≤ (n : Int) - 1))) = _; rw [show (!decide (0 ≤ x) || !decide (x ≤ (n : Int) - 1)) = !decide (0 ≤ x ∧ x < n) by rw [← Bool.not_and, ← Bool.decide_and]; congr 1; rw [decide_eq_decide]; omega], rfl⟩

set_option maxHeartbeats 1000000 in
theorem ask_any (v u : Value) (W H : Int) (gs os xs : List Int) (w : World) (h : Fl w v W H gs os) (hu : Ro w u xs) :
    Calls Tryd.prog 63 #[v, u] w fun e w' => ∃ u, e = .returned u ∧ Er u (Fd.askFault (Fd.fault W H gs os) gs.length xs) ∧ Below w.heap.size w w' := by
  have F0 : Hid (Fl w v W H gs os) := h
  have U0 : Hid (Ro w u xs) := hu
  obtain ⟨u1, u2, rfl, ⟨a, c, rfl, c1, c2, ca⟩, ⟨b, d, rfl, d1, d2, cb⟩⟩ := h
  clear hu ca cb d1 d2
  generalize hw0 : w.alloc (Obj.cells #[.int .i64 W, .int .i64 H, .slice a gs.length c, .slice b os.length d] 33) = w0
  have B0 : Hid (Below w.heap.size w w0) := by rw [← hw0]; exact (Below.refl _ _).alloc (Nat.le_refl _) _
  have f0 : Hid (w0.cell? ⟨w.heap.size, 2, none⟩ = some (.slice a gs.length c)) := by rw [← hw0]; unfold Hid; simp
  have Z0 : Hid (w.heap.size < w0.heap.size) := by rw [← hw0]; unfold Hid; simp
  have Hw : Hid (w.alloc (Obj.cells #[.int .i64 W, .int .i64 H, .slice a gs.length c, .slice b os.length d] 33) = w0) := hw0
  clear hw0
  go_enter Tryd.func63, Tryd.ntmps63
  go_wp2_with fail
  rw [Hw.out]
  refine (check_any _ W H gs os _ (F0.out.below B0.out)).mono ?_
  rintro e w1 ⟨v1, rfl, hv, hb⟩
  have B1 : Hid (Below w.heap.size w w1) := B0.out.trans (hb.mono B0.out.size)
  have f1 : Hid (w1.cell? ⟨w.heap.size, 2, none⟩ = some (.slice a gs.length c)) := by
    unfold Hid
    rw [hb.cell (p := ⟨w.heap.size, 2, none⟩) Z0.out]
    exact f0.out
  have U1 : Hid (Ro w1 u xs) := U0.out.below B1.out
  clear hb
  rcases hv with ⟨hz, rfl⟩ | ⟨hz, rfl⟩
  · have Hz : Hid (Fd.fault W H gs os = 0) := hz
    clear hz
    have hh := has1_any u (.pointer (some ⟨w.heap.size, 0, none⟩)) xs (fun x => !decide (0 ≤ x ∧ x < gs.length)) w1 U1.out (fun x _ => none_any x _ a gs.length c w1 f1.out (by omega))
    have Ea : Hid (Fd.askFault (Fd.fault W H gs os) gs.length xs = if xs.any (fun x => !decide (0 ≤ x ∧ x < gs.length)) then 6 else 0) := by
      unfold Hid Fd.askFault
      rw [if_neg (by rw [Hz.out]; decide)]
      cases hx : xs.all (fun x => decide (0 ≤ x ∧ x < gs.length)) with
      | true =>
        rw [if_pos rfl, if_neg]
        rw [List.all_eq_true] at hx
        simp only [List.any_eq_true, Bool.not_eq_true', not_exists, not_and]
        intro x hm
        rw [hx x hm]
        decide
      | false =>
        rw [if_neg (by decide), if_pos]
        rw [List.all_eq_false] at hx
        obtain ⟨x, hm, hx⟩ := hx
        exact List.any_eq_true.2 ⟨x, hm, by rw [Bool.not_eq_true] at hx; rw [hx]; rfl⟩
    generalize xs.any (fun x => !decide (0 ≤ x ∧ x < gs.length)) = y at *
    have Hh : Hid (Calls Tryd.prog 44 #[u, .func (Fn.func 70) #[] #[.pointer (some ⟨w.heap.size, 0, none⟩)]] w1 fun e w' => e = .returned (.bool y) ∧ w' = w1) := hh
    clear hh
    cases y with
    | true =>
      go_wp2_with fail
      refine Calls.mono Hh.out ?_
      rintro e w2 ⟨rfl, rfl⟩
      go_wp2
      go_ret
      exact ⟨_, rfl, by rw [Ea.out]; exact Er.no (by decide), B1.out⟩
    | false =>
      go_wp2_with fail
      refine Calls.mono Hh.out ?_
      rintro e w2 ⟨rfl, rfl⟩
      go_wp2
      go_ret
      exact ⟨_, rfl, by rw [Ea.out]; exact Er.nil, B1.out⟩
  · have Hz : Hid (Fd.fault W H gs os ≠ 0) := hz
    clear hz
    have Ea : Hid (Fd.askFault (Fd.fault W H gs os) gs.length xs = Fd.fault W H gs os) := by
      unfold Hid Fd.askFault
      rw [if_pos Hz.out]
    go_wp2
    go_ret
    exact ⟨_, rfl, by rw [Ea.out]; exact Er.no Hz.out, B1.out⟩
end Go.Proofs.YtamgjhehnblbgaaDoor

namespace Go.Proofs.YtamgjhehnblbgaaDoor
open Go.RowKit
set_option linter.unusedVariables false

theorem Ro.lit1 {w : World} {z : Nat} (a : Int) (hz : w.heap.size = z) : Ro (w.alloc (.cells #[.int .i64 a] 3)) (.slice (some ⟨z, 0, none⟩) 1 1) [a] := by
  subst hz
  refine ⟨_, 1, rfl, Nat.le_refl _, by omega, fun _ => ⟨_, rfl, by simp, fun i d hd => ?_⟩⟩
  rw [Addr.add_lit, Nat.zero_add]
  match i, hd with
  | 0, hd => simp at hd; subst hd; simp
theorem Ro.lit2 {w : World} {z : Nat} (a b : Int) (hz : w.heap.size = z) : Ro (w.alloc (.cells #[.int .i64 a, .int .i64 b] 3)) (.slice (some ⟨z, 0, none⟩) 2 2) [a, b] := by
  subst hz
  refine ⟨_, 2, rfl, Nat.le_refl _, by omega, fun _ => ⟨_, rfl, by simp, fun i d hd => ?_⟩⟩
  rw [Addr.add_lit, Nat.zero_add]
  match i, hd with
  | 0, hd => simp at hd; subst hd; simp
  | 1, hd => simp at hd; subst hd; simp
end Go.Proofs.YtamgjhehnblbgaaDoor

namespace Go.Proofs.YtamgjhehnblbgaaDoor
open Go.RowKit
set_option linter.unusedVariables false

theorem ask1_zero {F : Int} {n : Nat} {a : Int} (h : Fd.askFault F n [a] = 0) : F = 0 ∧ 0 ≤ a ∧ a < n := by
  unfold Fd.askFault at h
  split at h
  · omega
  · rename_i hF
    have hF : F = 0 := by omega
    split at h
    · rename_i hx
      simp at hx
      omega
    · omega
theorem ask1_good {W H : Nat} {gs os : List Int} {a : Nat} (G : Fd.Good W H gs os) (ha : a < W * H) : Fd.askFault (Fd.fault W H gs os) gs.length [(a : Int)] = 0 := by
  unfold Fd.askFault
  rw [Fd.fault_good G, if_neg (by decide), if_pos]
  rw [G.gl]
  simp
  omega
set_option maxHeartbeats 1000000 in
theorem step_any (g : Int) (fl : Bool) (w : World) :
    Calls Tryd.prog 64 #[.int .i64 g, .bool fl] w fun e w' => e = .returned (.int .i64 (Fd.onto g fl)) ∧ w' = w := by
  have O : Hid (∀ u, u = Fd.onto g fl → Ending.returned (.int .i64 u) = .returned (.int .i64 (Fd.onto g fl))) := fun u h => by rw [h]
  unfold Fd.onto at O
  by_cases h1 : g = 1
  · subst h1
    go_enter Tryd.func64, Tryd.ntmps64
    go_wp2
    go_ret
    exact ⟨O.out 0 rfl, rfl⟩
  · by_cases h2 : g = 2
    · subst h2
      cases fl
      · go_enter Tryd.func64, Tryd.ntmps64
        go_wp2
        go_ret
        exact ⟨O.out 0 rfl, rfl⟩
      · go_enter Tryd.func64, Tryd.ntmps64
        go_wp2
        go_ret
        exact ⟨O.out 1 rfl, rfl⟩
    · by_cases h3 : g = 3
      · subst h3
        cases fl
        · go_enter Tryd.func64, Tryd.ntmps64
          go_wp2
          go_ret
          exact ⟨O.out 2 rfl, rfl⟩
        · go_enter Tryd.func64, Tryd.ntmps64
          go_wp2
          go_ret
          exact ⟨O.out 1 rfl, rfl⟩
      · go_enter Tryd.func64, Tryd.ntmps64
        go_wp2
        go_ret
        exact ⟨O.out 1 (by rw [if_neg h1, if_neg h2, if_neg h3]), rfl⟩
set_option maxHeartbeats 1000000 in
theorem Step_ok (v : Value) (W H : Nat) (gs os : List Int) (a : Nat) (g : Int) (fl : Bool) (w : World) (h : Fl w v W H gs os) (G : Fd.Good W H gs os) (ha : a < W * H) (hg : gs[a]? = some g) :
    Calls Tryd.prog 57 #[v, .int .i64 (a : Nat), .bool fl] w fun e w' => e = .returned (.tuple #[.int .i64 (Fd.onto g fl), .nilIface]) ∧ Below w.heap.size w w' := by
  have F0 : Hid (Fl w v W H gs os) := h
  have HF : Hid (Fd.askFault (Fd.fault W H gs os) gs.length [(a : Int)] = 0) := ask1_good G ha
  obtain ⟨u1, u2, rfl, ⟨a1, c, rfl, c1, c2, ca⟩, ⟨b1, d, rfl, d1, d2, cb⟩⟩ := h
  have gl := G.gl
  have hal : a < gs.length := by omega
  have gp := G.pos.2
  obtain ⟨x, rfl, xl, hx⟩ := ca (by intro e; rw [e] at hal; simp at hal)
  have cx : Hid (w.cell? (x.add a) = some (.int .i64 g)) := hx a g hg
  have Xl : Hid (x.block < w.heap.size) := xl
  have gl2 : gs.length ≤ 144 := by omega
  clear cb hx xl G hg gl gp ha
  go_enter Tryd.func57, Tryd.ntmps57
  go_wp2_with fail
  refine (ask_any _ _ W H gs os [(a : Int)] _ (F0.out.below (((Below.refl _ _).alloc (Nat.le_refl _) _).alloc (by simp) _)) (Ro.lit1 (w := w.alloc _) a (by simp))).mono ?_
  rintro e w1 ⟨v1, rfl, hv, hb⟩
  have B1 : Hid (Below w.heap.size w w1) := (((Below.refl _ _).alloc (Nat.le_refl _) _).alloc (by simp) _).trans (hb.mono (by simp; omega))
  have X1 := ((Bf.mk' (w := w) W H (Value.slice (some x) gs.length c) (Value.slice b1 os.length d) rfl).below ((Below.refl _ _).alloc (Nat.le_refl _) (Obj.cells #[Value.int IntKind.i64 a] 3)) (by simp)).below hb (by simp; omega)
  have c2 := X1.c2
  have cg : w1.cell? (x.add a) = some (.int .i64 g) := by rw [B1.out.cell (p := x.add a) (by rw [add_block]; exact Xl.out)]; exact cx.out
  rw [HF.out] at hv
  clear hb X1
  rcases hv with ⟨hz, rfl⟩ | ⟨hz, rfl⟩
  · clear hz
    go_wp2_with fail
    refine (step_any _ _ _).mono ?_
    rintro e w2 ⟨rfl, rfl⟩
    go_wp2
    go_ret2
    exact ⟨rfl, B1⟩
  · exact absurd rfl hz
end Go.Proofs.YtamgjhehnblbgaaDoor

namespace Go.Proofs.YtamgjhehnblbgaaDoor
open Go.RowKit
set_option linter.unusedVariables false

set_option maxHeartbeats 1000000 in
theorem fat_any (u : UnV) (at_ : Int) (b : Nat) (w : World) (hc : w.cell? ⟨b, 0, none⟩ = some (.int .i64 at_)) :
    Calls Tryd.prog 58 #[u.val, .pointer (some ⟨b, 0, none⟩)] w fun e w' => e = .returned (.bool (u.at_ == at_)) ∧ Below w.heap.size w w' := by
  have hb : b < w.heap.size := cell_lt hc
  have hne : b ≠ w.heap.size := by omega
  unfold UnV.val
  go_enter Tryd.func58, Tryd.ntmps58
  go_wp2
  go_ret
  exact ⟨rfl, (Below.refl _ _).alloc (Nat.le_refl _) _⟩
theorem onto_or (g : Int) (fl : Bool) : Fd.onto g fl = 0 ∨ 0 < Fd.onto g fl := by
  unfold Fd.onto
  cases fl <;> (repeat' split) <;> omega
set_option maxRecDepth 100000 in
set_option maxHeartbeats 2000000 in
theorem isopen_any (f us : Value) (Wd_ H : Nat) (gs os : List Int) (ahead : List UnV) (a : Nat) (g : Int) (fl : Bool) (w : World) (hf : Fl w f Wd_ H gs os) (G : Fd.Good Wd_ H gs os) (hu : Unl w us ahead) (ha : a < Wd_ * H) (hg : gs[a]? = some g) :
    Calls Tryd.prog 47 #[f, us, .int .i64 (a : Nat), .bool fl] w fun e w' => e = .returned (.bool (Wd.open_ gs ahead (a : Nat) fl)) ∧ Below w.heap.size w w' := by
  have F : Hid (Fl w f Wd_ H gs os) := hf
  have U : Hid (Unl w us ahead) := hu
  have HG : Hid (Fd.Good Wd_ H gs os) := G
  have AT : Hid (a < Wd_ * H ∧ gs[a]? = some g) := ⟨ha, hg⟩
  have OP : Hid (Wd.open_ gs ahead (a : Nat) fl = (decide (0 < Fd.onto g fl) && !ahead.any (fun u => u.at_ == (a : Int)))) := by
    unfold Hid Wd.open_
    rw [Int.toNat_natCast, List.getD_eq_getElem?_getD, hg]
    rfl
  obtain ⟨u1, u2, rfl, h1, h2⟩ := hf
  clear h1 h2 G ha hg hu
  go_enter Tryd.func47, Tryd.ntmps47
  go_wp2_with fail
  have B0 : Hid (Below w.heap.size w ((w.alloc (Obj.cells #[.int .i64 (Wd_ : Int), .int .i64 (H : Int), u1, u2] 33)).alloc (Obj.cells #[.int .i64 (a : Int)] 3))) := ((Below.refl _ _).alloc (Nat.le_refl _) _).alloc (by simp) _
  have C0 : Hid (((w.alloc (Obj.cells #[.int .i64 (Wd_ : Int), .int .i64 (H : Int), u1, u2] 33)).alloc (Obj.cells #[.int .i64 (a : Int)] 3)).cell? ⟨w.heap.size + 1, 0, none⟩ = some (.int .i64 (a : Int))) := cell_of_new (by simp) rfl
  generalize ((w.alloc (Obj.cells #[.int .i64 (Wd_ : Int), .int .i64 (H : Int), u1, u2] 33)).alloc (Obj.cells #[.int .i64 (a : Int)] 3)) = w0 at *
  refine (Step_ok _ Wd_ H gs os a g fl w0 (F.out.below B0.out) HG.out AT.out.1 AT.out.2).mono ?_
  rintro e w1 ⟨rfl, hb1⟩
  have B1 : Hid (Below w.heap.size w w1) := B0.out.trans (hb1.mono B0.out.size)
  have C1 : Hid (w1.cell? ⟨w.heap.size + 1, 0, none⟩ = some (.int .i64 (a : Int))) := by unfold Hid; rw [hb1.cell (p := ⟨w.heap.size + 1, 0, none⟩) (cell_lt C0.out)]; exact C0.out
  clear hb1 C0
  obtain ⟨o, ho⟩ : ∃ o, Fd.onto g fl = o := ⟨_, rfl⟩
  have OR := onto_or g fl
  rw [ho] at OP OR ⊢
  clear ho
  rcases OR with rfl | hpos
  · have E : Hid (Wd.open_ gs ahead (a : Nat) fl = false) := by unfold Hid; rw [OP.out]; rfl
    go_wp2
    go_ret
    exact ⟨by rw [E.out]; rfl, B1.out⟩
  · have E : Hid (Wd.open_ gs ahead (a : Nat) fl = !ahead.any (fun u => u.at_ == (a : Int))) := by unfold Hid; rw [OP.out, decide_eq_true hpos]; rfl
    go_wp2_with fail
    refine (hasu_any 58 (by intro args w; go_simp) us #[.pointer (some ⟨w.heap.size + 1, 0, none⟩)] ahead (fun u => u.at_ == (a : Int)) w1 (U.out.below B1.out) (fun V hV k => fat_any k (a : Int) (w.heap.size + 1) V (by rw [hV.cell (p := ⟨w.heap.size + 1, 0, none⟩) (cell_lt C1.out)]; exact C1.out))).mono ?_
    rintro e w2 ⟨rfl, hb2⟩
    have B2 : Hid (Below w.heap.size w w2) := B1.out.trans (hb2.mono B1.out.size)
    obtain ⟨m, hm⟩ : ∃ m, ahead.any (fun u => u.at_ == (a : Int)) = m := ⟨_, rfl⟩
    rw [hm] at E ⊢
    clear hb2 hm
    go_wp2
    go_ret
    exact ⟨by rw [E.out]; rfl, B2.out⟩
end Go.Proofs.YtamgjhehnblbgaaDoor

namespace Go.Proofs.YtamgjhehnblbgaaDoor
open Go Go.RowKit
set_option linter.unusedVariables false

section
variable {P : Program} {ops : Array Oper} {md : Region.Mode} {C : World → Prop}

/-- the operation gives v, in each of the worlds C, and leaves one of them. -/
def YieldsC (P : Program) (ops : Array Oper) (C : World → Prop) (o : Oper) (v : Value) (a : Act) : Prop :=
  (Region.wanted o (yielded ops a.tmps) = true ∧ ∀ W, C W → ((execOp a.eval o).run P W = .ok (.value v) W ∨ ((execOp a.eval o).run P W = .ok .skip W ∧ v = undef) ∨
    ∃ f args, (execOp a.eval o).run P W = .ok (.enter f args) W ∧ Calls P f args W (fun e w' => e = .returned v ∧ C w'))) ∨
  (Region.wanted o (yielded ops a.tmps) = false ∧ v = undef)
def stC (P : Program) (ops : Array Oper) (C : World → Prop) (i : Nat) (K : Act → Prop) (a : Act) : Prop :=
  match ops[i]? with
  | none => K a
  | some o => ∃ v, YieldsC P ops C o v a ∧ K (a.put o.dst v)
theorem stC_mono {i : Nat} {a : Act} {K K' : Act → Prop} (h : ∀ a, K a → K' a) (hh : stC P ops C i K a) : stC P ops C i K' a := by
  unfold stC at *
  split
  · rename_i ho
    simp only [ho] at hh
    exact h _ hh
  · rename_i o ho
    simp only [ho] at hh
    obtain ⟨v, h1, h2⟩ := hh
    exact ⟨v, h1, h _ h2⟩
theorem YieldsC.of_same {o : Oper} {v : Value} {a a' : Act} (hy : YieldsC P ops C o v a) (he : execOp a'.eval o = execOp a.eval o)
    (hw : Region.wanted o (yielded ops a'.tmps) = Region.wanted o (yielded ops a.tmps)) : YieldsC P ops C o v a' := by
  unfold YieldsC at *
  rw [he, hw]
  exact hy
theorem stC_put {j : Nat} {oi oj : Oper} {v : Value} (hj : ops[j]? = some oj) (hap : oi.apart ops oj = true)
    (hsi : ∀ cs b, oi.op ≠ .select cs b) (hsj : ∀ cs b, oj.op ≠ .select cs b) {K : Act → Prop} {a : Act}
    (hy : YieldsC P ops C oi v a) (h : stC P ops C j K (a.put oi.dst v)) :
    stC P ops C j (fun a' => YieldsC P ops C oi v a' ∧ K (a'.put oi.dst v)) a := by
  obtain ⟨h1, h2, h3⟩ := Oper.apart_spec hap
  unfold stC at *
  simp only [hj] at *
  obtain ⟨u, hu, hk⟩ := h
  refine ⟨u, hu.of_same (execOp_put oj hsj a oi.dst v h1).symm (wanted_put oj a oi.dst v h1).symm, hy.of_same (execOp_put oi hsi a oj.dst u h3) (wanted_put oi a oj.dst u h3), ?_⟩
  rw [← Act.put_comm a v u h2]
  exact hk
theorem wpOp_of_stC {i : Nat} {a : Act} {W : World} {K : Act → Prop} {K' : Act → World → Prop} {Q' : Exit → Act → World → Prop} (h : ∀ a W, K a → C W → K' a W) (hh : stC P ops C i K a) (hW : C W) : wpOp P ops Q' i K' a W := by
  unfold stC at hh
  unfold wpOp
  split
  · rename_i ho
    simp only [ho] at hh
    exact h _ _ hh hW
  · rename_i o ho
    simp only [ho] at hh
    obtain ⟨v, hy, hk⟩ := hh
    rcases hy with ⟨hw, hr⟩ | ⟨hw, rfl⟩
    · simp only [hw, if_true]
      refine .inl ?_
      unfold Oper.wp
      rcases hr W hW with e | ⟨e, rfl⟩ | ⟨f, args, e, hc⟩
      · rw [e]
        exact h _ _ hk hW
      · rw [e]
        exact h _ _ hk hW
      · rw [e]
        exact hc.mono fun e w' ⟨he, hw'⟩ => by subst he; exact h _ _ hk hw'
    · simp only [hw]
      exact h _ _ hk hW
def wpAnyC (P : Program) (md : Region.Mode) (ops : Array Oper) (C : World → Prop) (n : Nat) (L : Array Bool → Act → Prop) : Nat → Array Bool → Act → Prop
  | 0, listed, a => L listed a
  | f + 1, listed, a =>
    Region.ready md ops listed ≠ [] ∧ ∀ i ∈ Region.ready md ops listed, i < n ∧ stC P ops C i (wpAnyC P md ops C n L f (listed.setIfInBounds i true)) a
theorem wpAny_of_headC {n g : Nat} {L : Array Bool → Act → Prop} {Q' : Exit → Act → World → Prop} (hL : ∀ listed a W, L listed a → C W → wpAny P md ops Q' g listed a W) :
    ∀ (f : Nat) (listed : Array Bool) (a : Act) (W : World), wpAnyC P md ops C n L f listed a → C W → wpAny P md ops Q' (f + g) listed a W
  | 0, listed, a, W, h, hW => by rw [Nat.zero_add]; exact hL _ _ _ h hW
  | f + 1, listed, a, W, h, hW => by
    rw [show f + 1 + g = (f + g) + 1 by omega]
    exact ⟨fun h0 => absurd h0 h.1, fun i hi => wpOp_of_stC (fun a' W' h' hW' => wpAny_of_headC hL f _ a' W' h' hW') (h.2 i hi).2 hW⟩
theorem wpAnyC_first {n i : Nat} {oi : Oper} {v : Value} {L : Array Bool → Act → Prop} (hi : ops[i]? = some oi) (hsel : ∀ (j : Nat) (o : Oper) cs b, ops[j]? = some o → o.op ≠ .select cs b)
    (hs : Region.sinkB md ops n = true) (hc : Region.chainB md ops n = true) (hn : n < ops.size) (hin : i < n)
    (hdone : ∀ listed a, L listed a → ∀ j ∈ Region.ready md ops listed, n ≤ j) :
    ∀ (f : Nat) (listed : Array Bool) (a : Act), HeadInv md ops n listed →
      (∀ j oj, ops[j]? = some oj → j ≠ i → listed.getD j true = false → (∀ e ∈ oj.after, Region.binds md e = true → e.on ≠ i) → oi.apart ops oj = true) →
      i ∈ Region.ready md ops listed → YieldsC P ops C oi v a →
      wpAnyC P md ops C n L f (listed.setIfInBounds i true) (a.put oi.dst v) → wpAnyC P md ops C n L (f + 1) listed a := by
  have hit : ∀ {K : Act → Prop} {a : Act}, YieldsC P ops C oi v a → K (a.put oi.dst v) → stC P ops C i K a := fun hy hk => by
    unfold stC
    simp only [hi]
    exact ⟨v, hy, hk⟩
  intro f
  induction f with
  | zero =>
    intro listed a inv _ hr hy H
    have hun := (mem_ready.1 hr).1
    refine ⟨fun h => (by rw [h] at hr; cases hr), fun j hj => ?_⟩
    have hjn : j < n := by
      rcases Nat.lt_or_ge j n with h | h
      · exact h
      · exact absurd hj (tail_waits hs hc hn inv _ i rfl hin hun j h)
    refine ⟨hjn, ?_⟩
    by_cases hji : j = i
    · subst hji; exact hit hy H
    · have := hdone _ _ H j (ready_mono hj hji)
      omega
  | succ f ih =>
    intro listed a inv hfree hr hy H
    have hun := (mem_ready.1 hr).1
    refine ⟨fun h => (by rw [h] at hr; cases hr), fun j hj => ?_⟩
    have hjn : j < n := by
      rcases Nat.lt_or_ge j n with h | h
      · exact h
      · exact absurd hj (tail_waits hs hc hn inv _ i rfl hin hun j h)
    refine ⟨hjn, ?_⟩
    by_cases hji : j = i
    · subst hji; exact hit hy H
    · have h1 := (H.2 j (ready_mono hj hji)).2
      obtain ⟨hjun, oj, hoj, hall⟩ := mem_ready.1 hj
      have hnot : ∀ e ∈ oj.after, Region.binds md e = true → e.on ≠ i := fun e he hb heq => by
        have h1 := hall e he hb
        rw [heq, getD_both hun] at h1
        cases h1
      have h2 := stC_put hoj (hfree j oj hoj hji hjun hnot) (fun cs b => hsel i oi cs b hi) (fun cs b => hsel j oj cs b hoj) hy h1
      have hfree' : ∀ k ok, ops[k]? = some ok → k ≠ i → (listed.setIfInBounds j true).getD k true = false →
          (∀ e ∈ ok.after, Region.binds md e = true → e.on ≠ i) → oi.apart ops ok = true := fun k ok hk hki hun hno => by
        refine hfree k ok hk hki ?_ hno
        by_cases hjk : j = k
        · subst hjk; exact hjun
        · rw [getD_set_ne true hjk] at hun; exact hun
      refine stC_mono (fun a' h3 => ih (listed.setIfInBounds j true) a' (inv.set hj hjn) hfree' (ready_mono hr (Ne.symm hji)) h3.1 ?_) h2
      rw [Array.setIfInBounds_comm _ _ hji]
      exact h3.2
/-- the head, in the text's order. -/
def wpHead (P : Program) (ops : Array Oper) (C : World → Prop) (Q : Act → Prop) : List Oper → Act → Prop
  | [], a => Q a
  | o :: rest, a => ∃ v, YieldsC P ops C o v a ∧ wpHead P ops C Q rest (a.put o.dst v)
theorem wpAnyC_lex {n g : Nat} {Lq : Act → Prop} (hsel : Region.noSelect ops = true) (hs : Region.sinkB md ops n = true) (hc : Region.chainB md ops n = true) (hn : n < ops.size) :
    ∀ (l : List Oper) (k : Nat) (listed : Array Bool) (a : Act), (∀ j, j < l.length → l[j]? = ops[k + j]?) → k + l.length = n → HeadInv md ops n listed →
    Region.lexHead md ops g l.length k listed = true → wpHead P ops C Lq l a →
    wpAnyC P md ops C n (fun listed' a' => Region.seqB md ops g n listed' = true ∧ Lq a') l.length listed a
  | [], k, listed, a, _, hk, _, hB, h => by
    have : k = n := by simpa using hk
    subst this
    exact ⟨by simpa [Region.lexHead] using hB, h⟩
  | o :: l, k, listed, a, hl, hk, inv, hB, h => by
    have h0 : ops[k]? = some o := by simpa using (hl 0 (by simp)).symm
    simp only [List.length_cons, Region.lexHead, Bool.and_eq_true] at hB
    obtain ⟨⟨hr, hf⟩, hB'⟩ := hB
    have hkn : k < n := by simp only [List.length_cons] at hk; omega
    have hr' : k ∈ Region.ready md ops listed := by simpa using hr
    obtain ⟨v, hy, hK⟩ := h
    exact wpAnyC_first h0 (Region.noSelect_spec hsel) hs hc hn hkn (fun listed' a' hL => seqB_ready hL.1) l.length listed a inv (Region.free_spec h0 hf) hr' hy
      (wpAnyC_lex hsel hs hc hn l (k + 1) _ _ (fun j hj => by have := hl (j + 1) (by simp; omega); simpa [Nat.add_assoc, Nat.add_comm 1 j] using this) (by simp only [List.length_cons] at hk; omega) (inv.set hr' hkn) hB' hK)
/-- the region: its head in the text's order, in each of the worlds C; its tail behind it. -/
theorem wp_region_class {id : Nat} {Q : Exit → Act → World → Prop} {a : Act} {w : World} {l : List Oper} (n : Nat) (C : World → Prop) (hm : P.follows .mixedOrders = true) (hB : Region.lexTailB .any l.toArray n = true)
    (hC : C { w with drawn := w.drawn + 1 }) (h : wpHead P l.toArray C (fun a' => ∀ W, C W → wpList P l.toArray Q (l.drop n) a' W) (l.take n) a) : (Code.region id l.toArray true).wp P Q a w := by
  simp only [Region.lexTailB, Bool.and_eq_true, decide_eq_true_eq] at hB
  obtain ⟨⟨⟨⟨hsel, hn⟩, hs⟩, hc⟩, hlex⟩ := hB
  have hn' : n < l.length := by simpa using hn
  have htl : (l.take n).length = n := by simp; omega
  have hdl : (l.drop n).length = l.toArray.size - n := by simp
  have inv0 : HeadInv .any l.toArray n (Array.replicate l.toArray.size false) :=
    ⟨by simp, fun j oj _ hl => (by rw [getD_replicate_false] at hl; cases hl), fun t _ ht => getD_in (by simpa using ht) (getD_replicate_false _ _)⟩
  have H := wpAnyC_lex (md := .any) (g := l.toArray.size - n) hsel hs hc hn (l.take n) 0 _ a (fun j hj => by
    have hj' : j < n := by rw [htl] at hj; exact hj
    simp [hj']) (by simpa using htl) inv0 (by rw [htl]; exact hlex) h
  refine wp_region_any hm ?_
  have := wpAny_of_headC (Q' := Q) (g := l.toArray.size - n) (fun listed a' W hL hW => by
    have := wpAny_of_seq (md := .any) (Q' := Q) (l.drop n) n listed a' W (fun j => by simp [List.getElem?_drop]) (by rw [hdl]; exact hL.1) (hL.2 W hW)
    rwa [hdl] at this) _ _ _ _ H hC
  rw [htl, show n + (l.toArray.size - n) = l.toArray.size by omega] at this
  exact this
end
theorem head_step {P : Program} {ops : Array Oper} {C : World → Prop} {Q : Act → Prop} {o : Oper} {rest : List Oper} {a : Act} (v : Value) (hw : Region.wanted o (yielded ops a.tmps) = true) (hr : ∀ W, C W → (execOp a.eval o).run P W = .ok (.value v) W) (h : wpHead P ops C Q rest (a.put o.dst v)) : wpHead P ops C Q (o :: rest) a :=
  ⟨v, .inl ⟨hw, fun W hW => .inl (hr W hW)⟩, h⟩
theorem head_call {P : Program} {ops : Array Oper} {C : World → Prop} {Q : Act → Prop} {o : Oper} {rest : List Oper} {a : Act} (v : Value) (f : FuncId) (args : Array Value) (hw : Region.wanted o (yielded ops a.tmps) = true) (hr : ∀ W, C W → (execOp a.eval o).run P W = .ok (.enter f args) W)
    (hc : ∀ W, C W → Calls P f args W (fun e w' => e = .returned v ∧ C w')) (h : wpHead P ops C Q rest (a.put o.dst v)) : wpHead P ops C Q (o :: rest) a :=
  ⟨v, .inl ⟨hw, fun W hW => .inr (.inr ⟨f, args, hr W hW, hc W hW⟩)⟩, h⟩

end Go.Proofs.YtamgjhehnblbgaaDoor

namespace Go.Proofs.YtamgjhehnblbgaaDoor
open Go.RowKit
set_option linter.unusedVariables false

theorem uf1 {ks : List KV} {W : WV} {i : Nat} {u : UnV} (h : decide (1 ≤ u.id ∧ u.id ≤ W.next - 1) = false) : Wd.unitFault ks W i u = 1 := by unfold Wd.unitFault; rw [h]; rfl
theorem uf2 {ks : List KV} {W : WV} {i : Nat} {u : UnV} (h : decide (1 ≤ u.id ∧ u.id ≤ W.next - 1) = true) (h2 : Wd.notAbove W.us i u = true) : Wd.unitFault ks W i u = 5 := by unfold Wd.unitFault; rw [h, h2]; rfl
theorem uf3 {ks : List KV} {W : WV} {i : Nat} {u : UnV} (h : decide (1 ≤ u.id ∧ u.id ≤ W.next - 1) = true) (h2 : Wd.notAbove W.us i u = false) (h3 : Wd.has W.gold.length u.player = false) : Wd.unitFault ks W i u = 1 := by unfold Wd.unitFault; rw [h, h2, h3]; rfl
theorem uf4 {ks : List KV} {W : WV} {i : Nat} {u : UnV} (h : decide (1 ≤ u.id ∧ u.id ≤ W.next - 1) = true) (h2 : Wd.notAbove W.us i u = false) (h3 : Wd.has W.gold.length u.player = true) (h4 : Wd.has ks.length u.kind = false) : Wd.unitFault ks W i u = 1 := by unfold Wd.unitFault; rw [h, h2, h3, h4]; rfl
theorem uf5 {ks : List KV} {W : WV} {i : Nat} {u : UnV} {k : KV} (h : decide (1 ≤ u.id ∧ u.id ≤ W.next - 1) = true) (h2 : Wd.notAbove W.us i u = false) (h3 : Wd.has W.gold.length u.player = true) (h4 : Wd.has ks.length u.kind = true) (h5 : ks[u.kind.toNat]? = some k) : Wd.unitFault ks W i u = Wd.kindPart W (W.us.take i) u k := by unfold Wd.unitFault; rw [h, h2, h3, h4, h5]; rfl
theorem wwithin_yes (x lo hi : Int) (w : World) (h : lo ≤ x ∧ x ≤ hi) : Calls Tryd.prog 43 #[.int .i64 x, .int .i64 lo, .int .i64 hi] w fun e w' => e = .returned (.bool true) ∧ w' = w := (wwithin_any x lo hi w).mono fun e w' ⟨h1, h2⟩ => ⟨by rw [h1, decide_eq_true h], h2⟩
theorem wwithin_no (x lo hi : Int) (w : World) (h : ¬ (lo ≤ x ∧ x ≤ hi)) : Calls Tryd.prog 43 #[.int .i64 x, .int .i64 lo, .int .i64 hi] w fun e w' => e = .returned (.bool false) ∧ w' = w := (wwithin_any x lo hi w).mono fun e w' ⟨h1, h2⟩ => ⟨by rw [h1, decide_eq_false h], h2⟩
section
variable {W : WV} {ah : List UnV} {u : UnV} {k : KV}
theorem kp1 (h : ¬ (1 ≤ u.life ∧ u.life ≤ k.n0) ∨ ¬ (0 ≤ u.load ∧ u.load ≤ k.n7) ∨ ¬ (0 ≤ u.task ∧ u.task ≤ 2)) : Wd.kindPart W ah u k = 1 := by
  unfold Wd.kindPart
  rw [if_pos]
  rcases h with h | h | h <;> simp only [decide_eq_false h, Bool.not_false, Bool.true_or, Bool.or_true]
theorem kp6 (h5 : 1 ≤ u.life ∧ u.life ≤ k.n0) (h6 : 0 ≤ u.load ∧ u.load ≤ k.n7) (h7 : 0 ≤ u.task ∧ u.task ≤ 2) (h : ¬ (0 ≤ u.at_ ∧ u.at_ < (W.gs.length : Int)) ∨ ¬ (0 ≤ u.goal ∧ u.goal < (W.gs.length : Int))) : Wd.kindPart W ah u k = 6 := by
  unfold Wd.kindPart Wd.has
  rw [decide_eq_true h5, decide_eq_true h6, decide_eq_true h7, if_neg (by decide), if_pos]
  rcases h with h | h <;> simp only [decide_eq_false h, Bool.not_false, Bool.true_or, Bool.or_true]
theorem kp7 (h5 : 1 ≤ u.life ∧ u.life ≤ k.n0) (h6 : 0 ≤ u.load ∧ u.load ≤ k.n7) (h7 : 0 ≤ u.task ∧ u.task ≤ 2) (h8 : 0 ≤ u.at_ ∧ u.at_ < (W.gs.length : Int)) (h9 : 0 ≤ u.goal ∧ u.goal < (W.gs.length : Int)) (h : Wd.open_ W.gs ah u.at_ k.f = false ∨ (u.goal ≠ 0 ∧ u.task = 0)) : Wd.kindPart W ah u k = 7 := by
  unfold Wd.kindPart Wd.has
  rw [decide_eq_true h5, decide_eq_true h6, decide_eq_true h7, decide_eq_true h8, decide_eq_true h9, if_neg (by decide), if_neg (by decide), if_pos]
  rcases h with h | ⟨h, h'⟩
  · rw [h]; rfl
  · simp [h, h']
theorem kp0 (h5 : 1 ≤ u.life ∧ u.life ≤ k.n0) (h6 : 0 ≤ u.load ∧ u.load ≤ k.n7) (h7 : 0 ≤ u.task ∧ u.task ≤ 2) (h8 : 0 ≤ u.at_ ∧ u.at_ < (W.gs.length : Int)) (h9 : 0 ≤ u.goal ∧ u.goal < (W.gs.length : Int)) (h : Wd.open_ W.gs ah u.at_ k.f = true) (h' : u.goal = 0 ∨ u.task ≠ 0) : Wd.kindPart W ah u k = 0 := by
  unfold Wd.kindPart Wd.has
  rw [decide_eq_true h5, decide_eq_true h6, decide_eq_true h7, decide_eq_true h8, decide_eq_true h9, h, if_neg (by decide), if_neg (by decide), if_neg]
  rcases h' with h' | h' <;> simp [h']
end
theorem Unl.take_ {w : World} {a : Option Addr} {n c : Nat} {us : List UnV} (h : Unl w (.slice a n c) us) {q : Nat} (hq : q ≤ us.length) : Unl w (.slice a q c) (us.take q) := by
  obtain ⟨a', c', e, h1, h2, h3⟩ := h
  injection e with e1 e2 e3
  subst e1 e3
  have hl : (us.take q).length = q := by rw [List.length_take]; omega
  refine ⟨a, c, by rw [hl], by omega, h2, fun hn => ?_⟩
  obtain ⟨x, e, hx, hc⟩ := h3 (by intro e; rw [e] at hn; simp at hn)
  refine ⟨x, e, hx, fun i k hk => hc i k ?_⟩
  rw [List.getElem?_take] at hk
  split at hk
  · exact hk
  · cases hk
set_option maxRecDepth 100000 in
set_option maxHeartbeats 16000000 in
theorem unit_any (vk vw : Value) (ks : List KV) (W : WV) (Wn Hn : Nat) (i : Nat) (u : UnV) (w : World) (hk : Kl w vk ks) (hw : Wl w vw W) (hW : W.wide = Wn) (hH : W.high = Hn) (G : Fd.Good Wn Hn W.gs W.os) (hu : W.us[i]? = some u) (hn : Wd.off 1 W.next = false) (hul : W.us.length ≤ 40) (hkl : ks.length ≤ 8) (hgl : W.gold.length ≤ 4) :
    Calls Tryd.prog 30 #[vk, vw, .int .i64 (i : Nat)] w fun e w' => ∃ r, e = .returned r ∧ Er r (Wd.unitFault ks W i u) ∧ Below w.heap.size w w' := by
  have K : Hid (Kl w vk ks) := hk
  have H : Hid (Wl w vw W) := hw
  have HG : Hid (Fd.Good Wn Hn W.gs W.os ∧ W.wide = Wn ∧ W.high = Hn) := ⟨G, hW, hH⟩
  have HU : Hid (W.us[i]? = some u) := hu
  have gl144 : W.gs.length ≤ 144 := by have := G.gl; have := G.pos; have := G.pos.2; omega
  obtain ⟨u1, u2, u3, u4, u5, rfl, r1, r2, r3, r4, r5⟩ := hw
  obtain ⟨p1, q1, rfl, -⟩ := r1
  obtain ⟨p2, q2, rfl, -⟩ := r2
  obtain ⟨p3, q3, rfl, -⟩ := r3
  obtain ⟨p4, q4, rfl, k41, k42, k43⟩ := r4
  obtain ⟨p5, q5, rfl, -⟩ := r5
  obtain ⟨pk, qk, rfl, kk1, kk2, kk3⟩ := hk
  have hil : i < W.us.length := (List.getElem?_eq_some_iff.1 hu).1
  have hili : (i : Int) < (W.us.length : Int) := by omega
  obtain ⟨x, rfl, hx, hcell⟩ := k43 (by intro e; rw [e] at hil; simp at hil)
  have UC : Hid (x.block < w.heap.size ∧ ∀ (i : Nat) k, W.us[i]? = some k → Unc w (x.add (i * 8)) k) := ⟨hx, hcell⟩
  obtain ⟨d0, d1, d2, d3, d4, d5, d6, d7⟩ := hcell i u hu
  have nx : 1 ≤ W.next ∧ W.next ≤ 1000000 := by
    unfold Wd.off at hn
    have : decide (1 ≤ W.next ∧ W.next ≤ 1000000) = true := by cases h : decide (1 ≤ W.next ∧ W.next ≤ 1000000) with | true => rfl | false => rw [h] at hn; cases hn
    exact of_decide_eq_true this
  obtain ⟨n1, hn1⟩ : ∃ n1 : Int, W.next - 1 = n1 := ⟨_, rfl⟩
  have wn1 : IntKind.i64.wrap n1 = n1 := by rw [IntKind.wrap_i64]; omega
  obtain ⟨b1, hb1⟩ : ∃ b, decide (1 ≤ u.id ∧ u.id ≤ n1) = b := ⟨_, rfl⟩
  have HB1 : Hid (decide (1 ≤ u.id ∧ u.id ≤ W.next - 1) = b1) := by unfold Hid; rw [hn1]; exact hb1
  clear hcell hx k43 hn nx hu hW hH G
  go_enter Tryd.func30, Tryd.ntmps30
  go_upto_region 1 with fail
  have Y0 : Hid (Bw (w.alloc (Obj.cells #[.int .i64 W.turn, .int .i64 W.next, .int .i64 W.wide, .int .i64 W.high, .slice p1 W.gs.length q1, .slice p2 W.os.length q2, .slice p3 W.gold.length q3, .slice (some x) W.us.length q4, .slice p5 W.qs.length q5] 37)) w.heap.size W (.slice p1 W.gs.length q1) (.slice p2 W.os.length q2) (.slice p3 W.gold.length q3) (.slice (some x) W.us.length q4) (.slice p5 W.qs.length q5)) := Bw.mk' W _ _ _ _ _ rfl
  have BY : Hid (Below w.heap.size w (w.alloc (Obj.cells #[.int .i64 W.turn, .int .i64 W.next, .int .i64 W.wide, .int .i64 W.high, .slice p1 W.gs.length q1, .slice p2 W.os.length q2, .slice p3 W.gold.length q3, .slice (some x) W.us.length q4, .slice p5 W.qs.length q5] 37))) := (Below.refl _ _).alloc (Nat.le_refl _) _
  have SY : Hid ((w.alloc (Obj.cells #[.int .i64 W.turn, .int .i64 W.next, .int .i64 W.wide, .int .i64 W.high, .slice p1 W.gs.length q1, .slice p2 W.os.length q2, .slice p3 W.gold.length q3, .slice (some x) W.us.length q4, .slice p5 W.qs.length q5] 37)).heap.size = w.heap.size + 1) := by unfold Hid; simp
  generalize (w.alloc (Obj.cells #[.int .i64 W.turn, .int .i64 W.next, .int .i64 W.wide, .int .i64 W.high, .slice p1 W.gs.length q1, .slice p2 W.os.length q2, .slice p3 W.gold.length q3, .slice (some x) W.us.length q4, .slice p5 W.qs.length q5] 37)) = wy at *
  clear d0 d1 d2 d3 d4 d5 d6 d7
  obtain ⟨d0, d1, d2, d3, d4, d5, d6, d7⟩ := (UC.out.2 i u HU.out).below BY.out (by rw [add_block]; exact UC.out.1)
  have x7 := Y0.out.c7
  go_upto_region 2 with fail
  have X0 : Hid (Bw (wy.alloc (Obj.cells #[.int .i64 u.id, .int .i64 u.player, .int .i64 u.kind, .int .i64 u.at_, .int .i64 u.life, .int .i64 u.load, .int .i64 u.task, .int .i64 u.goal] 45)) w.heap.size W (.slice p1 W.gs.length q1) (.slice p2 W.os.length q2) (.slice p3 W.gold.length q3) (.slice (some x) W.us.length q4) (.slice p5 W.qs.length q5)) := Y0.out.below ((Below.refl _ _).alloc (Nat.le_refl _) _) Y0.out.lt
  have U0 : Hid (Unc (wy.alloc (Obj.cells #[.int .i64 u.id, .int .i64 u.player, .int .i64 u.kind, .int .i64 u.at_, .int .i64 u.life, .int .i64 u.load, .int .i64 u.task, .int .i64 u.goal] 45)) ⟨wy.heap.size, 0, none⟩ u) := Unc.mk' u rfl
  have B0 : Hid (Below w.heap.size w (wy.alloc (Obj.cells #[.int .i64 u.id, .int .i64 u.player, .int .i64 u.kind, .int .i64 u.at_, .int .i64 u.life, .int .i64 u.load, .int .i64 u.task, .int .i64 u.goal] 45))) := BY.out.alloc BY.out.size _
  generalize (wy.alloc (Obj.cells #[.int .i64 u.id, .int .i64 u.player, .int .i64 u.kind, .int .i64 u.at_, .int .i64 u.life, .int .i64 u.load, .int .i64 u.task, .int .i64 u.goal] 45)) = w0 at *
  generalize wy.heap.size = zu at *
  clear d0 d1 d2 d3 d4 d5 d6 d7 x7 Y0 BY SY
  obtain ⟨x0, x1, x2, x3, x4, x5, x6, x7, x8⟩ := X0.out
  obtain ⟨y0, y1, y2, y3, y4, y5, y6, y7⟩ := U0.out
  go_wp2_with fail
  refine (wwithin_any u.id 1 n1 w0).mono ?_
  rintro e ww ⟨rfl, rfl⟩
  rw [hb1]
  clear hb1 hn1 wn1
  cases b1 with
  | false =>
    go_wp2
    go_ret
    exact ⟨_, rfl, by rw [uf1 HB1.out]; exact Er.no (by decide), B0.out⟩
  | true =>
    obtain ⟨b2, hb2⟩ : ∃ b, Wd.notAbove W.us i u = b := ⟨_, rfl⟩
    have HB2 : Hid (Wd.notAbove W.us i u = b2) := hb2
    go_upto_region 4 with fail
    go_cut [2, 22] from 23 to 36 (fun v2 v22 V => v2 = .int .i64 (i : Nat) ∧ v22 = .bool b2 ∧ Below ww.heap.size ww V)
    case first =>
      rcases Nat.eq_zero_or_pos i with hi0 | hi0
      · have g0 : ¬ (0 : Int) < (i : Int) := by omega
        have hbf : b2 = false := by rw [← hb2, hi0]; rfl
        subst hbf
        clear hb2
        have HI0 : Hid (i = 0) := hi0
        have hnp : ¬ 0 < i := by omega
        clear hi0
        go_quiet (fail)
        go_wp2
        go_meet
        case rel => exact ⟨by first | rfl | rw [HI0.out], rfl, _root_.Go.below_drewN (Below.refl _ _) _⟩
      · obtain ⟨j, hj⟩ : ∃ j, i = j + 1 := ⟨i - 1, by omega⟩
        obtain ⟨v, hv⟩ : ∃ v, W.us[j]? = some v := ⟨_, List.getElem?_eq_getElem (by omega)⟩
        have e0 : (i : Int) - 1 = (j : Nat) := by omega
        have g0 : (0 : Int) < (i : Int) := by omega
        have wj : IntKind.i64.wrap ((j : Nat) : Int) = (j : Nat) := by rw [IntKind.wrap_i64]; omega
        have jl : (j : Int) < (W.us.length : Int) := by omega
        obtain ⟨d0, -, -, -, -, -, -, -⟩ := (UC.out.2 j v hv).below B0.out (by rw [add_block]; exact UC.out.1)
        have hb : decide (u.id ≤ v.id) = b2 := by rw [← hb2, hj]; unfold Wd.notAbove; simp only [hv]
        clear hj hb2 hv
        cases b2
        · have hgt : ¬ u.id ≤ v.id := of_decide_eq_false hb
          clear hb
          go_quiet (fail)
          go_wp2
          go_meet
          case rel => exact ⟨by first | rfl | rw [HI0.out], rfl, _root_.Go.below_drewN (Below.refl _ _) _⟩
        · have hle : u.id ≤ v.id := of_decide_eq_true hb
          clear hb
          go_quiet (fail)
          go_wp2
          go_meet
          case rel => exact ⟨by first | rfl | rw [HI0.out], rfl, _root_.Go.below_drewN (Below.refl _ _) _⟩
    case rest =>
      obtain ⟨rfl, rfl, hbc⟩ := hcut
      have BC : Hid (Below w.heap.size w wc) := B0.out.trans (hbc.mono B0.out.size)
      have XC : Hid (Bw wc w.heap.size W (.slice p1 W.gs.length q1) (.slice p2 W.os.length q2) (.slice p3 W.gold.length q3) (.slice (some x) W.us.length q4) (.slice p5 W.qs.length q5)) := X0.out.below hbc X0.out.lt
      have VC : Hid (Unc wc ⟨zu, 0, none⟩ u) := U0.out.below hbc U0.out.lt
      clear hbc hb2 x0 x1 x2 x3 x4 x5 x6 x7 x8 y0 y1 y2 y3 y4 y5 y6 y7 X0 U0 B0
      obtain ⟨x0, x1, x2, x3, x4, x5, x6, x7, x8⟩ := XC.out
      obtain ⟨y0, y1, y2, y3, y4, y5, y6, y7⟩ := VC.out
      cases b2 with
      | true =>
        go_wp2
        go_ret
        exact ⟨_, rfl, by rw [uf2 HB1.out HB2.out]; exact Er.no (by decide), BC.out⟩
      | false =>
        obtain ⟨b3, hb3⟩ : ∃ b, decide (0 ≤ u.player ∧ u.player < (W.gold.length : Int)) = b := ⟨_, rfl⟩
        have HB3 : Hid (Wd.has W.gold.length u.player = b3) := hb3
        go_wp2_with fail
        refine (isone_ints _ _ _ _ _ (by omega)).mono ?_
        rintro e w5 ⟨rfl, hww⟩
        obtain rfl := hww.symm
        rw [hb3]
        clear hb3
        cases b3 with
        | false =>
          go_wp2
          go_ret
          exact ⟨_, rfl, by rw [uf3 HB1.out HB2.out HB3.out]; exact Er.no (by decide), BC.out⟩
        | true =>
          obtain ⟨b4, hb4⟩ : ∃ b, decide (0 ≤ u.kind ∧ u.kind < (ks.length : Int)) = b := ⟨_, rfl⟩
          have HB4 : Hid (Wd.has ks.length u.kind = b4) := hb4
          go_wp2_with fail
          refine (isone_kinds _ _ _ _ _ (by omega)).mono ?_
          rintro e w6 ⟨rfl, hww⟩
          obtain rfl := hww.symm
          rw [hb4]
          cases b4 with
          | false =>
            clear hb4
            go_wp2
            go_ret
            exact ⟨_, rfl, by rw [uf4 HB1.out HB2.out HB3.out HB4.out]; exact Er.no (by decide), BC.out⟩
          | true =>
            have hkr := of_decide_eq_true hb4
            obtain ⟨kn, ek⟩ : ∃ kn : Nat, u.kind = kn := ⟨u.kind.toNat, by omega⟩
            have hkn : kn < ks.length := by omega
            obtain ⟨k, hkk⟩ : ∃ k, ks[kn]? = some k := ⟨_, List.getElem?_eq_getElem hkn⟩
            have UF : Hid (Wd.unitFault ks W i u = Wd.kindPart W (W.us.take i) u k) := uf5 HB1.out HB2.out HB3.out HB4.out (by rw [ek, Int.toNat_natCast]; exact hkk)
            obtain ⟨xk, rfl, hxk, hkc⟩ := kk3 (by intro e; rw [e] at hkn; simp at hkn)
            have hkni : (kn : Int) < (ks.length : Int) := by omega
            have KC : Hid (Kc _ (xk.add (kn * 11)) k) := (hkc kn k hkk).below BC.out (by rw [add_block]; exact hxk)
            rw [ek] at y2
            obtain ⟨l0, l1, l2, l3, l4, l5, l6, l7, l8, l9, l10⟩ := KC.out
            clear hkr hb4 hkc hxk hkk kk3
            go_upto_region 9 with fail
            by_cases h5 : 1 ≤ u.life ∧ u.life ≤ k.n0
            · go_quiet ((go_at_call 43; exact Calls.quiet_of_same (wwithin_yes _ _ _ _ h5)))
              have BC' : Hid (Below w.heap.size w (wc.drewN nq)) := _root_.Go.below_drewN BC.out nq
              have XC' : Hid (Bw (wc.drewN nq) w.heap.size W (.slice p1 W.gs.length q1) (.slice p2 W.os.length q2) (.slice p3 W.gold.length q3) (.slice (some x) W.us.length q4) (.slice p5 W.qs.length q5)) := XC.out.below (_root_.Go.below_drewN (Below.refl _ _) nq) XC.out.lt
              have VC' : Hid (Unc (wc.drewN nq) ⟨zu, 0, none⟩ u) := VC.out.below (_root_.Go.below_drewN (Below.refl _ _) nq) VC.out.lt
              have KC' : Hid (Kc (wc.drewN nq) (xk.add (kn * 11)) k) := KC.out.below (_root_.Go.below_drewN (Below.refl _ _) nq) KC.out.lt
              generalize wc.drewN nq = wd at *
              clear BC XC VC KC x0 x1 x2 x3 x4 x5 x6 x7 x8 y0 y1 y2 y3 y4 y5 y6 y7 l0 l1 l2 l3 l4 l5 l6 l7 l8 l9 l10
              obtain ⟨wc, hwc⟩ : ∃ wc, wc = wd := ⟨_, rfl⟩
              subst hwc
              have BC := BC'
              have XC := XC'
              have VC := VC'
              have KC := KC'
              clear BC' XC' VC' KC'
              obtain ⟨x0, x1, x2, x3, x4, x5, x6, x7, x8⟩ := XC.out
              obtain ⟨y0, y1, y2, y3, y4, y5, y6, y7⟩ := VC.out
              rw [ek] at y2
              obtain ⟨l0, l1, l2, l3, l4, l5, l6, l7, l8, l9, l10⟩ := KC.out
              go_upto_region 10 with fail
              by_cases h6 : 0 ≤ u.load ∧ u.load ≤ k.n7
              · go_quiet ((go_at_call 43; exact Calls.quiet_of_same (wwithin_yes _ _ _ _ h6)))
                have BC' : Hid (Below w.heap.size w (wc.drewN nq)) := _root_.Go.below_drewN BC.out nq
                have XC' : Hid (Bw (wc.drewN nq) w.heap.size W (.slice p1 W.gs.length q1) (.slice p2 W.os.length q2) (.slice p3 W.gold.length q3) (.slice (some x) W.us.length q4) (.slice p5 W.qs.length q5)) := XC.out.below (_root_.Go.below_drewN (Below.refl _ _) nq) XC.out.lt
                have VC' : Hid (Unc (wc.drewN nq) ⟨zu, 0, none⟩ u) := VC.out.below (_root_.Go.below_drewN (Below.refl _ _) nq) VC.out.lt
                have KC' : Hid (Kc (wc.drewN nq) (xk.add (kn * 11)) k) := KC.out.below (_root_.Go.below_drewN (Below.refl _ _) nq) KC.out.lt
                generalize wc.drewN nq = wd at *
                clear BC XC VC KC x0 x1 x2 x3 x4 x5 x6 x7 x8 y0 y1 y2 y3 y4 y5 y6 y7 l0 l1 l2 l3 l4 l5 l6 l7 l8 l9 l10
                obtain ⟨wc, hwc⟩ : ∃ wc, wc = wd := ⟨_, rfl⟩
                subst hwc
                have BC := BC'
                have XC := XC'
                have VC := VC'
                have KC := KC'
                clear BC' XC' VC' KC'
                obtain ⟨x0, x1, x2, x3, x4, x5, x6, x7, x8⟩ := XC.out
                obtain ⟨y0, y1, y2, y3, y4, y5, y6, y7⟩ := VC.out
                rw [ek] at y2
                obtain ⟨l0, l1, l2, l3, l4, l5, l6, l7, l8, l9, l10⟩ := KC.out
                by_cases h7 : 0 ≤ u.task ∧ u.task ≤ 2
                · go_wp2_with fail
                  refine (wwithin_yes _ _ _ _ h7).mono ?_
                  rintro e w8 ⟨rfl, hww⟩
                  obtain rfl := hww.symm
                  by_cases h8 : 0 ≤ u.at_ ∧ u.at_ < (W.gs.length : Int)
                  · have t8 : decide (0 ≤ u.at_ ∧ u.at_ < (W.gs.length : Int)) = true := decide_eq_true h8
                    go_wp2_with fail
                    refine (isone_ints _ _ _ _ _ (by omega)).mono ?_
                    rintro e w9 ⟨rfl, hww⟩
                    obtain rfl := hww.symm
                    rw [t8]
                    by_cases h9 : 0 ≤ u.goal ∧ u.goal < (W.gs.length : Int)
                    · have t9 : decide (0 ≤ u.goal ∧ u.goal < (W.gs.length : Int)) = true := decide_eq_true h9
                      go_wp2_with fail
                      refine (isone_ints _ _ _ _ _ (by omega)).mono ?_
                      rintro e w10 ⟨rfl, hww⟩
                      obtain rfl := hww.symm
                      rw [t9]
                      clear t8 t9
                      obtain ⟨an, ea⟩ : ∃ an : Nat, u.at_ = an := ⟨u.at_.toNat, by omega⟩
                      obtain ⟨g, hg0⟩ : ∃ g, W.gs[an]? = some g := ⟨_, List.getElem?_eq_getElem (by omega)⟩
                      have hgan : Hid (W.gs[an]? = some g) := hg0
                      clear hg0
                      have FC : Hid (∀ V, Below wc.heap.size wc V → V.cell? ⟨w.heap.size, 2, none⟩ = some (.int .i64 W.wide) ∧ V.cell? ⟨w.heap.size, 3, none⟩ = some (.int .i64 W.high) ∧ V.cell? ⟨w.heap.size, 4, none⟩ = some (.slice p1 W.gs.length q1) ∧ V.cell? ⟨w.heap.size, 5, none⟩ = some (.slice p2 W.os.length q2) ∧ V.cell? ⟨w.heap.size, 7, none⟩ = some (.slice (some x) W.us.length q4) ∧ V.cell? ⟨zu, 3, none⟩ = some (.int .i64 (an : Nat)) ∧ V.cell? ⟨zu, 2, none⟩ = some (.int .i64 (kn : Nat)) ∧ V.cell? ⟨(xk.add (kn * 11)).block, (xk.add (kn * 11)).off + 9, none⟩ = some (.bool k.f)) := fun V hV => by
                        obtain ⟨-, -, z2, z3, z4, z5, -, z7, -⟩ := XC.out.below hV XC.out.lt
                        obtain ⟨-, -, g2, g3, -, -, -, -⟩ := VC.out.below hV VC.out.lt
                        obtain ⟨-, -, -, -, -, -, -, -, -, m9, -⟩ := KC.out.below hV KC.out.lt
                        rw [ek] at g2
                        rw [ea] at g3
                        exact ⟨z2, z3, z4, z5, z7, g3, g2, m9⟩
                      have OPN : Hid (∀ V, Below wc.heap.size wc V → Calls Tryd.prog 47 #[.agg #[.int .i64 W.wide, .int .i64 W.high, .slice p1 W.gs.length q1, .slice p2 W.os.length q2], .slice (some x) i q4, .int .i64 (an : Nat), .bool k.f] V fun e w' => e = .returned (.bool (Wd.open_ W.gs (W.us.take i) (an : Nat) k.f)) ∧ Below wc.heap.size wc w') := fun V hV => by
                        have BV : Below w.heap.size w V := BC.out.trans (hV.mono BC.out.size)
                        obtain ⟨r1, r2, -, r4, -⟩ := (H.out.below BV).slices
                        obtain ⟨hGood, hWn, hHn⟩ := HG.out
                        rw [hWn, hHn]
                        exact (isopen_any _ _ Wn Hn W.gs W.os (W.us.take i) an g k.f V ⟨_, _, rfl, r1, r2⟩ hGood (r4.take_ (by omega)) (by have := hGood.gl; omega) hgan.out).mono fun e w' ⟨h1, h2⟩ => ⟨h1, hV.trans (h2.mono hV.size)⟩
                      have eo : ∀ args w, (callFunc 47 args).run Tryd.prog w = .ok (.enter 47 args) w := by intro args w; go_simp
                      have hin : (i : Int) ≤ (q4 : Int) := by omega
                      go_upto_region 16 with fail
                      refine wp_region_class 15 (fun V => Below wc.heap.size wc V) (by kernel_rfl) (by kernel_rfl) (Below.refl _ _).drew ?_
                      simp only [List.take_succ_cons, List.take_zero, List.drop_succ_cons, List.drop_zero]
                      refine head_step (.pointer (some ⟨w.heap.size, 2, none⟩)) (by go_simp) (fun V hV => by go_simp) ?_
                      go_simp
                      refine head_step (.agg #[.int .i64 W.wide, .int .i64 W.high, .slice p1 W.gs.length q1, .slice p2 W.os.length q2]) (by go_simp) (fun V hV => by obtain ⟨f2, f3, f4, f5, -⟩ := FC.out V hV; go_simp) ?_
                      go_simp
                      refine head_step (.pointer (some ⟨w.heap.size, 7, none⟩)) (by go_simp) (fun V hV => by go_simp) ?_
                      go_simp
                      refine head_step (.slice (some x) W.us.length q4) (by go_simp) (fun V hV => by obtain ⟨-, -, -, -, f7, -⟩ := FC.out V hV; go_simp) ?_
                      go_simp
                      refine head_step (.int .i64 (i : Nat)) (by go_simp) (fun V hV => by go_simp) ?_
                      go_simp
                      refine head_step (.slice (some x) i q4) (by go_simp) (fun V hV => by go_simp) ?_
                      go_simp
                      refine head_step (.pointer (some ⟨zu, 3, none⟩)) (by go_simp) (fun V hV => by go_simp) ?_
                      go_simp
                      refine head_step (.int .i64 (an : Nat)) (by go_simp) (fun V hV => by obtain ⟨-, -, -, -, -, f8, -⟩ := FC.out V hV; go_simp) ?_
                      go_simp
                      refine head_step (.slice (some xk) ks.length qk) (by go_simp) (fun V hV => by go_simp) ?_
                      go_simp
                      refine head_step (.pointer (some ⟨zu, 2, none⟩)) (by go_simp) (fun V hV => by go_simp) ?_
                      go_simp
                      refine head_step (.int .i64 (kn : Nat)) (by go_simp) (fun V hV => by obtain ⟨-, -, -, -, -, -, f9, -⟩ := FC.out V hV; go_simp) ?_
                      go_simp
                      refine head_step (.pointer (some (xk.add (kn * 11)))) (by go_simp) (fun V hV => by go_simp) ?_
                      go_simp
                      refine head_step (.pointer (some ⟨(xk.add (kn * 11)).block, (xk.add (kn * 11)).off + 9, none⟩)) (by go_simp) (fun V hV => by go_simp) ?_
                      go_simp
                      refine head_step (.bool k.f) (by go_simp) (fun V hV => by obtain ⟨-, -, -, -, -, -, -, f10⟩ := FC.out V hV; go_simp) ?_
                      go_simp
                      refine head_call (.bool (Wd.open_ W.gs (W.us.take i) (an : Nat) k.f)) 47 #[.agg #[.int .i64 W.wide, .int .i64 W.high, .slice p1 W.gs.length q1, .slice p2 W.os.length q2], .slice (some x) i q4, .int .i64 (an : Nat), .bool k.f] (by go_simp) (fun V hV => by go_simp) (fun V hV => OPN.out V hV) ?_
                      go_simp
                      intro V hV
                      have BV : Hid (Below w.heap.size w V) := BC.out.trans (hV.mono BC.out.size)
                      have VV : Hid (Unc V ⟨zu, 0, none⟩ u) := VC.out.below hV VC.out.lt
                      obtain ⟨b9, hb9⟩ : ∃ b, Wd.open_ W.gs (W.us.take i) (an : Nat) k.f = b := ⟨_, rfl⟩
                      have HB9 : Hid (Wd.open_ W.gs (W.us.take i) (an : Nat) k.f = b9) := hb9
                      rw [hb9]
                      clear hV FC OPN hb9 x0 x1 x2 x3 x4 x5 x6 x7 x8 y0 y1 y2 y3 y4 y5 y6 y7 l0 l1 l2 l3 l4 l5 l6 l7 l8 l9 l10
                      cases b9 with
                      | false =>
                        go_wp2
                        go_ret
                        exact ⟨_, rfl, by rw [UF.out, kp7 h5 h6 h7 h8 h9 (.inl (by rw [ea]; exact HB9.out))]; exact Er.no (by decide), BV.out⟩
                      | true =>
                        obtain ⟨y0, y1, y2, y3, y4, y5, y6, y7⟩ := VV.out
                        by_cases hgo : u.goal = 0
                        · have FINE : Hid (Wd.unitFault ks W i u = 0) := by unfold Hid; rw [UF.out, kp0 h5 h6 h7 h8 h9 (by rw [ea]; exact HB9.out) (.inl hgo)]
                          go_wp2
                          go_ret
                          exact ⟨_, rfl, by rw [FINE.out]; exact Er.nil, BV.out⟩
                        · by_cases hta : u.task = 0
                          · have BADF : Hid (Wd.unitFault ks W i u = 7) := by unfold Hid; rw [UF.out, kp7 h5 h6 h7 h8 h9 (.inr ⟨hgo, hta⟩)]
                            go_wp2
                            go_ret
                            exact ⟨_, rfl, by rw [BADF.out]; exact Er.no (by decide), BV.out⟩
                          · have FINE : Hid (Wd.unitFault ks W i u = 0) := by unfold Hid; rw [UF.out, kp0 h5 h6 h7 h8 h9 (by rw [ea]; exact HB9.out) (.inr hta)]
                            have tb : (u.task == 0) = false := by simpa using hta
                            clear hta
                            go_wp2
                            go_ret
                            exact ⟨_, rfl, by rw [FINE.out]; exact Er.nil, BV.out⟩
                    · have t9 : decide (0 ≤ u.goal ∧ u.goal < (W.gs.length : Int)) = false := decide_eq_false h9
                      go_wp2_with fail
                      refine (isone_ints _ _ _ _ _ (by omega)).mono ?_
                      rintro e w10 ⟨rfl, hww⟩
                      obtain rfl := hww.symm
                      rw [t9]
                      clear t9 t8
                      go_wp2
                      go_ret
                      exact ⟨_, rfl, by rw [UF.out, kp6 h5 h6 h7 (.inr h9)]; exact Er.no (by decide), BC.out⟩
                  · have t8 : decide (0 ≤ u.at_ ∧ u.at_ < (W.gs.length : Int)) = false := decide_eq_false h8
                    go_wp2_with fail
                    refine (isone_ints _ _ _ _ _ (by omega)).mono ?_
                    rintro e w9 ⟨rfl, hww⟩
                    obtain rfl := hww.symm
                    rw [t8]
                    clear t8
                    go_wp2
                    go_ret
                    exact ⟨_, rfl, by rw [UF.out, kp6 h5 h6 h7 (.inl h8)]; exact Er.no (by decide), BC.out⟩
                · go_wp2_with fail
                  refine (wwithin_no _ _ _ _ h7).mono ?_
                  rintro e w8 ⟨rfl, hww⟩
                  obtain rfl := hww.symm
                  go_wp2
                  go_ret
                  exact ⟨_, rfl, by rw [UF.out, kp1 (.inr (.inr h7))]; exact Er.no (by decide), BC.out⟩
              · go_quiet ((go_at_call 43; exact Calls.quiet_of_same (wwithin_no _ _ _ _ h6)))
                have BC' : Hid (Below w.heap.size w (wc.drewN nq)) := _root_.Go.below_drewN BC.out nq
                have XC' : Hid (Bw (wc.drewN nq) w.heap.size W (.slice p1 W.gs.length q1) (.slice p2 W.os.length q2) (.slice p3 W.gold.length q3) (.slice (some x) W.us.length q4) (.slice p5 W.qs.length q5)) := XC.out.below (_root_.Go.below_drewN (Below.refl _ _) nq) XC.out.lt
                have VC' : Hid (Unc (wc.drewN nq) ⟨zu, 0, none⟩ u) := VC.out.below (_root_.Go.below_drewN (Below.refl _ _) nq) VC.out.lt
                have KC' : Hid (Kc (wc.drewN nq) (xk.add (kn * 11)) k) := KC.out.below (_root_.Go.below_drewN (Below.refl _ _) nq) KC.out.lt
                generalize wc.drewN nq = wd at *
                clear BC XC VC KC x0 x1 x2 x3 x4 x5 x6 x7 x8 y0 y1 y2 y3 y4 y5 y6 y7 l0 l1 l2 l3 l4 l5 l6 l7 l8 l9 l10
                obtain ⟨wc, hwc⟩ : ∃ wc, wc = wd := ⟨_, rfl⟩
                subst hwc
                have BC := BC'
                have XC := XC'
                have VC := VC'
                have KC := KC'
                clear BC' XC' VC' KC'
                obtain ⟨x0, x1, x2, x3, x4, x5, x6, x7, x8⟩ := XC.out
                obtain ⟨y0, y1, y2, y3, y4, y5, y6, y7⟩ := VC.out
                rw [ek] at y2
                obtain ⟨l0, l1, l2, l3, l4, l5, l6, l7, l8, l9, l10⟩ := KC.out
                go_wp2
                go_ret
                exact ⟨_, rfl, by rw [UF.out, kp1 (.inr (.inl h6))]; exact Er.no (by decide), BC.out⟩
            · go_quiet ((go_at_call 43; exact Calls.quiet_of_same (wwithin_no _ _ _ _ h5)))
              have BC' : Hid (Below w.heap.size w (wc.drewN nq)) := _root_.Go.below_drewN BC.out nq
              have XC' : Hid (Bw (wc.drewN nq) w.heap.size W (.slice p1 W.gs.length q1) (.slice p2 W.os.length q2) (.slice p3 W.gold.length q3) (.slice (some x) W.us.length q4) (.slice p5 W.qs.length q5)) := XC.out.below (_root_.Go.below_drewN (Below.refl _ _) nq) XC.out.lt
              have VC' : Hid (Unc (wc.drewN nq) ⟨zu, 0, none⟩ u) := VC.out.below (_root_.Go.below_drewN (Below.refl _ _) nq) VC.out.lt
              have KC' : Hid (Kc (wc.drewN nq) (xk.add (kn * 11)) k) := KC.out.below (_root_.Go.below_drewN (Below.refl _ _) nq) KC.out.lt
              generalize wc.drewN nq = wd at *
              clear BC XC VC KC x0 x1 x2 x3 x4 x5 x6 x7 x8 y0 y1 y2 y3 y4 y5 y6 y7 l0 l1 l2 l3 l4 l5 l6 l7 l8 l9 l10
              obtain ⟨wc, hwc⟩ : ∃ wc, wc = wd := ⟨_, rfl⟩
              subst hwc
              have BC := BC'
              have XC := XC'
              have VC := VC'
              have KC := KC'
              clear BC' XC' VC' KC'
              obtain ⟨x0, x1, x2, x3, x4, x5, x6, x7, x8⟩ := XC.out
              obtain ⟨y0, y1, y2, y3, y4, y5, y6, y7⟩ := VC.out
              rw [ek] at y2
              obtain ⟨l0, l1, l2, l3, l4, l5, l6, l7, l8, l9, l10⟩ := KC.out
              go_wp2
              go_ret
              exact ⟨_, rfl, by rw [UF.out, kp1 (.inl h5)]; exact Er.no (by decide), BC.out⟩
end Go.Proofs.YtamgjhehnblbgaaDoor

namespace Go.Proofs.YtamgjhehnblbgaaDoor
open Go.RowKit
set_option linter.unusedVariables false

theorem find_fst {us : List UnV} {id : Int} : ∀ {r : Int}, FstU (fun u => u.id == id) us r → (r = -1 ∧ us.find? (fun u => u.id == id) = none) ∨ ∃ (n : Nat) (x : UnV), r = n ∧ us[n]? = some x ∧ us.find? (fun u => u.id == id) = some x
  | r, .inl ⟨h, h1⟩ => .inl ⟨h, by
      rw [List.find?_eq_none]
      intro x hx hp
      have : us.any (fun u => u.id == id) = true := List.any_eq_true.2 ⟨x, hx, hp⟩
      rw [h1] at this; cases this⟩
  | r, .inr ⟨n, x, h, h1, h2, h3⟩ => .inr ⟨n, x, h, h1, by
      have hn : n < us.length := (List.getElem?_eq_some_iff.1 h1).1
      have e : us = us.take n ++ x :: us.drop (n + 1) := by
        obtain ⟨hi, e⟩ := List.getElem?_eq_some_iff.1 h1
        rw [← e, ← List.drop_eq_getElem_cons hi, List.take_append_drop]
      have h4 : (us.take n).find? (fun u => u.id == id) = none := by
        rw [List.find?_eq_none]
        intro y hy hp
        have : (us.take n).any (fun u => u.id == id) = true := List.any_eq_true.2 ⟨y, hy, hp⟩
        rw [h3] at this; cases this
      rw [e, List.find?_append, h4]
      simp only [Option.none_or]
      have h2' : (x.id == id) = true := h2
      simp only [List.find?_cons, h2']⟩
theorem jf6 {ks : List KV} {W : WV} {j : JbV} (h : W.us.find? (fun u => u.id == j.unit) = none) : Wd.jobFault ks W j = 6 := by unfold Wd.jobFault; rw [h]
theorem jf7 {ks : List KV} {W : WV} {j : JbV} {u : UnV} {k : KV} (h : W.us.find? (fun u => u.id == j.unit) = some u) (hk : ks[u.kind.toNat]? = some k) (h7 : u.player ≠ j.player ∨ k.t = false) : Wd.jobFault ks W j = 7 := by
  unfold Wd.jobFault
  rw [h]
  simp only [hk]
  rw [if_pos]
  rcases h7 with h7 | h7 <;> simp [h7]
theorem jf1 {ks : List KV} {W : WV} {j : JbV} {u : UnV} {k : KV} (h : W.us.find? (fun u => u.id == j.unit) = some u) (hk : ks[u.kind.toNat]? = some k) (hp : u.player = j.player) (ht : k.t = true) (h1 : decide (0 ≤ j.kind ∧ j.kind < (ks.length : Int)) = false ∨ decide (1 ≤ j.left ∧ j.left ≤ 1000) = false) : Wd.jobFault ks W j = 1 := by
  unfold Wd.jobFault Wd.has
  rw [h]
  simp only [hk]
  rw [hp, ht, if_neg (by simp), if_pos]
  rcases h1 with h1 | h1 <;> rw [h1] <;> simp
theorem jf0 {ks : List KV} {W : WV} {j : JbV} {u : UnV} {k : KV} (h : W.us.find? (fun u => u.id == j.unit) = some u) (hk : ks[u.kind.toNat]? = some k) (hp : u.player = j.player) (ht : k.t = true) (h1 : decide (0 ≤ j.kind ∧ j.kind < (ks.length : Int)) = true) (h2 : decide (1 ≤ j.left ∧ j.left ≤ 1000) = true) : Wd.jobFault ks W j = 0 := by
  unfold Wd.jobFault Wd.has
  rw [h]
  simp only [hk]
  rw [hp, ht, h1, h2, if_neg (by simp), if_neg (by simp)]
set_option maxRecDepth 100000 in
set_option maxHeartbeats 8000000 in
theorem job_any (vk vw : Value) (ks : List KV) (W : WV) (j : JbV) (w : World) (hk : Kl w vk ks) (hw : Wl w vw W) (hul : W.us.length ≤ 40) (hkl : ks.length ≤ 8) (hall : ∀ u ∈ W.us, 0 ≤ u.kind ∧ u.kind < (ks.length : Int)) :
    Calls Tryd.prog 31 #[vk, vw, j.val] w fun e w' => ∃ r, e = .returned r ∧ Er r (Wd.jobFault ks W j) ∧ Below w.heap.size w w' := by
  have K : Hid (Kl w vk ks) := hk
  have H : Hid (Wl w vw W) := hw
  have HA : Hid (∀ u ∈ W.us, 0 ≤ u.kind ∧ u.kind < (ks.length : Int)) := hall
  obtain ⟨u1, u2, u3, u4, u5, rfl, r1, r2, r3, r4, r5⟩ := hw
  obtain ⟨p4, q4, rfl, k41, k42, k43⟩ := r4
  obtain ⟨pk, qk, rfl, kk1, kk2, kk3⟩ := hk
  have UC : Hid (W.us ≠ [] → ∃ x, p4 = some x ∧ x.block < w.heap.size ∧ ∀ (i : Nat) k, W.us[i]? = some k → Unc w (x.add (i * 8)) k) := k43
  have KK : Hid (ks ≠ [] → ∃ x, pk = some x ∧ x.block < w.heap.size ∧ ∀ (i : Nat) k, ks[i]? = some k → Kc w (x.add (i * 11)) k) := kk3
  clear r1 r2 r3 r5 k43 kk3 hall
  unfold JbV.val
  go_enter Tryd.func31, Tryd.ntmps31
  go_wp2_with fail
  have B0 : Hid (Below w.heap.size w ((w.alloc (Obj.cells #[.int .i64 W.turn, .int .i64 W.next, .int .i64 W.wide, .int .i64 W.high, u1, u2, u3, .slice p4 W.us.length q4, u5] 37)).alloc (Obj.cells #[.int .i64 j.player, .int .i64 j.unit, .int .i64 j.kind, .int .i64 j.left] 61))) := ((Below.refl _ _).alloc (Nat.le_refl _) _).alloc (by simp) _
  have X0 : Hid (Bw ((w.alloc (Obj.cells #[.int .i64 W.turn, .int .i64 W.next, .int .i64 W.wide, .int .i64 W.high, u1, u2, u3, .slice p4 W.us.length q4, u5] 37)).alloc (Obj.cells #[.int .i64 j.player, .int .i64 j.unit, .int .i64 j.kind, .int .i64 j.left] 61)) w.heap.size W u1 u2 u3 (.slice p4 W.us.length q4) u5) := (Bw.mk' W _ _ _ _ _ rfl).below (n := w.heap.size + 1) ((Below.refl _ _).alloc (by simp) _) (Nat.lt_succ_self _)
  have J0 : Hid (Jbc ((w.alloc (Obj.cells #[.int .i64 W.turn, .int .i64 W.next, .int .i64 W.wide, .int .i64 W.high, u1, u2, u3, .slice p4 W.us.length q4, u5] 37)).alloc (Obj.cells #[.int .i64 j.player, .int .i64 j.unit, .int .i64 j.kind, .int .i64 j.left] 61)) ⟨w.heap.size + 1, 0, none⟩ j) := Jbc.mk' j (by simp)
  generalize ((w.alloc (Obj.cells #[.int .i64 W.turn, .int .i64 W.next, .int .i64 W.wide, .int .i64 W.high, u1, u2, u3, .slice p4 W.us.length q4, u5] 37)).alloc (Obj.cells #[.int .i64 j.player, .int .i64 j.unit, .int .i64 j.kind, .int .i64 j.left] 61)) = w0 at *
  generalize w.heap.size + 1 = zj at *
  refine (wfind_any _ W j.unit w0 (H.out.below B0.out)).mono ?_
  rintro e w1 ⟨r, rfl, hf, hb1⟩
  have B1 : Hid (Below w.heap.size w w1) := B0.out.trans (hb1.mono B0.out.size)
  have X1 : Hid (Bw w1 w.heap.size W u1 u2 u3 (.slice p4 W.us.length q4) u5) := X0.out.below hb1 X0.out.lt
  have J1 : Hid (Jbc w1 ⟨zj, 0, none⟩ j) := J0.out.below hb1 J0.out.lt
  clear hb1 X0 J0 B0
  rcases find_fst hf with ⟨rfl, hfn⟩ | ⟨n, u, rfl, hn, hfs⟩
  · have F6 : Hid (Wd.jobFault ks W j = 6) := jf6 hfn
    clear hf hfn
    go_wp2
    go_ret
    exact ⟨_, rfl, by rw [F6.out]; exact Er.no (by decide), B1.out⟩
  · have hnl : n < W.us.length := (List.getElem?_eq_some_iff.1 hn).1
    have hni : (n : Int) < (W.us.length : Int) := by omega
    have hn0 : ¬ (n : Int) < 0 := by omega
    have HF : Hid (W.us.find? (fun u => u.id == j.unit) = some u) := hfs
    obtain ⟨x, rfl, hx, hcell⟩ := UC.out (by intro e; rw [e] at hnl; simp at hnl)
    obtain ⟨d0, d1, d2, d3, d4, d5, d6, d7⟩ := (hcell n u hn).below B1.out (by rw [add_block]; exact hx)
    have hku := HA.out u (List.mem_of_getElem? hn)
    obtain ⟨kn, ek⟩ : ∃ kn : Nat, u.kind = kn := ⟨u.kind.toNat, by omega⟩
    have hkn : kn < ks.length := by omega
    have hkni : (kn : Int) < (ks.length : Int) := by omega
    obtain ⟨k, hkk⟩ : ∃ k, ks[kn]? = some k := ⟨_, List.getElem?_eq_getElem hkn⟩
    have HK : Hid (ks[u.kind.toNat]? = some k) := by unfold Hid; rw [ek, Int.toNat_natCast]; exact hkk
    obtain ⟨xk, rfl, hxk, hkc⟩ := KK.out (by intro e; rw [e] at hkn; simp at hkn)
    have KC1 : Hid (Kc w1 (xk.add (kn * 11)) k) := (hkc kn k hkk).below B1.out (by rw [add_block]; exact hxk)
    have x7 := X1.out.c7
    have EK : Hid (u.kind = kn) := ek
    clear hf hfs hcell hx hn hku hkc hxk hkk ek
    go_upto_region 5 with fail
    have U2 : Hid (Unc (w1.alloc (Obj.cells #[.int .i64 u.id, .int .i64 u.player, .int .i64 u.kind, .int .i64 u.at_, .int .i64 u.life, .int .i64 u.load, .int .i64 u.task, .int .i64 u.goal] 45)) ⟨w1.heap.size, 0, none⟩ u) := Unc.mk' u rfl
    have BA : Hid (Below w1.heap.size w1 (w1.alloc (Obj.cells #[.int .i64 u.id, .int .i64 u.player, .int .i64 u.kind, .int .i64 u.at_, .int .i64 u.life, .int .i64 u.load, .int .i64 u.task, .int .i64 u.goal] 45))) := (Below.refl _ _).alloc (Nat.le_refl _) _
    generalize (w1.alloc (Obj.cells #[.int .i64 u.id, .int .i64 u.player, .int .i64 u.kind, .int .i64 u.at_, .int .i64 u.life, .int .i64 u.load, .int .i64 u.task, .int .i64 u.goal] 45)) = w2 at *
    have B2 : Hid (Below w.heap.size w w2) := B1.out.trans (BA.out.mono B1.out.size)
    have J2 : Hid (Jbc w2 ⟨zj, 0, none⟩ j) := J1.out.below BA.out J1.out.lt
    have KC2 : Hid (Kc w2 (xk.add (kn * 11)) k) := KC1.out.below BA.out KC1.out.lt
    clear d0 d1 d2 d3 d4 d5 d6 d7 x7 X1 J1 KC1 BA B1
    generalize w1.heap.size = zu at *
    obtain ⟨y0, y1, y2, y3, y4, y5, y6, y7⟩ := U2.out
    rw [EK.out] at y2
    obtain ⟨j0, j1, j2, j3⟩ := J2.out
    obtain ⟨l0, l1, l2, l3, l4, l5, l6, l7, l8, l9, l10⟩ := KC2.out
    simp only [Nat.zero_add] at y1 y2 y3 y4 y5 y6 y7 j1 j2 j3
    by_cases hp : u.player = j.player
    · cases ht : k.t with
      | false =>
        have F7 : Hid (Wd.jobFault ks W j = 7) := jf7 HF.out HK.out (.inr ht)
        rw [ht] at l10
        rw [hp] at y1
        clear ht
        go_wp2
        go_ret
        exact ⟨_, rfl, by rw [F7.out]; exact Er.no (by decide), B2.out⟩
      | true =>
        obtain ⟨b4, hb4⟩ : ∃ b, decide (0 ≤ j.kind ∧ j.kind < (ks.length : Int)) = b := ⟨_, rfl⟩
        obtain ⟨b5, hb5⟩ : ∃ b, decide (1 ≤ j.left ∧ j.left ≤ 1000) = b := ⟨_, rfl⟩
        have HB : Hid (decide (0 ≤ j.kind ∧ j.kind < (ks.length : Int)) = b4 ∧ decide (1 ≤ j.left ∧ j.left ≤ 1000) = b5) := ⟨hb4, hb5⟩
        have HPT : Hid (u.player = j.player ∧ k.t = true) := ⟨hp, ht⟩
        rw [ht] at l10
        rw [hp] at y1
        clear ht
        go_wp2_with fail
        refine (isone_kinds _ _ _ _ _ (by omega)).mono ?_
        rintro e w3 ⟨rfl, hww⟩
        obtain rfl := hww.symm
        rw [hb4]
        clear hb4
        cases b4 with
        | false =>
          have F1 : Hid (Wd.jobFault ks W j = 1) := jf1 HF.out HK.out HPT.out.1 HPT.out.2 (.inl HB.out.1)
          clear hb5
          go_wp2
          go_ret
          exact ⟨_, rfl, by rw [F1.out]; exact Er.no (by decide), B2.out⟩
        | true =>
          go_wp2_with fail
          refine (wwithin_any j.left 1 1000 _).mono ?_
          rintro e w4 ⟨rfl, hww⟩
          obtain rfl := hww.symm
          rw [hb5]
          clear hb5
          cases b5 with
          | false =>
            have F1 : Hid (Wd.jobFault ks W j = 1) := jf1 HF.out HK.out HPT.out.1 HPT.out.2 (.inr HB.out.2)
            go_wp2
            go_ret
            exact ⟨_, rfl, by rw [F1.out]; exact Er.no (by decide), B2.out⟩
          | true =>
            have F0 : Hid (Wd.jobFault ks W j = 0) := jf0 HF.out HK.out HPT.out.1 HPT.out.2 HB.out.1 HB.out.2
            go_wp2
            go_ret
            exact ⟨_, rfl, by rw [F0.out]; exact Er.nil, B2.out⟩
    · have F7 : Hid (Wd.jobFault ks W j = 7) := jf7 HF.out HK.out (.inl hp)
      go_wp2
      go_ret
      exact ⟨_, rfl, by rw [F7.out]; exact Er.no (by decide), B2.out⟩
end Go.Proofs.YtamgjhehnblbgaaDoor

namespace Go.Proofs.YtamgjhehnblbgaaDoor
open Go.RowKit
set_option linter.unusedVariables false

set_option maxHeartbeats 1000000 in
theorem ground_any (v f : Value) (ks : List KV) (W : WV) (w : World) (h : Kl w v ks) (hb : ∀ k ∈ ks, k.b.size ≤ 9223372036854775807) (hf : Fl w f W.wide W.high W.gs W.os) :
    Calls Tryd.prog 28 #[v, f] w fun e w' => ∃ u, e = .returned u ∧ Er u (Wd.ground ks W) ∧ Below w.heap.size w w' := by
  have K : Hid (Kl w v ks ∧ ∀ k ∈ ks, k.b.size ≤ 9223372036854775807) := ⟨h, hb⟩
  have F : Hid (Fl w f W.wide W.high W.gs W.os) := hf
  obtain ⟨u1, u2, rfl, h1, h2⟩ := hf
  clear h hb h1 h2
  go_enter Tryd.func28, Tryd.ntmps28
  go_wp2_with fail
  have B0 : Hid (Below w.heap.size w (w.alloc (Obj.cells #[.int .i64 W.wide, .int .i64 W.high, u1, u2] 33))) := (Below.refl _ _).alloc (Nat.le_refl _) _
  have X0 : Hid (Bf (w.alloc (Obj.cells #[.int .i64 W.wide, .int .i64 W.high, u1, u2] 33)) w.heap.size W.wide W.high u1 u2) := Bf.mk' W.wide W.high u1 u2 rfl
  generalize w.alloc (Obj.cells #[.int .i64 W.wide, .int .i64 W.high, u1, u2] 33) = w0 at *
  refine (kcheck_any _ ks w0 (K.out.1.below B0.out) K.out.2).mono ?_
  rintro e w1 ⟨r, rfl, hr, hb1⟩
  have B1 : Hid (Below w.heap.size w w1) := B0.out.trans (hb1.mono B0.out.size)
  have X1 : Hid (Bf w1 w.heap.size W.wide W.high u1 u2) := X0.out.below hb1 X0.out.lt
  clear hb1 X0
  rcases hr with ⟨hz, rfl⟩ | ⟨hz, rfl⟩
  · have G : Hid (Wd.ground ks W = Fd.fault W.wide W.high W.gs W.os) := by unfold Hid Wd.ground; rw [if_pos hz]
    obtain ⟨c0, c1, c2, c3⟩ := X1.out
    clear hz
    go_wp2_with fail
    refine (check_any _ W.wide W.high W.gs W.os w1 (F.out.below B1.out)).mono ?_
    rintro e w2 ⟨r, rfl, hr, hb2⟩
    have R : Hid (Er r (Wd.ground ks W) ∧ Below w.heap.size w w2) := ⟨by rw [G.out]; exact hr, B1.out.trans (hb2.mono B1.out.size)⟩
    clear hr hb2 c0 c1 c2 c3
    go_wp2
    go_ret
    exact ⟨_, rfl, R.out.1, R.out.2⟩
  · have G : Hid (Er (.iface 50 (.int .i64 (Kd.kindsFault (ks.map KV.k)))) (Wd.ground ks W)) := by
      unfold Hid Wd.ground; rw [if_neg hz]; exact Er.no hz
    clear hz
    go_wp2
    go_ret
    exact ⟨_, rfl, G.out, B1.out⟩
/-- what is wrong with the numbers. -/
def numsF (W : WV) : Int := if Wd.numsBad W = true then 1 else 0
theorem off_any (n : Int) (w : World) : Calls Tryd.prog 42 #[.int .i64 n] w fun e w' => e = .returned (.bool (Wd.off 0 n)) ∧ w' = w := by
  go_enter Tryd.func42, Tryd.ntmps42
  go_wp2_with fail
  refine (wwithin_any n 0 1000000 w).mono ?_
  rintro e w1 ⟨rfl, rfl⟩
  obtain ⟨b, hb⟩ : ∃ b, decide (0 ≤ n ∧ n ≤ 1000000) = b := ⟨_, rfl⟩
  have HB : Hid (Wd.off 0 n = !b) := by unfold Hid Wd.off; rw [hb]
  rw [hb]
  clear hb
  go_wp2
  go_ret
  exact ⟨by rw [HB.out]; rfl, rfl⟩
set_option maxRecDepth 100000 in
set_option maxHeartbeats 2000000 in
theorem numbad_any (v : Value) (W : WV) (w : World) (h : Wl w v W) :
    Calls Tryd.prog 29 #[v] w fun e w' => ∃ u, e = .returned u ∧ Er u (numsF W) ∧ Below w.heap.size w w' := by
  obtain ⟨u1, u2, u3, u4, u5, rfl, -, -, h3, -, -⟩ := h
  have R3 : Hid (Ro w u3 W.gold) := h3
  obtain ⟨a, c, rfl, c1, c2, -⟩ := h3
  go_enter Tryd.func29, Tryd.ntmps29
  go_upto_region 2 with fail
  have B0 : Hid (Below w.heap.size w (w.alloc (Obj.cells #[.int .i64 W.turn, .int .i64 W.next, .int .i64 W.wide, .int .i64 W.high, u1, u2, .slice a W.gold.length c, u4, u5] 37))) := (Below.refl _ _).alloc (Nat.le_refl _) _
  have X0 : Hid (Bw (w.alloc (Obj.cells #[.int .i64 W.turn, .int .i64 W.next, .int .i64 W.wide, .int .i64 W.high, u1, u2, .slice a W.gold.length c, u4, u5] 37)) w.heap.size W u1 u2 (.slice a W.gold.length c) u4 u5) := Bw.mk' W _ _ _ _ _ rfl
  generalize w.alloc (Obj.cells #[.int .i64 W.turn, .int .i64 W.next, .int .i64 W.wide, .int .i64 W.high, u1, u2, .slice a W.gold.length c, u4, u5] 37) = w0 at *
  obtain ⟨x0, x1, -, -, -, -, x6, -, -⟩ := X0.out
  obtain ⟨t, ht⟩ : ∃ t, decide (0 ≤ W.turn ∧ W.turn ≤ 1000000) = t := ⟨_, rfl⟩
  obtain ⟨n, hn⟩ : ∃ n, decide (1 ≤ W.next ∧ W.next ≤ 1000000) = n := ⟨_, rfl⟩
  obtain ⟨g, hg⟩ : ∃ g, decide (1 ≤ (W.gold.length : Int) ∧ (W.gold.length : Int) ≤ 4) = g := ⟨_, rfl⟩
  obtain ⟨m, hm⟩ : ∃ m, W.gold.any (Wd.off 0) = m := ⟨_, rfl⟩
  have HN : Hid (Wd.numsBad W = (!t || (!n || (!g || m)))) := by unfold Hid Wd.numsBad Wd.off; rw [ht, hn, hg]; unfold Wd.off at hm; rw [hm]
  go_wp2_with fail
  refine (wwithin_any W.turn 0 1000000 w0).mono ?_
  rintro e y1 ⟨rfl, hww⟩
  obtain rfl := hww.symm
  rw [ht]
  cases t with
  | false =>
    go_wp2
    go_ret
    have EB : Wd.numsBad W = true := by rw [HN.out]; rfl
    exact ⟨_, rfl, by unfold numsF; rw [EB]; exact Er.no (by decide), B0.out⟩
  | true =>
    go_wp2_with fail
    refine (wwithin_any W.next 1 1000000 _).mono ?_
    rintro e y2 ⟨rfl, hww⟩
    obtain rfl := hww.symm
    rw [hn]
    cases n with
    | false =>
      go_wp2
      go_ret
      have EB : Wd.numsBad W = true := by rw [HN.out]; rfl
      exact ⟨_, rfl, by unfold numsF; rw [EB]; exact Er.no (by decide), B0.out⟩
    | true =>
      go_wp2_with fail
      refine (wwithin_any (W.gold.length : Int) 1 4 _).mono ?_
      rintro e y3 ⟨rfl, hww⟩
      obtain rfl := hww.symm
      rw [hg]
      cases g with
      | false =>
        go_wp2
        go_ret
        have EB : Wd.numsBad W = true := by rw [HN.out]; rfl
        exact ⟨_, rfl, by unfold numsF; rw [EB]; exact Er.no (by decide), B0.out⟩
      | true =>
        go_wp2_with fail
        refine (hasf_any 42 (by intro args w; go_simp) _ #[] W.gold (Wd.off 0) _ (R3.out.below B0.out) (fun q x _ => (off_any x _).mono fun e w' ⟨h1, h2⟩ => ⟨h1, q, h2⟩)).mono ?_
        rintro e y4 ⟨rfl, q, hq⟩
        have BQ : Hid (Below w.heap.size w y4) := by rw [hq]; exact B0.out.trans ⟨rfl, rfl, rfl, Nat.le_refl _, fun _ _ => rfl⟩
        clear hq
        rw [hm]
        cases m with
        | false =>
          go_wp2
          go_ret
          have EB : Wd.numsBad W = false := by rw [HN.out]; rfl
          exact ⟨_, rfl, by unfold numsF; rw [EB]; exact Er.nil, BQ.out⟩
        | true =>
          go_wp2
          go_ret
          have EB : Wd.numsBad W = true := by rw [HN.out]; rfl
          exact ⟨_, rfl, by unfold numsF; rw [EB]; exact Er.no (by decide), BQ.out⟩
end Go.Proofs.YtamgjhehnblbgaaDoor

namespace Go.Proofs.YtamgjhehnblbgaaDoor
open Go.RowKit
set_option linter.unusedVariables false

theorem units_all {ks : List KV} {W : WV} : ∀ (l : List UnV) (i : Nat), Wd.unitsGo ks W i l = 0 → ∀ u ∈ l, ∃ j, Wd.unitFault ks W j u = 0
  | [], _, _, u, hu => by cases hu
  | x :: l, i, h, u, hu => by
    unfold Wd.unitsGo at h
    split at h
    · rename_i h0
      rcases List.mem_cons.1 hu with rfl | hu
      · exact ⟨i, h0⟩
      · exact units_all l (i + 1) h u hu
    · rename_i h0
      exact absurd h h0
theorem fault_kind {ks : List KV} {W : WV} {j : Nat} {u : UnV} (h : Wd.unitFault ks W j u = 0) : 0 ≤ u.kind ∧ u.kind < (ks.length : Int) := by
  have : Wd.has ks.length u.kind = true := by
    cases hh : Wd.has ks.length u.kind with
    | true => rfl
    | false =>
      unfold Wd.unitFault at h
      rw [hh] at h
      split at h
      · cases h
      · split at h
        · cases h
        · rw [if_pos (by simp)] at h
          cases h
  exact of_decide_eq_true this
theorem kinds_len {ks : List KV} (h : Kd.kindsFault (ks.map KV.k) = 0) : ks.length ≤ 8 := by
  unfold Kd.kindsFault at h
  split at h
  · cases h
  · rename_i h8
    rw [List.length_map] at h8
    omega
theorem nums_ok {W : WV} (h : Wd.numsBad W = false) : Wd.off 1 W.next = false ∧ W.gold.length ≤ 4 := by
  unfold Wd.numsBad at h
  simp only [Bool.or_eq_false_iff] at h
  obtain ⟨-, h1, h2, -⟩ := h
  refine ⟨h1, ?_⟩
  have : decide (1 ≤ (W.gold.length : Int) ∧ (W.gold.length : Int) ≤ 4) = true := by
    cases hh : decide (1 ≤ (W.gold.length : Int) ∧ (W.gold.length : Int) ≤ 4) with
    | true => rfl
    | false => rw [hh] at h2; cases h2
  have := of_decide_eq_true this
  omega
set_option maxRecDepth 100000 in
set_option maxHeartbeats 16000000 in
theorem wcheck_any (vk vw : Value) (ks : List KV) (W : WV) (w : World) (hk : Kl w vk ks) (hb : ∀ k ∈ ks, k.b.size ≤ 9223372036854775807) (hw : Wl w vw W) :
    Calls Tryd.prog 23 #[vk, vw] w fun e w' => ∃ r, e = .returned r ∧ Er r (Wd.wfault ks W) ∧ Below w.heap.size w w' := by
  have K : Hid (Kl w vk ks ∧ ∀ k ∈ ks, k.b.size ≤ 9223372036854775807) := ⟨hk, hb⟩
  have H : Hid (Wl w vw W) := hw
  obtain ⟨u1, u2, u3, u4, u5, rfl, r1, r2, r3, r4, r5⟩ := hw
  obtain ⟨p1, q1, rfl, -⟩ := r1
  obtain ⟨p2, q2, rfl, -⟩ := r2
  obtain ⟨p3, q3, rfl, -⟩ := r3
  obtain ⟨p4, q4, rfl, -⟩ := r4
  obtain ⟨p5, q5, rfl, k51, k52, k53⟩ := r5
  have JC : Hid (W.qs ≠ [] → ∃ x, p5 = some x ∧ x.block < w.heap.size ∧ ∀ (i : Nat) k, W.qs[i]? = some k → Jbc w (x.add (i * 4)) k) := k53
  clear hk hb k53
  go_enter Tryd.func23, Tryd.ntmps23
  go_wp2_with fail
  have B0 : Hid (Below w.heap.size w (w.alloc (Obj.cells #[.int .i64 W.turn, .int .i64 W.next, .int .i64 W.wide, .int .i64 W.high, .slice p1 W.gs.length q1, .slice p2 W.os.length q2, .slice p3 W.gold.length q3, .slice p4 W.us.length q4, .slice p5 W.qs.length q5] 37))) := (Below.refl _ _).alloc (Nat.le_refl _) _
  have X0 : Hid (Bw (w.alloc (Obj.cells #[.int .i64 W.turn, .int .i64 W.next, .int .i64 W.wide, .int .i64 W.high, .slice p1 W.gs.length q1, .slice p2 W.os.length q2, .slice p3 W.gold.length q3, .slice p4 W.us.length q4, .slice p5 W.qs.length q5] 37)) w.heap.size W (.slice p1 W.gs.length q1) (.slice p2 W.os.length q2) (.slice p3 W.gold.length q3) (.slice p4 W.us.length q4) (.slice p5 W.qs.length q5)) := Bw.mk' W _ _ _ _ _ rfl
  generalize (w.alloc (Obj.cells #[.int .i64 W.turn, .int .i64 W.next, .int .i64 W.wide, .int .i64 W.high, .slice p1 W.gs.length q1, .slice p2 W.os.length q2, .slice p3 W.gold.length q3, .slice p4 W.us.length q4, .slice p5 W.qs.length q5] 37)) = w0 at *
  refine (ground_any _ _ ks W w0 (K.out.1.below B0.out) K.out.2 ⟨_, _, rfl, (H.out.below B0.out).slices.1, (H.out.below B0.out).slices.2.1⟩).mono ?_
  rintro e w1 ⟨r, rfl, hr, hb1⟩
  have B1 : Hid (Below w.heap.size w w1) := B0.out.trans (hb1.mono B0.out.size)
  have X1 : Hid (Bw w1 w.heap.size W (.slice p1 W.gs.length q1) (.slice p2 W.os.length q2) (.slice p3 W.gold.length q3) (.slice p4 W.us.length q4) (.slice p5 W.qs.length q5)) := X0.out.below hb1 X0.out.lt
  clear hb1 X0 B0
  rcases hr with ⟨hz, rfl⟩ | ⟨hz, rfl⟩
  · have HZ : Hid (Wd.ground ks W = 0) := hz
    obtain ⟨x0, x1, x2, x3, x4, x5, x6, x7, x8⟩ := X1.out
    clear hz
    go_wp2_with fail
    refine (numbad_any _ W w1 (H.out.below B1.out)).mono ?_
    rintro e w2 ⟨r, rfl, hr, hb2⟩
    have B2 : Hid (Below w.heap.size w w2) := B1.out.trans (hb2.mono B1.out.size)
    have X2 : Hid (Bw w2 w.heap.size W (.slice p1 W.gs.length q1) (.slice p2 W.os.length q2) (.slice p3 W.gold.length q3) (.slice p4 W.us.length q4) (.slice p5 W.qs.length q5)) := X1.out.below hb2 X1.out.lt
    clear hb2 X1 B1 x0 x1 x2 x3 x4 x5 x6 x7 x8
    rcases hr with ⟨hn, rfl⟩ | ⟨hn, rfl⟩
    · have HN : Hid (Wd.numsBad W = false) := by
        unfold Hid
        unfold numsF at hn
        cases h : Wd.numsBad W with
        | false => rfl
        | true => rw [h] at hn; cases hn
      clear hn
      have x7 := X2.out.c7
      by_cases h40 : 40 < W.us.length
      · have F4 : Hid (Wd.wfault ks W = 4) := by unfold Hid Wd.wfault; rw [if_neg (by rw [HZ.out]; simp), HN.out, if_neg (by simp), if_pos h40]
        have h40i : (40 : Int) < (W.us.length : Int) := by omega
        go_wp2
        go_ret
        exact ⟨_, rfl, by rw [F4.out]; exact Er.no (by decide), B2.out⟩
      · have h40i : ¬ (40 : Int) < (W.us.length : Int) := by omega
        have KL : Hid (ks.length ≤ 8) := by
          have := HZ.out
          unfold Wd.ground at this
          split at this
          · rename_i h0
            exact kinds_len h0
          · rename_i h0
            exact absurd this h0
        have GD : Hid (∃ Wn Hn : Nat, W.wide = Wn ∧ W.high = Hn ∧ Fd.Good Wn Hn W.gs W.os) := by
          have := HZ.out
          unfold Wd.ground at this
          split at this
          · exact Fd.fault_zero this
          · rename_i h0
            exact absurd this h0
        obtain ⟨Wn, Hn, hWn, hHn, hG⟩ := GD.out
        have GG : Hid (W.wide = Wn ∧ W.high = Hn ∧ Fd.Good Wn Hn W.gs W.os) := ⟨hWn, hHn, hG⟩
        have US : Hid (W.us.length ≤ 40) := by unfold Hid; omega
        have WF : Hid (Wd.unitsGo ks W 0 W.us ≠ 0 → Wd.wfault ks W = Wd.unitsGo ks W 0 W.us) := fun hne => by unfold Wd.wfault; rw [if_neg (by rw [HZ.out]; simp), HN.out, if_neg (by simp), if_neg h40, if_pos hne]
        have WG : Hid (Wd.unitsGo ks W 0 W.us = 0 → Wd.wfault ks W = if 12 < W.qs.length then 4 else Wd.jobsGo ks W W.qs) := fun h0 => by unfold Wd.wfault; rw [if_neg (by rw [HZ.out]; simp), HN.out, if_neg (by simp), if_neg h40, if_neg (by rw [h0]; simp)]
        clear hWn hHn hG h40
        go_wp2
        clear x7
        go_loopw [32] (fun iv V => ∃ i : Nat, i ≤ W.us.length ∧ iv = .int .i64 (i : Nat) ∧ Wd.unitsGo ks W i (W.us.drop i) = Wd.unitsGo ks W 0 W.us ∧ Bw V w.heap.size W (.slice p1 W.gs.length q1) (.slice p2 W.os.length q2) (.slice p3 W.gold.length q3) (.slice p4 W.us.length q4) (.slice p5 W.qs.length q5) ∧ Below w.heap.size w V) (fun iv _ => W.us.length - (intOf iv).toNat)
        case atStart => exact ⟨0, Nat.zero_le _, rfl, rfl, X2.out, B2.out⟩
        case round =>
          obtain ⟨i, hi, rfl, hgo, hX, hB⟩ := hrel
          have XR : Hid (Bw wr w.heap.size W (.slice p1 W.gs.length q1) (.slice p2 W.os.length q2) (.slice p3 W.gold.length q3) (.slice p4 W.us.length q4) (.slice p5 W.qs.length q5)) := hX
          have BR : Hid (Below w.heap.size w wr) := hB
          have GO : Hid (Wd.unitsGo ks W i (W.us.drop i) = Wd.unitsGo ks W 0 W.us) := hgo
          clear hX hB hgo X2 B2
          by_cases hil : i = W.us.length
          · have U0 : Hid (Wd.unitsGo ks W 0 W.us = 0) := by unfold Hid; rw [← GO.out, hil, List.drop_length]; rfl
            have x8 := XR.out.c8
            subst hil
            clear hi
            by_cases h12 : 12 < W.qs.length
            · have F4 : Hid (Wd.wfault ks W = 4) := by unfold Hid; rw [WG.out U0.out, if_pos h12]
              have h12i : (12 : Int) < (W.qs.length : Int) := by omega
              go_wp2
              go_ret
              exact ⟨_, rfl, by rw [F4.out]; exact Er.no (by decide), BR.out⟩
            · have h12i : ¬ (12 : Int) < (W.qs.length : Int) := by omega
              have FJ : Hid (Wd.wfault ks W = Wd.jobsGo ks W W.qs) := by unfold Hid; rw [WG.out U0.out, if_neg h12]
              have ALL : Hid (∀ u ∈ W.us, 0 ≤ u.kind ∧ u.kind < (ks.length : Int)) := fun u hu => by
                obtain ⟨j, hj⟩ := units_all W.us 0 U0.out u hu
                exact fault_kind hj
              go_wp2
              clear x8
              go_loopw [51] (fun iv V => ∃ i : Nat, i ≤ W.qs.length ∧ iv = .int .i64 (i : Nat) ∧ Wd.jobsGo ks W (W.qs.drop i) = Wd.jobsGo ks W W.qs ∧ Bw V w.heap.size W (.slice p1 W.gs.length q1) (.slice p2 W.os.length q2) (.slice p3 W.gold.length q3) (.slice p4 W.us.length q4) (.slice p5 W.qs.length q5) ∧ Below w.heap.size w V) (fun iv _ => W.qs.length - (intOf iv).toNat)
              case atStart => exact ⟨0, Nat.zero_le _, rfl, rfl, XR.out, BR.out⟩
              case round =>
                obtain ⟨i, hi, rfl, hgo, hX, hB⟩ := hrel
                have XR : Hid (Bw wr w.heap.size W (.slice p1 W.gs.length q1) (.slice p2 W.os.length q2) (.slice p3 W.gold.length q3) (.slice p4 W.us.length q4) (.slice p5 W.qs.length q5)) := hX
                have BR : Hid (Below w.heap.size w wr) := hB
                have GO : Hid (Wd.jobsGo ks W (W.qs.drop i) = Wd.jobsGo ks W W.qs) := hgo
                clear hX hB hgo
                by_cases hil : i = W.qs.length
                · have J0 : Hid (Wd.wfault ks W = 0) := by unfold Hid; rw [FJ.out, ← GO.out, hil, List.drop_length]; rfl
                  subst hil
                  clear hi
                  go_wp2
                  go_ret
                  exact ⟨_, rfl, by rw [J0.out]; exact Er.nil, BR.out⟩
                · have hlt : i < W.qs.length := by omega
                  have hli : (i : Int) < (W.qs.length : Int) := by omega
                  obtain ⟨j, hj⟩ : ∃ j, W.qs[i]? = some j := ⟨_, List.getElem?_eq_getElem hlt⟩
                  obtain ⟨x, rfl, hx, hcell⟩ := JC.out (by intro e; rw [e] at hlt; simp at hlt)
                  obtain ⟨d0, d1, d2, d3⟩ := (hcell i j hj).below BR.out (by rw [add_block]; exact hx)
                  have GA : Hid (Wd.jobsGo ks W W.qs = if Wd.jobFault ks W j = 0 then Wd.jobsGo ks W (W.qs.drop (i + 1)) else Wd.jobFault ks W j) := by unfold Hid; rw [← GO.out, Wd.jobsGo_at hj]
                  obtain ⟨x0, x1, x2, x3, x4, x5, x6, x7, x8⟩ := XR.out
                  clear hcell hx hj hil
                  go_upto_region 21 with fail
                  have BA : Hid (Below wr.heap.size wr (wr.alloc (Obj.cells #[.int .i64 j.player, .int .i64 j.unit, .int .i64 j.kind, .int .i64 j.left] 61))) := (Below.refl _ _).alloc (Nat.le_refl _) _
                  have J1 : Hid (Jbc (wr.alloc (Obj.cells #[.int .i64 j.player, .int .i64 j.unit, .int .i64 j.kind, .int .i64 j.left] 61)) ⟨wr.heap.size, 0, none⟩ j) := Jbc.mk' j rfl
                  generalize (wr.alloc (Obj.cells #[.int .i64 j.player, .int .i64 j.unit, .int .i64 j.kind, .int .i64 j.left] 61)) = w5 at *
                  have B5 : Hid (Below w.heap.size w w5) := BR.out.trans (BA.out.mono BR.out.size)
                  have X5 : Hid (Bw w5 w.heap.size W (.slice p1 W.gs.length q1) (.slice p2 W.os.length q2) (.slice p3 W.gold.length q3) (.slice p4 W.us.length q4) (.slice (some x) W.qs.length q5)) := XR.out.below BA.out XR.out.lt
                  clear d0 d1 d2 d3 x0 x1 x2 x3 x4 x5 x6 x7 x8 XR BR BA
                  obtain ⟨x0, x1, x2, x3, x4, x5, x6, x7, x8⟩ := X5.out
                  obtain ⟨j0, j1, j2, j3⟩ := J1.out
                  generalize wr.heap.size = zj at *
                  simp only [Nat.zero_add] at j1 j2 j3
                  go_wp2_with fail
                  refine (job_any _ _ ks W j w5 (K.out.1.below B5.out) (H.out.below B5.out) US.out KL.out ALL.out).mono ?_
                  rintro e w6 ⟨r, rfl, hr, hb6⟩
                  have B6 : Hid (Below w.heap.size w w6) := B5.out.trans (hb6.mono B5.out.size)
                  have X6 : Hid (Bw w6 w.heap.size W (.slice p1 W.gs.length q1) (.slice p2 W.os.length q2) (.slice p3 W.gold.length q3) (.slice p4 W.us.length q4) (.slice (some x) W.qs.length q5)) := X5.out.below hb6 X5.out.lt
                  clear hb6 x0 x1 x2 x3 x4 x5 x6 x7 x8 j0 j1 j2 j3 X5 B5 J1
                  rcases hr with ⟨h0, rfl⟩ | ⟨h0, rfl⟩
                  · have G2 : Hid (Wd.jobsGo ks W (W.qs.drop (i + 1)) = Wd.jobsGo ks W W.qs) := by unfold Hid; rw [GA.out, if_pos h0]
                    clear h0
                    go_wp2
                    go_roundw
                    case rel => exact ⟨i + 1, by omega, rfl, G2.out, X6.out, B6.out⟩
                    case measure => simp [intOf]; omega
                  · have FB : Hid (Wd.wfault ks W = Wd.jobFault ks W j) := by unfold Hid; rw [FJ.out, GA.out, if_neg h0]
                    have H0 : Hid (Wd.jobFault ks W j ≠ 0) := h0
                    clear h0
                    go_wp2
                    go_ret
                    exact ⟨_, rfl, by rw [FB.out]; exact Er.no H0.out, B6.out⟩
          · have hlt : i < W.us.length := by omega
            have hli : (i : Int) < (W.us.length : Int) := by omega
            obtain ⟨u, hu⟩ : ∃ u, W.us[i]? = some u := ⟨_, List.getElem?_eq_getElem hlt⟩
            have HU : Hid (W.us[i]? = some u) := hu
            have GA : Hid (Wd.unitsGo ks W 0 W.us = if Wd.unitFault ks W i u = 0 then Wd.unitsGo ks W (i + 1) (W.us.drop (i + 1)) else Wd.unitFault ks W i u) := by unfold Hid; rw [← GO.out, Wd.unitsGo_at hu]
            obtain ⟨x0, x1, x2, x3, x4, x5, x6, x7, x8⟩ := XR.out
            clear hu hil
            go_wp2_with fail
            refine (unit_any _ _ ks W Wn Hn i u wr (K.out.1.below BR.out) (H.out.below BR.out) GG.out.1 GG.out.2.1 GG.out.2.2 HU.out (nums_ok HN.out).1 US.out KL.out (nums_ok HN.out).2).mono ?_
            rintro e w6 ⟨r, rfl, hr, hb6⟩
            have B6 : Hid (Below w.heap.size w w6) := BR.out.trans (hb6.mono BR.out.size)
            have X6 : Hid (Bw w6 w.heap.size W (.slice p1 W.gs.length q1) (.slice p2 W.os.length q2) (.slice p3 W.gold.length q3) (.slice p4 W.us.length q4) (.slice p5 W.qs.length q5)) := XR.out.below hb6 XR.out.lt
            clear hb6 x0 x1 x2 x3 x4 x5 x6 x7 x8 XR BR
            rcases hr with ⟨h0, rfl⟩ | ⟨h0, rfl⟩
            · have G2 : Hid (Wd.unitsGo ks W (i + 1) (W.us.drop (i + 1)) = Wd.unitsGo ks W 0 W.us) := by unfold Hid; rw [GA.out, if_pos h0]
              clear h0
              go_wp2
              go_roundw
              case rel => exact ⟨i + 1, by omega, rfl, G2.out, X6.out, B6.out⟩
              case measure => simp [intOf]; omega
            · have EU : Wd.unitsGo ks W 0 W.us = Wd.unitFault ks W i u := by rw [GA.out, if_neg h0]
              have FB : Hid (Wd.wfault ks W = Wd.unitFault ks W i u) := by unfold Hid; rw [WF.out (by rw [EU]; exact h0), EU]
              have H0 : Hid (Wd.unitFault ks W i u ≠ 0) := h0
              clear h0 EU
              go_wp2
              go_ret
              exact ⟨_, rfl, by rw [FB.out]; exact Er.no H0.out, B6.out⟩
    · have F1 : Hid (Wd.wfault ks W = numsF W) := by
        unfold Hid Wd.wfault
        unfold numsF at hn ⊢
        have hbad : Wd.numsBad W = true := by
          cases h : Wd.numsBad W with
          | true => rfl
          | false => rw [h] at hn; exact absurd rfl hn
        rw [if_neg (by rw [HZ.out]; simp), hbad]
        rfl
      have H0 : Hid (numsF W ≠ 0) := hn
      clear hn
      go_wp2
      go_ret
      exact ⟨_, rfl, by rw [F1.out]; exact Er.no H0.out, B2.out⟩
  · have F1 : Hid (Wd.wfault ks W = Wd.ground ks W) := by unfold Hid Wd.wfault; rw [if_pos hz]
    have H0 : Hid (Wd.ground ks W ≠ 0) := hz
    clear hz
    go_wp2
    go_ret
    exact ⟨_, rfl, by rw [F1.out]; exact Er.no H0.out, B1.out⟩
end Go.Proofs.YtamgjhehnblbgaaDoor

namespace Go.Proofs.YtamgjhehnblbgaaDoor
open Go.RowKit
set_option linter.unusedVariables false

theorem info_un : (Tryd.prog.info? 45).map (fun i => (i.zero, i.size, i.bytes)) = some (some (.agg #[.int .i64 0, .int .i64 0, .int .i64 0, .int .i64 0, .int .i64 0, .int .i64 0, .int .i64 0, .int .i64 0]), 8, 64) := by kernel_rfl
def UnV.cs (k : UnV) : List Value := [.int .i64 k.id, .int .i64 k.player, .int .i64 k.kind, .int .i64 k.at_, .int .i64 k.life, .int .i64 k.load, .int .i64 k.task, .int .i64 k.goal]
theorem flat_un : ∀ (ks : List UnV) (i j : Nat) (k : UnV), ks[i]? = some k → j < 8 → (ks.flatMap UnV.cs)[i * 8 + j]? = k.cs[j]?
  | [], i, j, k, h, _ => by simp at h
  | x :: ks, 0, j, k, h, hj => by
    simp at h
    subst h
    rw [List.flatMap_cons, List.getElem?_append_left (by simp [UnV.cs]; omega)]
    simp
  | x :: ks, i + 1, j, k, h, hj => by
    rw [List.flatMap_cons, List.getElem?_append_right (by simp [UnV.cs]; omega)]
    have : (i + 1) * 8 + j - (UnV.cs x).length = i * 8 + j := by simp [UnV.cs]; omega
    rw [this]
    exact flat_un ks i j k (by simpa using h) hj
/-- v is a slice of them, in a block of its own from base on. -/
def Uno (w : World) (base : Nat) (v : Value) (ks : List UnV) : Prop := w.ownsRow base 45 8 v ks.length (ks.flatMap UnV.cs)
theorem Uno.nil (w : World) (base : Nat) : Uno w base (.slice none 0 0) [] := World.ownsRow_nil _ _ _ _
theorem Uno.below {w w' : World} {base : Nat} {v : Value} {ks : List UnV} (h : Uno w base v ks) (hb : Below w.heap.size w w') : Uno w' base v ks :=
  World.ownsRow.kept h (row := none) ⟨hb.os, hb.tape, hb.output, hb.size, fun k hk _ => hb.block k hk⟩ (by cases v.ownBlock <;> simp)
theorem Uno.kept {w w' : World} {base : Nat} {v : Value} {ks : List UnV} {row : Option Nat} (h : Uno w base v ks) (hg : w.grownBy w' row) (hne : v.ownBlock = none ∨ v.ownBlock ≠ row) : Uno w' base v ks := World.ownsRow.kept h hg hne
theorem Uno.alloc {w : World} {base : Nat} {v : Value} {ks : List UnV} (h : Uno w base v ks) (o : Obj) : Uno (w.alloc o) base v ks := World.ownsRow.alloc h o
theorem Uno.block {w : World} {base : Nat} {v : Value} {ks : List UnV} (h : Uno w base v ks) : ∀ k, v.ownBlock = some k → base ≤ k ∧ k < w.heap.size := World.ownsRow.lt h
theorem Uno.mono {w : World} {base base' : Nat} {v : Value} {ks : List UnV} (h : Uno w base v ks) (hb : base' ≤ base) : Uno w base' v ks := by
  refine ⟨h.1, ?_⟩
  rcases h.2 with h1 | ⟨g, cap, cur, h1, h2, h3⟩
  · exact .inl h1
  · exact .inr ⟨g, cap, cur, h1, Nat.le_trans hb h2, h3⟩
theorem Uno.l {w : World} {base : Nat} {v : Value} {ks : List UnV} (h : Uno w base v ks) : Unl w v ks := by
  rcases h.2 with ⟨hv, h0⟩ | ⟨g, cap, cur, hv, hb, hg, h1, h2, h3, h4⟩
  · exact ⟨none, 0, by rw [hv, h0], by omega, by omega, fun hn => absurd (List.length_eq_zero_iff.1 h0) hn⟩
  · refine ⟨_, cap, hv, h1, by unfold maxLen at h2; omega, fun _ => ⟨_, rfl, lt_of_block hg, fun i k hi => ?_⟩⟩
    have hil : i < ks.length := (List.getElem?_eq_some_iff.1 hi).1
    have h5 : w.ownsRow base 45 8 (.slice (some ⟨g, 0, none⟩) ks.length cap) ks.length (ks.flatMap UnV.cs) := by rw [← hv]; exact h
    have hc : ∀ j u, j < 8 → k.cs[j]? = some u → w.cell? ⟨g, i * 8 + j, none⟩ = some u := fun j u hj hu => by
      rw [h5.cellAt (i * 8 + j) (by omega), flat_un ks i j k hi hj, hu]
    rw [Addr.add_lit, Nat.zero_add]
    exact ⟨hc 0 _ (by decide) rfl, hc 1 _ (by decide) rfl, hc 2 _ (by decide) rfl, hc 3 _ (by decide) rfl, hc 4 _ (by decide) rfl, hc 5 _ (by decide) rfl, hc 6 _ (by decide) rfl, hc 7 _ (by decide) rfl⟩
theorem Uno.len {w : World} {base : Nat} {v : Value} {ks : List UnV} (h : Uno w base v ks) : ∃ a c, v = .slice a ks.length c := by
  obtain ⟨a, c, h1, -⟩ := h.l
  exact ⟨a, c, h1⟩

/-- one more. -/
theorem app_un {ops : Array Oper} {rest : List Oper} {o : Oper} {a : Act} {Q : Exit → Act → World → Prop} (w : World) (hgd : o.guard = none) (s x : Operand)
    (ho : o.op = .call { callee := .builtin .append, args := #[s, x], argTypes := #[34, 34] }) (base : Nat) (v : Value) (ks : List UnV) (hs : a.eval s = v) (hown : Uno w base v ks)
    (b : Nat) (d : UnV) (hx : a.eval x = .slice (some ⟨b, 0, none⟩) 1 1) (hd : Unc w ⟨b, 0, none⟩ d) (hl : ks.length ≤ 1000000000) (hbase : base ≤ w.heap.size)
    (h : ∀ g cap w', Uno w' base (.slice (some ⟨g, 0, none⟩) (ks.length + 1) cap) (ks ++ [d]) → w.grownBy w' v.ownBlock → (v.ownBlock = some g ∨ g = w.heap.size) → g < w'.heap.size → wpList Tryd.prog ops Q rest (a.put o.dst (.slice (some ⟨g, 0, none⟩) (ks.length + 1) cap)) w') :
    wpList Tryd.prog ops Q (o :: rest) a w := by
  obtain ⟨i0, hi, hz0, hz1, hz2⟩ := info_parts info_un
  refine wpList_append_lies w hgd s x 34 ho base 45 i0 (.agg #[.int .i64 0, .int .i64 0, .int .i64 0, .int .i64 0, .int .i64 0, .int .i64 0, .int .i64 0, .int .i64 0]) 8 64 Tryd.underlying34 hi hz0 hz1 hz2 rfl (by decide) v ks.length _ hs hown ⟨b, 0, none⟩ 1 1 d.cs hx rfl ?_ ?_ (by decide) (by unfold maxLen; omega) (by omega) hbase _ rfl ?_
  · intro j u hj
    have hjn : j < 8 := (List.getElem?_eq_some_iff.1 hj).1
    rw [Addr.add_lit, Nat.zero_add]
    match j, hjn, hj with
    | 0, _, hj => simp [UnV.cs] at hj; subst hj; exact hd.c0
    | 1, _, hj => simp [UnV.cs] at hj; subst hj; exact hd.c1
    | 2, _, hj => simp [UnV.cs] at hj; subst hj; exact hd.c2
    | 3, _, hj => simp [UnV.cs] at hj; subst hj; exact hd.c3
    | 4, _, hj => simp [UnV.cs] at hj; subst hj; exact hd.c4
    | 5, _, hj => simp [UnV.cs] at hj; subst hj; exact hd.c5
    | 6, _, hj => simp [UnV.cs] at hj; subst hj; exact hd.c6
    | 7, _, hj => simp [UnV.cs] at hj; subst hj; exact hd.c7
  · intro u hu
    simp [UnV.cs] at hu
    rcases hu with rfl | rfl | rfl | rfl | rfl | rfl | rfl | rfl <;> rfl
  · intro g cap w' h1 h2 h3 h4
    refine h g cap w' ?_ h2 h3 h4
    unfold Uno
    rw [List.length_append, List.flatMap_append]
    simpa using h1
end Go.Proofs.YtamgjhehnblbgaaDoor

namespace Go.Proofs.YtamgjhehnblbgaaDoor
open Go.RowKit
set_option linter.unusedVariables false

theorem info_jb : (Tryd.prog.info? 61).map (fun i => (i.zero, i.size, i.bytes)) = some (some (.agg #[.int .i64 0, .int .i64 0, .int .i64 0, .int .i64 0]), 4, 32) := by kernel_rfl
def JbV.cs (k : JbV) : List Value := [.int .i64 k.player, .int .i64 k.unit, .int .i64 k.kind, .int .i64 k.left]
theorem flat_jb : ∀ (ks : List JbV) (i j : Nat) (k : JbV), ks[i]? = some k → j < 4 → (ks.flatMap JbV.cs)[i * 4 + j]? = k.cs[j]?
  | [], i, j, k, h, _ => by simp at h
  | x :: ks, 0, j, k, h, hj => by
    simp at h
    subst h
    rw [List.flatMap_cons, List.getElem?_append_left (by simp [JbV.cs]; omega)]
    simp
  | x :: ks, i + 1, j, k, h, hj => by
    rw [List.flatMap_cons, List.getElem?_append_right (by simp [JbV.cs]; omega)]
    have : (i + 1) * 4 + j - (JbV.cs x).length = i * 4 + j := by simp [JbV.cs]; omega
    rw [this]
    exact flat_jb ks i j k (by simpa using h) hj
/-- v is a slice of them, in a block of its own from base on. -/
def Jbo (w : World) (base : Nat) (v : Value) (ks : List JbV) : Prop := w.ownsRow base 61 4 v ks.length (ks.flatMap JbV.cs)
theorem Jbo.nil (w : World) (base : Nat) : Jbo w base (.slice none 0 0) [] := World.ownsRow_nil _ _ _ _
theorem Jbo.below {w w' : World} {base : Nat} {v : Value} {ks : List JbV} (h : Jbo w base v ks) (hb : Below w.heap.size w w') : Jbo w' base v ks :=
  World.ownsRow.kept h (row := none) ⟨hb.os, hb.tape, hb.output, hb.size, fun k hk _ => hb.block k hk⟩ (by cases v.ownBlock <;> simp)
theorem Jbo.kept {w w' : World} {base : Nat} {v : Value} {ks : List JbV} {row : Option Nat} (h : Jbo w base v ks) (hg : w.grownBy w' row) (hne : v.ownBlock = none ∨ v.ownBlock ≠ row) : Jbo w' base v ks := World.ownsRow.kept h hg hne
theorem Jbo.alloc {w : World} {base : Nat} {v : Value} {ks : List JbV} (h : Jbo w base v ks) (o : Obj) : Jbo (w.alloc o) base v ks := World.ownsRow.alloc h o
theorem Jbo.block {w : World} {base : Nat} {v : Value} {ks : List JbV} (h : Jbo w base v ks) : ∀ k, v.ownBlock = some k → base ≤ k ∧ k < w.heap.size := World.ownsRow.lt h
theorem Jbo.mono {w : World} {base base' : Nat} {v : Value} {ks : List JbV} (h : Jbo w base v ks) (hb : base' ≤ base) : Jbo w base' v ks := by
  refine ⟨h.1, ?_⟩
  rcases h.2 with h1 | ⟨g, cap, cur, h1, h2, h3⟩
  · exact .inl h1
  · exact .inr ⟨g, cap, cur, h1, Nat.le_trans hb h2, h3⟩
theorem Jbo.l {w : World} {base : Nat} {v : Value} {ks : List JbV} (h : Jbo w base v ks) : Jbl w v ks := by
  rcases h.2 with ⟨hv, h0⟩ | ⟨g, cap, cur, hv, hb, hg, h1, h2, h3, h4⟩
  · exact ⟨none, 0, by rw [hv, h0], by omega, by omega, fun hn => absurd (List.length_eq_zero_iff.1 h0) hn⟩
  · refine ⟨_, cap, hv, h1, by unfold maxLen at h2; omega, fun _ => ⟨_, rfl, lt_of_block hg, fun i k hi => ?_⟩⟩
    have hil : i < ks.length := (List.getElem?_eq_some_iff.1 hi).1
    have h5 : w.ownsRow base 61 4 (.slice (some ⟨g, 0, none⟩) ks.length cap) ks.length (ks.flatMap JbV.cs) := by rw [← hv]; exact h
    have hc : ∀ j u, j < 4 → k.cs[j]? = some u → w.cell? ⟨g, i * 4 + j, none⟩ = some u := fun j u hj hu => by
      rw [h5.cellAt (i * 4 + j) (by omega), flat_jb ks i j k hi hj, hu]
    rw [Addr.add_lit, Nat.zero_add]
    exact ⟨hc 0 _ (by decide) rfl, hc 1 _ (by decide) rfl, hc 2 _ (by decide) rfl, hc 3 _ (by decide) rfl⟩
theorem Jbo.len {w : World} {base : Nat} {v : Value} {ks : List JbV} (h : Jbo w base v ks) : ∃ a c, v = .slice a ks.length c := by
  obtain ⟨a, c, h1, -⟩ := h.l
  exact ⟨a, c, h1⟩

/-- one more. -/
theorem app_jb {ops : Array Oper} {rest : List Oper} {o : Oper} {a : Act} {Q : Exit → Act → World → Prop} (w : World) (hgd : o.guard = none) (s x : Operand)
    (ho : o.op = .call { callee := .builtin .append, args := #[s, x], argTypes := #[35, 35] }) (base : Nat) (v : Value) (ks : List JbV) (hs : a.eval s = v) (hown : Jbo w base v ks)
    (b : Nat) (d : JbV) (hx : a.eval x = .slice (some ⟨b, 0, none⟩) 1 1) (hd : Jbc w ⟨b, 0, none⟩ d) (hl : ks.length ≤ 1000000000) (hbase : base ≤ w.heap.size)
    (h : ∀ g cap w', Jbo w' base (.slice (some ⟨g, 0, none⟩) (ks.length + 1) cap) (ks ++ [d]) → w.grownBy w' v.ownBlock → (v.ownBlock = some g ∨ g = w.heap.size) → g < w'.heap.size → wpList Tryd.prog ops Q rest (a.put o.dst (.slice (some ⟨g, 0, none⟩) (ks.length + 1) cap)) w') :
    wpList Tryd.prog ops Q (o :: rest) a w := by
  obtain ⟨i0, hi, hz0, hz1, hz2⟩ := info_parts info_jb
  refine wpList_append_lies w hgd s x 35 ho base 61 i0 (.agg #[.int .i64 0, .int .i64 0, .int .i64 0, .int .i64 0]) 4 32 Tryd.underlying35 hi hz0 hz1 hz2 rfl (by decide) v ks.length _ hs hown ⟨b, 0, none⟩ 1 1 d.cs hx rfl ?_ ?_ (by decide) (by unfold maxLen; omega) (by omega) hbase _ rfl ?_
  · intro j u hj
    have hjn : j < 4 := (List.getElem?_eq_some_iff.1 hj).1
    rw [Addr.add_lit, Nat.zero_add]
    match j, hjn, hj with
    | 0, _, hj => simp [JbV.cs] at hj; subst hj; exact hd.c0
    | 1, _, hj => simp [JbV.cs] at hj; subst hj; exact hd.c1
    | 2, _, hj => simp [JbV.cs] at hj; subst hj; exact hd.c2
    | 3, _, hj => simp [JbV.cs] at hj; subst hj; exact hd.c3
  · intro u hu
    simp [JbV.cs] at hu
    rcases hu with rfl | rfl | rfl | rfl <;> rfl
  · intro g cap w' h1 h2 h3 h4
    refine h g cap w' ?_ h2 h3 h4
    unfold Jbo
    rw [List.length_append, List.flatMap_append]
    simpa using h1
end Go.Proofs.YtamgjhehnblbgaaDoor

namespace Go.Proofs.YtamgjhehnblbgaaDoor
open Go.RowKit
set_option linter.unusedVariables false

/-- v is a world whose lists are owned from base on. -/
def Wo (w : World) (base : Nat) (v : Value) (W : WV) : Prop := ∃ u1 u2 u3 u4 u5, v = .agg #[.int .i64 W.turn, .int .i64 W.next, .int .i64 W.wide, .int .i64 W.high, u1, u2, u3, u4, u5] ∧ Ow w base u1 W.gs ∧ Ow w base u2 W.os ∧ Ow w base u3 W.gold ∧ Uno w base u4 W.us ∧ Jbo w base u5 W.qs
theorem Wo.l {w : World} {base : Nat} {v : Value} {W : WV} (h : Wo w base v W) : Wl w v W := by
  obtain ⟨u1, u2, u3, u4, u5, h1, h2, h3, h4, h5, h6⟩ := h
  exact ⟨u1, u2, u3, u4, u5, h1, h2.ro, h3.ro, h4.ro, h5.l, h6.l⟩
theorem Wo.below {w w' : World} {base : Nat} {v : Value} {W : WV} (h : Wo w base v W) (hb : Below w.heap.size w w') : Wo w' base v W := by
  obtain ⟨u1, u2, u3, u4, u5, h1, h2, h3, h4, h5, h6⟩ := h
  exact ⟨u1, u2, u3, u4, u5, h1, h2.below hb, h3.below hb, h4.below hb, h5.below hb, h6.below hb⟩
theorem Wo.mono {w : World} {base base' : Nat} {v : Value} {W : WV} (h : Wo w base v W) (hb : base' ≤ base) : Wo w base' v W := by
  obtain ⟨u1, u2, u3, u4, u5, h1, h2, h3, h4, h5, h6⟩ := h
  exact ⟨u1, u2, u3, u4, u5, h1, h2.mono hb, h3.mono hb, h4.mono hb, h5.mono hb, h6.mono hb⟩
theorem owns_kp {z : Nat} {w w' : World} {base : Nat} {T : TypeId} {size : Nat} {u : Value} {n : Nat} {cs : List Value} (h : w.ownsRow base T size u n cs) (k : Kp z w w') (hz : z < base) : w'.ownsRow base T size u n cs := by
  refine ⟨h.1, ?_⟩
  rcases h.2 with h1 | ⟨g, cap, cur, h1, h2, h3, h4⟩
  · exact .inl h1
  · exact .inr ⟨g, cap, cur, h1, h2, (k.block g (lt_of_block h3) (by omega)).trans h3, h4⟩
theorem Ow.kp {z : Nat} {w w' : World} {base : Nat} {u : Value} {xs : List Int} (h : Ow w base u xs) (k : Kp z w w') (hz : z < base) : Ow w' base u xs := owns_kp h k hz
theorem Uno.kp {z : Nat} {w w' : World} {base : Nat} {u : Value} {xs : List UnV} (h : Uno w base u xs) (k : Kp z w w') (hz : z < base) : Uno w' base u xs := owns_kp h k hz
theorem Jbo.kp {z : Nat} {w w' : World} {base : Nat} {u : Value} {xs : List JbV} (h : Jbo w base u xs) (k : Kp z w w') (hz : z < base) : Jbo w' base u xs := owns_kp h k hz
theorem Wo.kp {z : Nat} {w w' : World} {base : Nat} {v : Value} {W : WV} (h : Wo w base v W) (k : Kp z w w') (hz : z < base) : Wo w' base v W := by
  obtain ⟨u1, u2, u3, u4, u5, h1, h2, h3, h4, h5, h6⟩ := h
  exact ⟨u1, u2, u3, u4, u5, h1, h2.kp k hz, h3.kp k hz, h4.kp k hz, h5.kp k hz, h6.kp k hz⟩
/-- they lie in blocks of their own. -/
def Dif (u v : Value) : Prop := ∀ k, u.ownBlock = some k → v.ownBlock ≠ some k
theorem Dif.symm {u v : Value} (h : Dif u v) : Dif v u := fun k h1 h2 => h k h2 h1
theorem Dif.ne {u v : Value} (h : Dif u v) : u.ownBlock = none ∨ u.ownBlock ≠ v.ownBlock := by
  cases e : u.ownBlock with
  | none => exact .inl rfl
  | some k => exact .inr (fun h2 => h k e h2.symm)
theorem Dif.of {u v : Value} {n : Nat} (hu : ∀ k, u.ownBlock = some k → k < n) (hv : ∀ k, v.ownBlock = some k → n ≤ k) : Dif u v := fun k h1 h2 => by have := hu k h1; have := hv k h2; omega
/-- v is a world whose lists are owned from base on, each in a block of its own. -/
def Wi (w : World) (base : Nat) (v : Value) (W : WV) : Prop := ∃ u1 u2 u3 u4 u5, v = .agg #[.int .i64 W.turn, .int .i64 W.next, .int .i64 W.wide, .int .i64 W.high, u1, u2, u3, u4, u5] ∧ (Ow w base u1 W.gs ∧ Ow w base u2 W.os ∧ Ow w base u3 W.gold ∧ Uno w base u4 W.us ∧ Jbo w base u5 W.qs) ∧ Dif u1 u2 ∧ Dif u1 u3 ∧ Dif u1 u4 ∧ Dif u1 u5 ∧ Dif u2 u3 ∧ Dif u2 u4 ∧ Dif u2 u5 ∧ Dif u3 u4 ∧ Dif u3 u5 ∧ Dif u4 u5
theorem Wi.wo {w : World} {base : Nat} {v : Value} {W : WV} (h : Wi w base v W) : Wo w base v W := by
  obtain ⟨u1, u2, u3, u4, u5, h1, ⟨h2, h3, h4, h5, h6⟩, -⟩ := h
  exact ⟨u1, u2, u3, u4, u5, h1, h2, h3, h4, h5, h6⟩
theorem Wi.mono {w : World} {base base' : Nat} {v : Value} {W : WV} (h : Wi w base v W) (hb : base' ≤ base) : Wi w base' v W := by
  obtain ⟨u1, u2, u3, u4, u5, h1, ⟨h2, h3, h4, h5, h6⟩, hd⟩ := h
  exact ⟨u1, u2, u3, u4, u5, h1, ⟨h2.mono hb, h3.mono hb, h4.mono hb, h5.mono hb, h6.mono hb⟩, hd⟩
theorem Wl.kp {z : Nat} {w a w' : World} {v : Value} {W : WV} (h : Wl a v W) (hb : Below a.heap.size a w) (k : Kp z w w') (hz : a.heap.size ≤ z) : Wl w' v W := h.below (k.below hb hb.size hz)

/-- a world's nine cells, in a block of their own. -/
def Wx (w : World) (z : Nat) (c0 c1 c2 c3 c4 c5 c6 c7 c8 : Value) : Prop := w.heap[z]? = some (.cells #[c0, c1, c2, c3, c4, c5, c6, c7, c8] 37 (0, 0))
theorem Wx.lt {w : World} {z : Nat} {c0 c1 c2 c3 c4 c5 c6 c7 c8 : Value} (h : Wx w z c0 c1 c2 c3 c4 c5 c6 c7 c8) : z < w.heap.size := lt_of_block h
theorem Wx.cells {w : World} {z : Nat} {c0 c1 c2 c3 c4 c5 c6 c7 c8 : Value} (h : Wx w z c0 c1 c2 c3 c4 c5 c6 c7 c8) : w.cell? ⟨z, 0, none⟩ = some c0 ∧ w.cell? ⟨z, 1, none⟩ = some c1 ∧ w.cell? ⟨z, 2, none⟩ = some c2 ∧ w.cell? ⟨z, 3, none⟩ = some c3 ∧ w.cell? ⟨z, 4, none⟩ = some c4 ∧ w.cell? ⟨z, 5, none⟩ = some c5 ∧ w.cell? ⟨z, 6, none⟩ = some c6 ∧ w.cell? ⟨z, 7, none⟩ = some c7 ∧ w.cell? ⟨z, 8, none⟩ = some c8 := by
  unfold Wx at h
  refine ⟨?_, ?_, ?_, ?_, ?_, ?_, ?_, ?_, ?_⟩ <;> simp [World.cell?, h]
theorem Wx.thaw {w : World} {z : Nat} {c0 c1 c2 c3 c4 c5 c6 c7 c8 : Value} (h : Wx w z c0 c1 c2 c3 c4 c5 c6 c7 c8) (i : Nat) : w.frozen? ⟨z, i, none⟩ = false := by
  unfold Wx at h
  simp [World.frozen?, h]
theorem Wx.thaws {w : World} {z : Nat} {c0 c1 c2 c3 c4 c5 c6 c7 c8 : Value} (h : Wx w z c0 c1 c2 c3 c4 c5 c6 c7 c8) : w.frozen? ⟨z, 0, none⟩ = false ∧ w.frozen? ⟨z, 1, none⟩ = false ∧ w.frozen? ⟨z, 2, none⟩ = false ∧ w.frozen? ⟨z, 3, none⟩ = false ∧ w.frozen? ⟨z, 4, none⟩ = false ∧ w.frozen? ⟨z, 5, none⟩ = false ∧ w.frozen? ⟨z, 6, none⟩ = false ∧ w.frozen? ⟨z, 7, none⟩ = false ∧ w.frozen? ⟨z, 8, none⟩ = false := ⟨h.thaw 0, h.thaw 1, h.thaw 2, h.thaw 3, h.thaw 4, h.thaw 5, h.thaw 6, h.thaw 7, h.thaw 8⟩
theorem Wx.new {w : World} {z : Nat} (c0 c1 c2 c3 c4 c5 c6 c7 c8 : Value) (hz : w.heap.size = z) : Wx (w.alloc (.cells #[c0, c1, c2, c3, c4, c5, c6, c7, c8] 37)) z c0 c1 c2 c3 c4 c5 c6 c7 c8 := by
  subst hz
  exact heap_alloc_new _ _
theorem Wx.below {w w' : World} {z n : Nat} {c0 c1 c2 c3 c4 c5 c6 c7 c8 : Value} (h : Wx w z c0 c1 c2 c3 c4 c5 c6 c7 c8) (hb : Below n w w') (hn : z < n) : Wx w' z c0 c1 c2 c3 c4 c5 c6 c7 c8 := (hb.block z hn).trans h
theorem Wx.kp {w w' : World} {z y : Nat} {c0 c1 c2 c3 c4 c5 c6 c7 c8 : Value} (h : Wx w z c0 c1 c2 c3 c4 c5 c6 c7 c8) (k : Kp y w w') (hn : z ≠ y) : Wx w' z c0 c1 c2 c3 c4 c5 c6 c7 c8 := (k.block z h.lt hn).trans h
theorem Wx.drew {w : World} {z : Nat} {c0 c1 c2 c3 c4 c5 c6 c7 c8 : Value} (h : Wx w z c0 c1 c2 c3 c4 c5 c6 c7 c8) : Wx w.drew z c0 c1 c2 c3 c4 c5 c6 c7 c8 := h
theorem Wx.set0 {w : World} {z : Nat} {c0 c1 c2 c3 c4 c5 c6 c7 c8 : Value} (h : Wx w z c0 c1 c2 c3 c4 c5 c6 c7 c8) (u : Value) : Wx (w.setCell ⟨z, 0, none⟩ u) z u c1 c2 c3 c4 c5 c6 c7 c8 := by
  exact heap_setCell_same w z 0 _ _ u h
theorem Wx.set1 {w : World} {z : Nat} {c0 c1 c2 c3 c4 c5 c6 c7 c8 : Value} (h : Wx w z c0 c1 c2 c3 c4 c5 c6 c7 c8) (u : Value) : Wx (w.setCell ⟨z, 1, none⟩ u) z c0 u c2 c3 c4 c5 c6 c7 c8 := by
  exact heap_setCell_same w z 1 _ _ u h
theorem Wx.set2 {w : World} {z : Nat} {c0 c1 c2 c3 c4 c5 c6 c7 c8 : Value} (h : Wx w z c0 c1 c2 c3 c4 c5 c6 c7 c8) (u : Value) : Wx (w.setCell ⟨z, 2, none⟩ u) z c0 c1 u c3 c4 c5 c6 c7 c8 := by
  exact heap_setCell_same w z 2 _ _ u h
theorem Wx.set3 {w : World} {z : Nat} {c0 c1 c2 c3 c4 c5 c6 c7 c8 : Value} (h : Wx w z c0 c1 c2 c3 c4 c5 c6 c7 c8) (u : Value) : Wx (w.setCell ⟨z, 3, none⟩ u) z c0 c1 c2 u c4 c5 c6 c7 c8 := by
  exact heap_setCell_same w z 3 _ _ u h
theorem Wx.set4 {w : World} {z : Nat} {c0 c1 c2 c3 c4 c5 c6 c7 c8 : Value} (h : Wx w z c0 c1 c2 c3 c4 c5 c6 c7 c8) (u : Value) : Wx (w.setCell ⟨z, 4, none⟩ u) z c0 c1 c2 c3 u c5 c6 c7 c8 := by
  exact heap_setCell_same w z 4 _ _ u h
theorem Wx.set5 {w : World} {z : Nat} {c0 c1 c2 c3 c4 c5 c6 c7 c8 : Value} (h : Wx w z c0 c1 c2 c3 c4 c5 c6 c7 c8) (u : Value) : Wx (w.setCell ⟨z, 5, none⟩ u) z c0 c1 c2 c3 c4 u c6 c7 c8 := by
  exact heap_setCell_same w z 5 _ _ u h
theorem Wx.set6 {w : World} {z : Nat} {c0 c1 c2 c3 c4 c5 c6 c7 c8 : Value} (h : Wx w z c0 c1 c2 c3 c4 c5 c6 c7 c8) (u : Value) : Wx (w.setCell ⟨z, 6, none⟩ u) z c0 c1 c2 c3 c4 c5 u c7 c8 := by
  exact heap_setCell_same w z 6 _ _ u h
theorem Wx.set7 {w : World} {z : Nat} {c0 c1 c2 c3 c4 c5 c6 c7 c8 : Value} (h : Wx w z c0 c1 c2 c3 c4 c5 c6 c7 c8) (u : Value) : Wx (w.setCell ⟨z, 7, none⟩ u) z c0 c1 c2 c3 c4 c5 c6 u c8 := by
  exact heap_setCell_same w z 7 _ _ u h
theorem Wx.set8 {w : World} {z : Nat} {c0 c1 c2 c3 c4 c5 c6 c7 c8 : Value} (h : Wx w z c0 c1 c2 c3 c4 c5 c6 c7 c8) (u : Value) : Wx (w.setCell ⟨z, 8, none⟩ u) z c0 c1 c2 c3 c4 c5 c6 c7 u := by
  exact heap_setCell_same w z 8 _ _ u h
theorem Wx.put {w : World} {z : Nat} {c0 c1 c2 c3 c4 c5 c6 c7 c8 : Value} (h : Wx w z c0 c1 c2 c3 c4 c5 c6 c7 c8) (e0 e1 e2 e3 e4 e5 e6 e7 e8 : Value) : Wx (((((((((w.setCell ⟨z, 0, none⟩ e0).setCell ⟨z, 1, none⟩ e1).setCell ⟨z, 2, none⟩ e2).setCell ⟨z, 3, none⟩ e3).setCell ⟨z, 4, none⟩ e4).setCell ⟨z, 5, none⟩ e5).setCell ⟨z, 6, none⟩ e6).setCell ⟨z, 7, none⟩ e7).setCell ⟨z, 8, none⟩ e8) z e0 e1 e2 e3 e4 e5 e6 e7 e8 := (((((((((h.set0 e0).set1 e1).set2 e2).set3 e3).set4 e4).set5 e5).set6 e6).set7 e7).set8 e8)
theorem put_kp (w : World) (z : Nat) (e0 e1 e2 e3 e4 e5 e6 e7 e8 : Value) : Kp z w (((((((((w.setCell ⟨z, 0, none⟩ e0).setCell ⟨z, 1, none⟩ e1).setCell ⟨z, 2, none⟩ e2).setCell ⟨z, 3, none⟩ e3).setCell ⟨z, 4, none⟩ e4).setCell ⟨z, 5, none⟩ e5).setCell ⟨z, 6, none⟩ e6).setCell ⟨z, 7, none⟩ e7).setCell ⟨z, 8, none⟩ e8) :=
  ((((((((Kp.set w 0 e0).trans (Kp.set _ 1 e1)).trans (Kp.set _ 2 e2)).trans (Kp.set _ 3 e3)).trans (Kp.set _ 4 e4)).trans (Kp.set _ 5 e5)).trans (Kp.set _ 6 e6)).trans (Kp.set _ 7 e7)).trans (Kp.set _ 8 e8)
structure WLen (W : WV) : Prop where
  g : W.gs.length ≤ 100000000
  o : W.os.length ≤ 100000000
  p : W.gold.length ≤ 100000000
  u : W.us.length ≤ 100000000
  q : W.qs.length ≤ 100000000
end Go.Proofs.YtamgjhehnblbgaaDoor

namespace Go.Proofs.YtamgjhehnblbgaaDoor
open Go.RowKit
set_option linter.unusedVariables false

namespace Wd
/-- what is wrong with a unit that is to be put. -/
def placeFault (ks : List KV) (W : WV) (pl kd at_ : Int) : Int :=
  if 40 ≤ (W.us.length : Int) ∨ 1000000 ≤ W.next then 4
  else if ¬ (0 ≤ pl ∧ pl < (W.gold.length : Int)) ∨ ¬ (0 ≤ kd ∧ kd < (ks.length : Int)) then 1
  else if ¬ (0 ≤ at_ ∧ at_ < (W.gs.length : Int)) then 6
  else match ks[kd.toNat]? with
    | some k => if open_ W.gs W.us at_ k.f = false then 7 else 0
    | none => 1
theorem pf4 {ks : List KV} {W : WV} {pl kd at_ : Int} (h : 40 ≤ (W.us.length : Int) ∨ 1000000 ≤ W.next) : placeFault ks W pl kd at_ = 4 := by unfold placeFault; rw [if_pos h]
theorem pf1 {ks : List KV} {W : WV} {pl kd at_ : Int} (h : ¬ (40 ≤ (W.us.length : Int) ∨ 1000000 ≤ W.next)) (h1 : ¬ (0 ≤ pl ∧ pl < (W.gold.length : Int)) ∨ ¬ (0 ≤ kd ∧ kd < (ks.length : Int))) : placeFault ks W pl kd at_ = 1 := by unfold placeFault; rw [if_neg h, if_pos h1]
theorem pf6 {ks : List KV} {W : WV} {pl kd at_ : Int} (h : ¬ (40 ≤ (W.us.length : Int) ∨ 1000000 ≤ W.next)) (h1 : 0 ≤ pl ∧ pl < (W.gold.length : Int)) (h2 : 0 ≤ kd ∧ kd < (ks.length : Int)) (h3 : ¬ (0 ≤ at_ ∧ at_ < (W.gs.length : Int))) : placeFault ks W pl kd at_ = 6 := by unfold placeFault; rw [if_neg h, if_neg (by omega), if_pos h3]
theorem pfk {ks : List KV} {W : WV} {pl kd at_ : Int} {k : KV} (h : ¬ (40 ≤ (W.us.length : Int) ∨ 1000000 ≤ W.next)) (h1 : 0 ≤ pl ∧ pl < (W.gold.length : Int)) (h2 : 0 ≤ kd ∧ kd < (ks.length : Int)) (h3 : 0 ≤ at_ ∧ at_ < (W.gs.length : Int)) (hk : ks[kd.toNat]? = some k) : placeFault ks W pl kd at_ = if open_ W.gs W.us at_ k.f = false then 7 else 0 := by unfold placeFault; rw [if_neg h, if_neg (by omega), if_neg (by omega), hk]
end Wd
structure WRight (ks : List KV) (W : WV) : Prop where
  kinds : Kd.kindsFault (ks.map KV.k) = 0
  good : ∃ Wn Hn : Nat, W.wide = Wn ∧ W.high = Hn ∧ Fd.Good Wn Hn W.gs W.os
  nums : Wd.numsBad W = false
  ul : W.us.length ≤ 40
  units : Wd.unitsGo ks W 0 W.us = 0
  ql : W.qs.length ≤ 12
  jobs : Wd.jobsGo ks W W.qs = 0
theorem wright_of {ks : List KV} {W : WV} (h : Wd.wfault ks W = 0) : WRight ks W := by
  unfold Wd.wfault at h
  by_cases h0 : Wd.ground ks W = 0
  · rw [if_neg (by rw [h0]; simp)] at h
    cases h1 : Wd.numsBad W with
    | true => rw [h1, if_pos rfl] at h; cases h
    | false =>
      rw [h1, if_neg (by simp)] at h
      by_cases h2 : 40 < W.us.length
      · rw [if_pos h2] at h; cases h
      · rw [if_neg h2] at h
        by_cases h3 : Wd.unitsGo ks W 0 W.us = 0
        · rw [if_neg (by rw [h3]; simp)] at h
          by_cases h4 : 12 < W.qs.length
          · rw [if_pos h4] at h; cases h
          · rw [if_neg h4] at h
            unfold Wd.ground at h0
            by_cases h5 : Kd.kindsFault (ks.map KV.k) = 0
            · rw [if_pos h5] at h0
              exact ⟨h5, Fd.fault_zero h0, h1, by omega, h3, by omega, h⟩
            · rw [if_neg h5] at h0; exact absurd h0 h5
        · rw [if_pos h3] at h; exact absurd h h3
  · rw [if_pos h0] at h; exact absurd h h0
theorem WRight.len {ks : List KV} {W : WV} (h : WRight ks W) : WLen W := by
  obtain ⟨Wn, Hn, -, -, G⟩ := h.good
  have h1 := G.pos
  have h2 := G.gl
  have h3 := G.ol
  have h4 := (nums_ok h.nums).2
  have h5 := h.ul
  have h6 := h.ql
  exact ⟨by omega, by omega, by omega, by omega, by omega⟩
namespace Wd
/-- what is told where a unit is put. -/
def putFault (ks : List KV) (W : WV) (pl kd at_ : Int) : Int := if wfault ks W = 0 then placeFault ks W pl kd at_ else wfault ks W
def newUnit (ks : List KV) (W : WV) (pl kd at_ : Int) : UnV := ⟨W.next, pl, kd, at_, (match ks[kd.toNat]? with | some k => k.n0 | none => 0), 0, 0, 0⟩
/-- the world behind it. -/
def put (ks : List KV) (W : WV) (pl kd at_ : Int) : WV := { W with next := W.next + 1, us := W.us ++ [newUnit ks W pl kd at_] }
def placed (ks : List KV) (W : WV) (pl kd at_ : Int) : WV := if putFault ks W pl kd at_ = 0 then put ks W pl kd at_ else WV.zero
end Wd
theorem placed_bad {ks : List KV} {W : WV} {pl kd at_ : Int} (h : Wd.putFault ks W pl kd at_ ≠ 0) : Wd.placed ks W pl kd at_ = WV.zero := by unfold Wd.placed; rw [if_neg h]
theorem placed_ok {ks : List KV} {W : WV} {pl kd at_ : Int} (h : Wd.putFault ks W pl kd at_ = 0) : Wd.placed ks W pl kd at_ = Wd.put ks W pl kd at_ := by unfold Wd.placed; rw [if_pos h]
theorem zero_wo (w : World) (base : Nat) : Wo w base (.agg #[.int .i64 0, .int .i64 0, .int .i64 0, .int .i64 0, .slice none 0 0, .slice none 0 0, .slice none 0 0, .slice none 0 0, .slice none 0 0]) WV.zero := ⟨_, _, _, _, _, rfl, Ow.nil _ _, Ow.nil _ _, Ow.nil _ _, Uno.nil _ _, Jbo.nil _ _⟩
theorem pf_zero {ks : List KV} {W : WV} {pl kd at_ : Int} (h : Wd.placeFault ks W pl kd at_ = 0) : ¬ (40 ≤ (W.us.length : Int) ∨ 1000000 ≤ W.next) ∧ (0 ≤ pl ∧ pl < (W.gold.length : Int)) ∧ (0 ≤ at_ ∧ at_ < (W.gs.length : Int)) ∧ ∃ kn k, kd = ((kn : Nat) : Int) ∧ kn < ks.length ∧ ks[kn]? = some k ∧ Wd.open_ W.gs W.us at_ k.f = true := by
  unfold Wd.placeFault at h
  split at h
  · cases h
  · rename_i h1
    split at h
    · cases h
    · rename_i h2
      split at h
      · cases h
      · rename_i h3
        split at h
        · rename_i k hk
          split at h
          · cases h
          · rename_i h4
            have hl := (List.getElem?_eq_some_iff.1 hk).1
            exact ⟨h1, by omega, by omega, kd.toNat, k, by omega, hl, hk, by simpa using h4⟩
        · cases h
end Go.Proofs.YtamgjhehnblbgaaDoor

namespace Go.Proofs.YtamgjhehnblbgaaDoor
set_option linter.unusedVariables false
namespace Wd

theorem unitsGo_zero {ks : List KV} {W : WV} : ∀ (l : List UnV) (i : Nat), unitsGo ks W i l = 0 ↔ ∀ (j : Nat) (u : UnV), l[j]? = some u → unitFault ks W (i + j) u = 0
  | [], i => by
    constructor
    · intro _ j u h; simp at h
    · intro _; rfl
  | x :: l, i => by
    unfold unitsGo
    constructor
    · intro h
      split at h
      · rename_i h0
        intro j u hj
        cases j with
        | zero => simp at hj; subst hj; exact h0
        | succ j =>
          have := (unitsGo_zero l (i + 1)).1 h j u (by simpa using hj)
          rwa [show i + 1 + j = i + (j + 1) by omega] at this
      · rename_i h0; exact absurd h h0
    · intro h
      rw [if_pos (show unitFault ks W i x = 0 from h 0 x rfl)]
      refine (unitsGo_zero l (i + 1)).2 fun j u hj => ?_
      have := h (j + 1) u (by simpa using hj)
      rwa [show i + (j + 1) = i + 1 + j by omega] at this
theorem jobsGo_zero {ks : List KV} {W : WV} : ∀ (l : List JbV), jobsGo ks W l = 0 ↔ ∀ j ∈ l, jobFault ks W j = 0
  | [] => by
    constructor
    · intro _ j h; cases h
    · intro _; rfl
  | x :: l => by
    unfold jobsGo
    constructor
    · intro h
      split at h
      · rename_i h0
        intro j hj
        rcases List.mem_cons.1 hj with rfl | hj
        · exact h0
        · exact (jobsGo_zero l).1 h j hj
      · rename_i h0; exact absurd h h0
    · intro h
      rw [if_pos (h x (List.mem_cons_self ..))]
      exact (jobsGo_zero l).2 fun j hj => h j (List.mem_cons_of_mem _ hj)
theorem nor1 {a : Bool} (h : ¬ (!a) = true) : a = true := by cases a <;> simp_all
theorem nor2 {a b : Bool} (h : ¬ (!a || !b) = true) : a = true ∧ b = true := by cases a <;> cases b <;> simp_all
theorem nor3 {a b c : Bool} (h : ¬ (!a || (!b || !c)) = true) : a = true ∧ b = true ∧ c = true := by cases a <;> cases b <;> cases c <;> simp_all
theorem nor6 {a b : Bool} (h : ¬ (!a || b) = true) : a = true ∧ b = false := by cases a <;> cases b <;> simp_all
/-- nothing is wrong with a unit. -/
structure UFine (ks : List KV) (W : WV) (i : Nat) (u : UnV) (k : KV) : Prop where
  id1 : 1 ≤ u.id
  id2 : u.id ≤ W.next - 1
  up : notAbove W.us i u = false
  p : 0 ≤ u.player ∧ u.player < (W.gold.length : Int)
  k0 : 0 ≤ u.kind ∧ u.kind < (ks.length : Int)
  kk : ks[u.kind.toNat]? = some k
  life : 1 ≤ u.life ∧ u.life ≤ k.n0
  load : 0 ≤ u.load ∧ u.load ≤ k.n7
  task : 0 ≤ u.task ∧ u.task ≤ 2
  at_ : 0 ≤ u.at_ ∧ u.at_ < (W.gs.length : Int)
  goal : 0 ≤ u.goal ∧ u.goal < (W.gs.length : Int)
  opn : open_ W.gs (W.us.take i) u.at_ k.f = true
  rest : u.goal = 0 ∨ u.task ≠ 0
theorem unit_fine {ks : List KV} {W : WV} {i : Nat} {u : UnV} : unitFault ks W i u = 0 ↔ ∃ k, UFine ks W i u k := by
  constructor
  · intro h
    unfold unitFault at h
    split at h
    · cases h
    rename_i h1
    split at h
    · cases h
    rename_i h2
    split at h
    · cases h
    rename_i h3
    split at h
    · cases h
    rename_i k hk
    unfold kindPart at h
    split at h
    · cases h
    rename_i h4
    split at h
    · cases h
    rename_i h5
    split at h
    · cases h
    rename_i h6
    have g1 := of_decide_eq_true (nor1 h1)
    have g3 := nor2 h3
    have g4 := nor3 h4
    have g5 := nor2 h5
    have g6 := nor6 h6
    refine ⟨k, ⟨g1.1, g1.2, by simpa using h2, of_decide_eq_true g3.1, of_decide_eq_true g3.2, hk, of_decide_eq_true g4.1, of_decide_eq_true g4.2.1, of_decide_eq_true g4.2.2, of_decide_eq_true g5.1, of_decide_eq_true g5.2, g6.1, ?_⟩⟩
    have g7 := g6.2
    simp only [Bool.and_eq_false_iff, bne_eq_false_iff_eq, beq_eq_false_iff_ne] at g7
    exact g7
  · rintro ⟨k, h⟩
    unfold unitFault
    rw [if_neg (by simp [h.id1, h.id2]), if_neg (by simp [h.up]), if_neg (by simp [has, h.p.1, h.p.2, h.k0.1, h.k0.2]), h.kk]
    show kindPart W (W.us.take i) u k = 0
    unfold kindPart
    rw [if_neg (by simp [h.life.1, h.life.2, h.load.1, h.load.2, h.task.1, h.task.2]), if_neg (by simp [has, h.at_.1, h.at_.2, h.goal.1, h.goal.2]), if_neg]
    simp only [h.opn, Bool.not_true, Bool.false_or, Bool.and_eq_true, bne_iff_ne, beq_iff_eq, ne_eq, not_and]
    intro hg ht
    rcases h.rest with h1 | h1
    · exact hg h1
    · exact h1 ht
/-- a world with which nothing is wrong. -/
theorem wfault_zero {ks : List KV} {W : WV} (hk : Kd.kindsFault (ks.map KV.k) = 0) (hf : Fd.fault W.wide W.high W.gs W.os = 0) (hn : numsBad W = false) (hu : W.us.length ≤ 40) (hus : ∀ (i : Nat) (u : UnV), W.us[i]? = some u → ∃ k, UFine ks W i u k) (hq : W.qs.length ≤ 12) (hqs : ∀ j ∈ W.qs, jobFault ks W j = 0) : wfault ks W = 0 := by
  have h1 : ground ks W = 0 := by unfold ground; rw [if_pos hk, hf]
  have h2 : unitsGo ks W 0 W.us = 0 := (unitsGo_zero W.us 0).2 fun j u hj => by rw [Nat.zero_add]; exact unit_fine.2 (hus j u hj)
  unfold wfault
  rw [if_neg (by rw [h1]; simp), hn, if_neg (by simp), if_neg (by omega), if_neg (by rw [h2]; simp), if_neg (by omega)]
  exact (jobsGo_zero W.qs).2 hqs
end Wd
theorem WRight.fine {ks : List KV} {W : WV} (h : WRight ks W) {i : Nat} {u : UnV} (hu : W.us[i]? = some u) : ∃ k, Wd.UFine ks W i u k := by
  have := (Wd.unitsGo_zero W.us 0).1 h.units i u hu
  rw [Nat.zero_add] at this
  exact Wd.unit_fine.1 this
theorem WRight.job {ks : List KV} {W : WV} (h : WRight ks W) {j : JbV} (hj : j ∈ W.qs) : Wd.jobFault ks W j = 0 := (Wd.jobsGo_zero W.qs).1 h.jobs j hj
theorem WRight.zero {ks : List KV} {W : WV} (h : WRight ks W) : Wd.wfault ks W = 0 := by
  obtain ⟨Wn, Hn, e1, e2, G⟩ := h.good
  exact Wd.wfault_zero h.kinds (by rw [e1, e2]; exact Fd.fault_good G) h.nums h.ul (fun i u hu => h.fine hu) h.ql (fun j hj => h.job hj)
end Go.Proofs.YtamgjhehnblbgaaDoor

namespace Go.Proofs.YtamgjhehnblbgaaDoor
open Go.RowKit
set_option linter.unusedVariables false

namespace Sc
def points (ks : List KV) (X : WV) : List Int := List.zipWith (fun g x => g + 10 * x) X.gold (worths ks X.us)
theorem points_len {ks : List KV} {X : WV} (h : X.gold.length ≤ 4) : (points ks X).length = X.gold.length := by
  unfold points worths
  simp
  omega
theorem points_get {ks : List KV} {X : WV} {i : Nat} {g x : Int} (hg : X.gold[i]? = some g) (hx : (worths ks X.us)[i]? = some x) : (points ks X)[i]? = some (g + 10 * x) := by
  unfold points
  rw [List.getElem?_zipWith, hg, hx]
end Sc
structure PFit (ks : List KV) (X : WV) : Prop where
  k : Kd.kindsFault (ks.map KV.k) = 0
  ul : X.us.length ≤ 40
  bad : X.us.any (unBad ks) = false
  gl : X.gold.length ≤ 4
  gold : ∀ g ∈ X.gold, 0 ≤ g ∧ g ≤ 1000000
  worth : ∀ (i : Nat) x, (worths ks X.us)[i]? = some x → 0 ≤ x ∧ x ≤ 40000
  wl : ∀ i, i < X.gold.length → ∃ x, (worths ks X.us)[i]? = some x
theorem pfit_of {ks : List KV} {X : WV} (h : Wd.wfault ks X = 0) : PFit ks X := by
  have R := wright_of h
  have n := R.nums
  unfold Wd.numsBad at n
  simp only [Bool.or_eq_false_iff, Bool.not_eq_false', decide_eq_true_eq] at n
  obtain ⟨-, -, ⟨g1, g2⟩, g3⟩ := n
  have gl : X.gold.length ≤ 4 := by omega
  have kr := kinds_right R.kinds
  have bad : X.us.any (unBad ks) = false := by
    rw [List.any_eq_false]
    intro u hu
    obtain ⟨i, hi⟩ := List.mem_iff_getElem?.1 hu
    obtain ⟨k, F⟩ := R.fine hi
    have e : kindAt ks u.kind = some k := by
      unfold kindAt
      rw [if_neg (by have := F.k0; omega)]
      exact F.kk
    unfold unBad
    rw [e]
    simp only [decide_eq_true_eq]
    have := F.p
    have := F.life
    omega
  refine ⟨R.kinds, R.ul, bad, gl, fun g hg => ?_, fun i x hx => ?_, fun i hi => ?_⟩
  · rw [List.any_eq_false] at g3
    have := g3 g hg
    unfold Wd.off at this
    simp at this
    exact this
  · have wb : ∀ j, 0 ≤ worthOf ks X.us j ∧ worthOf ks X.us j ≤ 40000 := fun j => by
      have := worthOf_bound (fun k hk => ⟨(kr.2 k hk).1, (kr.2 k hk).2.1, (kr.2 k hk).2.2.1⟩) bad j X.us.length (Nat.le_refl _)
      rw [List.take_of_length_le (Nat.le_refl _)] at this
      have := R.ul
      omega
    unfold worths at hx
    match i, hx with
    | 0, hx => simp at hx; rw [← hx]; exact wb 0
    | 1, hx => simp at hx; rw [← hx]; exact wb 1
    | 2, hx => simp at hx; rw [← hx]; exact wb 2
    | 3, hx => simp at hx; rw [← hx]; exact wb 3
    | n + 4, hx => simp at hx
  · exact ⟨_, List.getElem?_eq_getElem (by unfold worths; simp; omega)⟩
set_option maxRecDepth 100000 in
set_option maxHeartbeats 8000000 in
theorem points_any (vk vw : Value) (ks : List KV) (X : WV) (w : World) (hk : Kl w vk ks) (hb : ∀ k ∈ ks, k.b.size ≤ 9223372036854775807) (hw : Wl w vw X) :
    Calls Tryd.prog 10 #[vk, vw] w fun e w' => ∃ (r u : Value), e = .returned (.tuple #[r, u]) ∧ Below w.heap.size w w' ∧
      ((Wd.wfault ks X ≠ 0 ∧ Ro w' r [] ∧ Er u (Wd.wfault ks X)) ∨ (Wd.wfault ks X = 0 ∧ Ro w' r (Sc.points ks X) ∧ Er u 0)) := by
  have K : Hid (Kl w vk ks ∧ ∀ k ∈ ks, k.b.size ≤ 9223372036854775807) := ⟨hk, hb⟩
  have W0 : Hid (Wl w vw X) := hw
  have PF : Hid (Wd.wfault ks X = 0 → PFit ks X) := pfit_of
  obtain ⟨v1, v2, v3, v4, v5, rfl, r1, r2, hg, hu, r5⟩ := hw
  have U0 : Hid (Unl w v4 X.us) := hu
  have G0 : Hid (Ro w v3 X.gold) := hg
  obtain ⟨ag, cg, rfl, cg1, cg2, -⟩ := hg
  clear r1 r2 r5 hu hk hb
  go_enter Tryd.func10, Tryd.ntmps10
  obtain ⟨z, hz⟩ : ∃ z, w.heap.size = z := ⟨_, rfl⟩
  have HZ : Hid (w.heap.size = z) := hz
  have X0 : Hid (Bw (w.alloc (Obj.cells #[.int .i64 X.turn, .int .i64 X.next, .int .i64 X.wide, .int .i64 X.high, v1, v2, .slice ag X.gold.length cg, v4, v5] 37)) z X v1 v2 (.slice ag X.gold.length cg) v4 v5) := Bw.mk' (w := w) X v1 v2 (.slice ag X.gold.length cg) v4 v5 hz
  have B0 : Hid (Below w.heap.size w (w.alloc (Obj.cells #[.int .i64 X.turn, .int .i64 X.next, .int .i64 X.wide, .int .i64 X.high, v1, v2, .slice ag X.gold.length cg, v4, v5] 37))) := (Below.refl _ _).alloc (Nat.le_refl _) _
  go_upto_region 1 with fail
  clear hz
  generalize (w.alloc (Obj.cells #[.int .i64 X.turn, .int .i64 X.next, .int .i64 X.wide, .int .i64 X.high, v1, v2, .slice ag X.gold.length cg, v4, v5] 37)) = w1 at *
  obtain ⟨x0, x1, x2, x3, x4, x5, x6, x7, x8⟩ := X0.out
  go_wp2_with fail
  refine (wcheck_any _ _ ks X w1 (K.out.1.below B0.out) K.out.2 (W0.out.below B0.out)).mono ?_
  rintro e w2 ⟨r, rfl, hr, b2⟩
  have B2 : Hid (Below w.heap.size w w2) := B0.out.trans (b2.mono B0.out.size)
  have X2 : Hid (Bw w2 z X v1 v2 (.slice ag X.gold.length cg) v4 v5) := X0.out.below b2 X0.out.lt
  clear b2 x0 x1 x2 x3 x4 x5 x6 x7 x8 X0
  rcases hr with ⟨h0, rfl⟩ | ⟨h0, rfl⟩
  case inr =>
    have H0 : Hid (Wd.wfault ks X ≠ 0) := h0
    clear h0
    go_wp2
    go_ret2
    exact ⟨_, _, rfl, by first | exact B2.out | (rw [← HZ.out]; exact B2.out), .inl ⟨H0.out, ⟨none, 0, rfl, Nat.le_refl _, by omega, fun h => absurd rfl h⟩, Er.no H0.out⟩⟩
  case inl =>
    have F : Hid (PFit ks X) := PF.out h0
    have H0 : Hid (Wd.wfault ks X = 0) := h0
    clear PF h0
    have x7 := X2.out.c7
    go_wp2_with fail
    refine (worth_any _ ks _ X.us w2 (K.out.1.below B2.out) K.out.2 (U0.out.below B2.out)).mono ?_
    rintro e w3 ⟨r, u, rfl, b3, hr⟩
    have B3 : Hid (Below w.heap.size w w3) := B2.out.trans (b3.mono B2.out.size)
    have X3 : Hid (Bw w3 z X v1 v2 (.slice ag X.gold.length cg) v4 v5) := X2.out.below b3 X2.out.lt
    clear b3 x7
    rcases hr with ⟨h, -⟩ | ⟨-, h, -⟩ | ⟨-, -, h, -⟩ | ⟨-, -, -, hr, he⟩
    · exact absurd F.out.k h
    · have := F.out.ul; omega
    · rw [F.out.bad] at h; cases h
    obtain rfl : u = .nilIface := by
      rcases he with ⟨-, e⟩ | ⟨h, -⟩
      · exact e
      · exact absurd rfl h
    have RW : Hid (Ro w3 r (worths ks X.us)) := hr
    have lw : (worths ks X.us).length = 4 := rfl
    obtain ⟨ar, cr, rfl, -, -, hwc⟩ := hr
    obtain ⟨xr, rfl, hxl, hxr⟩ := hwc (by simp [worths])
    have WC : Hid (xr.block < w3.heap.size ∧ ∀ (i : Nat) d, (worths ks X.us)[i]? = some d → w3.cell? (xr.add i) = some (.int .i64 d)) := ⟨hxl, hxr⟩
    rw [lw]
    clear hwc hxl hxr he lw
    have gl := F.out.gl
    obtain ⟨w4, hm, hbk, hbb, hs⟩ := makeI X.gold.length w3 (by omega)
    have BK : Hid (Bk w4 w3.heap.size (List.replicate X.gold.length 0) #[]) := hbk
    have BB : Hid (Below w3.heap.size w3 w4) := hbb
    have x6 := X3.out.c6
    have x6' := (X3.out.below BB.out X3.out.lt).c6
    obtain ⟨b, hb⟩ : ∃ b, w3.heap.size = b := ⟨_, rfl⟩
    have HB : Hid (w3.heap.size = b) := hb
    rw [hb] at BK hm
    clear hbk hbb hs hb
    go_wp2_with fail
    clear hm x6 x6'
    go_loopw [35] (fun j V => ∃ n : Nat, n ≤ X.gold.length ∧ j = .int .i64 (n : Nat) ∧ Bk V b ((Sc.points ks X).take n ++ List.replicate (X.gold.length - n) 0) #[] ∧ Below b w3 V) (fun j _ => X.gold.length - (intOf j).toNat)
    case atStart => exact ⟨0, Nat.zero_le _, rfl, by simpa using BK.out, by rw [← HB.out]; exact BB.out⟩
    case round =>
      obtain ⟨n, hn, rfl, hb1, hB⟩ := hrel
      have B1 : Hid (Bk wr b ((Sc.points ks X).take n ++ List.replicate (X.gold.length - n) 0) #[]) := hb1
      have V1 : Hid (Below b w3 wr) := hB
      have BR : Hid (Below w.heap.size w wr) := B3.out.trans (by rw [← HB.out] at hB; exact hB.mono B3.out.size)
      clear hb1 hB
      by_cases hne : n = X.gold.length
      · subst hne
        go_wp2
        go_ret2
        refine ⟨_, _, rfl, by first | exact BR.out | (rw [← HZ.out]; exact BR.out), .inr ⟨H0.out, ?_, Er.nil⟩⟩
        have := B1.out.ro (c := X.gold.length) (by simp [Sc.points_len gl]) (by omega)
        rw [Nat.sub_self, List.replicate_zero, List.append_nil, List.take_of_length_le (by rw [Sc.points_len gl]; exact Nat.le_refl _), Sc.points_len gl] at this
        exact this
      · have hnl : n < X.gold.length := by omega
        have hnl' : (n : Int) < (X.gold.length : Int) := by omega
        have hn4 : (n : Int) < 4 := by omega
        obtain ⟨g, hg⟩ : ∃ g, X.gold[n]? = some g := ⟨_, List.getElem?_eq_getElem hnl⟩
        obtain ⟨x, hx⟩ := F.out.wl n hnl
        have gb := F.out.gold g (List.mem_of_getElem? hg)
        have xb := F.out.worth n x hx
        have PG : Hid ((Sc.points ks X)[n]? = some (g + 10 * x)) := Sc.points_get hg hx
        obtain ⟨a', c', e', -, -, hy⟩ := G0.out.below BR.out
        injection e' with e1 e2 e3
        subst e1 e3
        obtain ⟨y, rfl, -, hy⟩ := hy (by rintro hn; rw [hn] at hnl; simp at hnl)
        have cy := hy n g hg
        have cx : wr.cell? (xr.add n) = some (.int .i64 x) := by
          rw [V1.out.cell (by rw [add_block, ← HB.out]; exact WC.out.1)]
          exact WC.out.2 n x hx
        have tz := B1.out.thaw n
        have l9 : ((Sc.points ks X).take n).length = n := by rw [List.length_take, Sc.points_len gl]; omega
        have cz := B1.out.cell (i := n) (d := 0) (by
          rw [List.getElem?_append_right (by omega), l9, Nat.sub_self, List.getElem?_replicate, if_pos (by omega)])
        have SZ : Hid (Bk (wr.setCell ⟨b, n, none⟩ (.int .i64 (g + 10 * x))) b ((Sc.points ks X).take (n + 1) ++ List.replicate (X.gold.length - (n + 1)) 0) #[]) := by
          have h9 := B1.out.set n (g + 10 * x) (by simp [Sc.points_len gl]; omega)
          have e9 : ((Sc.points ks X).take n ++ List.replicate (X.gold.length - n) 0).set n (g + 10 * x) = (Sc.points ks X).take (n + 1) ++ List.replicate (X.gold.length - (n + 1)) 0 := by
            rw [List.set_append_right _ _ (by omega), l9, Nat.sub_self, List.take_add_one, PG.out]
            have : X.gold.length - n = (X.gold.length - (n + 1)) + 1 := by omega
            rw [this, List.replicate_succ]
            simp
          rw [e9] at h9
          exact h9
        have w10 : IntKind.i64.wrap (10 * x) = 10 * x := by rw [IntKind.wrap_i64]; omega
        have wgx : IntKind.i64.wrap (g + 10 * x) = g + 10 * x := by rw [IntKind.wrap_i64]; omega
        clear hy hg hx e2 l9
        go_wp2
        exact ⟨⟨n + 1, by omega, by go_num, SZ.out, V1.out.setCell (p := ⟨b, n, none⟩) (Nat.le_refl _) _⟩, by simp [intOf]; omega⟩
end Go.Proofs.YtamgjhehnblbgaaDoor

namespace Go.Proofs.YtamgjhehnblbgaaDoor
open Go.RowKit
set_option linter.unusedVariables false

set_option maxRecDepth 100000 in
set_option maxHeartbeats 2000000 in
theorem rfind_any (v : Value) (W : WV) (id : Int) (w : World) (h : Wl w v W) :
    Calls Tryd.prog 22 #[v, .int .i64 id] w fun e w' => ∃ r : Int, e = .returned (.int .i64 r) ∧ FstU (fun u => u.id == id) W.us r ∧ Below w.heap.size w w' := by
  obtain ⟨u1, u2, u3, u4, u5, rfl, -, -, -, ⟨a, c, rfl, c1, c2, ca⟩, -⟩ := h
  have Ca : Hid (W.us ≠ [] → ∃ x, a = some x ∧ x.block < w.heap.size ∧ ∀ (i : Nat) k, W.us[i]? = some k → Unc w (x.add (i * 8)) k) := ca
  clear ca
  go_enter Tryd.func22, Tryd.ntmps22
  go_wp2
  have B0 : Hid (Below w.heap.size w (w.alloc (Obj.cells #[.int .i64 W.turn, .int .i64 W.next, .int .i64 W.wide, .int .i64 W.high, u1, u2, u3, .slice a W.us.length c, u5] 37))) := (Below.refl _ _).alloc (Nat.le_refl _) _
  have X0 : Hid (Bw (w.alloc (Obj.cells #[.int .i64 W.turn, .int .i64 W.next, .int .i64 W.wide, .int .i64 W.high, u1, u2, u3, .slice a W.us.length c, u5] 37)) w.heap.size W u1 u2 u3 (.slice a W.us.length c) u5) := Bw.mk' W _ _ _ _ _ rfl
  generalize w.alloc (Obj.cells #[.int .i64 W.turn, .int .i64 W.next, .int .i64 W.wide, .int .i64 W.high, u1, u2, u3, .slice a W.us.length c, u5] 37) = w0 at *
  go_loopw [5] (fun iv V => ∃ k : Nat, k ≤ W.us.length ∧ iv = .int .i64 (k : Nat) ∧ (W.us.take k).any (fun u => u.id == id) = false ∧ V = w0) (fun iv _ => W.us.length - (intOf iv).toNat)
  case atStart => exact ⟨0, Nat.zero_le _, rfl, rfl, rfl⟩
  case round =>
    obtain ⟨k, hk, rfl, hn, rfl⟩ := hrel
    have HN : Hid ((W.us.take k).any (fun u => u.id == id) = false) := hn
    have c7 := X0.out.c7
    clear hn
    by_cases hkl : k = W.us.length
    · have F : Hid (FstU (fun u => u.id == id) W.us (-1)) := .inl ⟨rfl, by have := HN.out; rwa [hkl, List.take_length] at this⟩
      subst hkl
      clear hk
      go_wp2
      go_ret
      exact ⟨-1, rfl, F.out, B0.out⟩
    · have hlt : k < W.us.length := by omega
      have hli : (k : Int) < (W.us.length : Int) := by omega
      obtain ⟨u, hu⟩ : ∃ u, W.us[k]? = some u := ⟨_, List.getElem?_eq_getElem hlt⟩
      obtain ⟨x, rfl, hx, hcell⟩ := Ca.out (by intro e; rw [e] at hlt; simp at hlt)
      obtain ⟨d0, -, -, -, -, -, -, -⟩ := (hcell k u hu).below B0.out (by rw [add_block]; exact hx)
      have HU : Hid (W.us[k]? = some u) := hu
      clear hcell hx hu hkl
      by_cases hid : u.id = id
      · have F : Hid (FstU (fun u => u.id == id) W.us (k : Nat)) := .inr ⟨k, u, rfl, HU.out, by simp [hid], HN.out⟩
        go_wp2
        go_ret
        exact ⟨_, rfl, F.out, B0.out⟩
      · have hidb : (u.id == id) = false := by simpa using hid
        have N2 : Hid ((W.us.take (k + 1)).any (fun u => u.id == id) = false) := by unfold Hid; rw [anyu_next HU.out, HN.out, hidb]; rfl
        clear hid
        go_wp2
        go_roundw
        case rel => exact ⟨k + 1, by omega, rfl, N2.out, trivial⟩
        case measure => simp [intOf]; omega
end Go.Proofs.YtamgjhehnblbgaaDoor

namespace Go.Proofs.YtamgjhehnblbgaaDoor
open Go.RowKit
set_option linter.unusedVariables false

set_option maxHeartbeats 1000000 in
theorem rnumber_q (n : Int) (q : Bool) (w : World) (hq : Hid (decide (0 ≤ n ∧ n ≤ 1000000) = q)) :
    Calls Tryd.prog 19 #[.int .i64 n] w fun e w' => e = .returned (.bool q) ∧ w' = w := by
  go_enter Tryd.func19, Tryd.ntmps19
  by_cases h0 : 0 ≤ n
  · by_cases h1 : n ≤ 1000000
    · have E : Hid (q = true) := by unfold Hid; rw [← hq.out]; simp [h0, h1]
      go_wp2
      go_ret
      exact ⟨by rw [E.out]; rfl, rfl⟩
    · have E : Hid (q = false) := by unfold Hid; rw [← hq.out]; simp [h1]
      go_wp2
      go_ret
      exact ⟨by rw [E.out]; rfl, rfl⟩
  · have E : Hid (q = false) := by unfold Hid; rw [← hq.out]; simp [h0]
    go_wp2
    go_ret
    exact ⟨by rw [E.out]; rfl, rfl⟩
set_option maxRecDepth 100000 in
set_option maxHeartbeats 2000000 in
theorem ron_any (v : Value) (W : WV) (at_ : Int) (w : World) (h : Wl w v W) :
    Calls Tryd.prog 21 #[v, .int .i64 at_] w fun e w' => ∃ r : Int, e = .returned (.int .i64 r) ∧ FstU (fun u => u.at_ == at_) W.us r ∧ Below w.heap.size w w' := by
  obtain ⟨u1, u2, u3, u4, u5, rfl, -, -, -, ⟨a, c, rfl, c1, c2, ca⟩, -⟩ := h
  have Ca : Hid (W.us ≠ [] → ∃ x, a = some x ∧ x.block < w.heap.size ∧ ∀ (i : Nat) k, W.us[i]? = some k → Unc w (x.add (i * 8)) k) := ca
  clear ca
  go_enter Tryd.func21, Tryd.ntmps21
  go_wp2
  have B0 : Hid (Below w.heap.size w (w.alloc (Obj.cells #[.int .i64 W.turn, .int .i64 W.next, .int .i64 W.wide, .int .i64 W.high, u1, u2, u3, .slice a W.us.length c, u5] 37))) := (Below.refl _ _).alloc (Nat.le_refl _) _
  have X0 : Hid (Bw (w.alloc (Obj.cells #[.int .i64 W.turn, .int .i64 W.next, .int .i64 W.wide, .int .i64 W.high, u1, u2, u3, .slice a W.us.length c, u5] 37)) w.heap.size W u1 u2 u3 (.slice a W.us.length c) u5) := Bw.mk' W _ _ _ _ _ rfl
  generalize w.alloc (Obj.cells #[.int .i64 W.turn, .int .i64 W.next, .int .i64 W.wide, .int .i64 W.high, u1, u2, u3, .slice a W.us.length c, u5] 37) = w0 at *
  go_loopw [5] (fun iv V => ∃ k : Nat, k ≤ W.us.length ∧ iv = .int .i64 (k : Nat) ∧ (W.us.take k).any (fun u => u.at_ == at_) = false ∧ V = w0) (fun iv _ => W.us.length - (intOf iv).toNat)
  case atStart => exact ⟨0, Nat.zero_le _, rfl, rfl, rfl⟩
  case round =>
    obtain ⟨k, hk, rfl, hn, rfl⟩ := hrel
    have HN : Hid ((W.us.take k).any (fun u => u.at_ == at_) = false) := hn
    have c7 := X0.out.c7
    clear hn
    by_cases hkl : k = W.us.length
    · have F : Hid (FstU (fun u => u.at_ == at_) W.us (-1)) := .inl ⟨rfl, by have := HN.out; rwa [hkl, List.take_length] at this⟩
      subst hkl
      clear hk
      go_wp2
      go_ret
      exact ⟨-1, rfl, F.out, B0.out⟩
    · have hlt : k < W.us.length := by omega
      have hli : (k : Int) < (W.us.length : Int) := by omega
      obtain ⟨u, hu⟩ : ∃ u, W.us[k]? = some u := ⟨_, List.getElem?_eq_getElem hlt⟩
      obtain ⟨x, rfl, hx, hcell⟩ := Ca.out (by intro e; rw [e] at hlt; simp at hlt)
      obtain ⟨-, -, -, d3, -, -, -, -⟩ := (hcell k u hu).below B0.out (by rw [add_block]; exact hx)
      have HU : Hid (W.us[k]? = some u) := hu
      clear hcell hx hu hkl
      by_cases hid : u.at_ = at_
      · have F : Hid (FstU (fun u => u.at_ == at_) W.us (k : Nat)) := .inr ⟨k, u, rfl, HU.out, by simp [hid], HN.out⟩
        go_wp2
        go_ret
        exact ⟨_, rfl, F.out, B0.out⟩
      · have hidb : (u.at_ == at_) = false := by simpa using hid
        have N2 : Hid ((W.us.take (k + 1)).any (fun u => u.at_ == at_) = false) := by unfold Hid; rw [anyu_next HU.out, HN.out, hidb]; rfl
        clear hid
        go_wp2
        go_roundw
        case rel => exact ⟨k + 1, by omega, rfl, N2.out, trivial⟩
        case measure => simp [intOf]; omega
end Go.Proofs.YtamgjhehnblbgaaDoor

namespace Go.Proofs.YtamgjhehnblbgaaDoor
open Go.RowKit
set_option linter.unusedVariables false

theorem ref_numbers (k : KV) (w : World) :
    Calls Tryd.prog 40 #[k.val] w fun e w' => ∃ u, e = .returned u ∧ Ro w' u [k.n0, k.n1, k.n2, k.n3, k.n4, k.n5, k.n6, k.n7] ∧ Below w.heap.size w w' := by
  obtain ⟨b, n0, n1, n2, n3, n4, n5, n6, n7, f, t⟩ := k
  unfold KV.val
  go_enter Tryd.func40, Tryd.ntmps40
  go_wp2_with fail
  go_ret
  refine ⟨_, rfl, ?_, ((Below.refl _ _).alloc (Nat.le_refl _) _).alloc (by simp) _⟩
  exact Ro.lit (w := w.alloc _) (z := w.heap.size + 1) [n0, n1, n2, n3, n4, n5, n6, n7] _ rfl (by simp) (by simp)

theorem name_empty {s : ByteArray} (h : s.data.toList = []) : s.toList.isEmpty = true := by
  rw [← decide_eq_emptyBytes s]
  exact decide_eq_true (WideShapes.bytes_inj (by rw [h]; rfl))
theorem name_some {s : ByteArray} (h : s.data.toList ≠ []) : s.toList.isEmpty = false := by
  rw [← decide_eq_emptyBytes s]
  exact decide_eq_false (fun e => h (by rw [e]; rfl))
theorem kf_name {ah : List Kd.K} {k : Kd.K} (h : Kd.nameOk k.name = false) : Kd.kindFault ah k = 2 := by
  unfold Kd.kindFault
  rw [if_neg (by rw [h]; decide)]

set_option maxRecDepth 100000 in
set_option maxHeartbeats 4000000 in
theorem ref_kind (v : Value) (ks : List KV) (i : Nat) (k : KV) (w : World) (h : Kl w v ks) (hi : ks[i]? = some k) (hn : ks.length ≤ 1000000) (hb : k.b.size ≤ 9223372036854775807) :
    Calls Tryd.prog 27 #[v, .int .i64 (i : Nat)] w fun e w' => e = .returned (.int .i64 (Kd.kindFault ((ks.take i).map KV.k) k.k)) ∧ Below w.heap.size w w' := by
  have hil : i < ks.length := (List.getElem?_eq_some_iff.1 hi).1
  obtain ⟨a, c, rfl, c1, c2, hx⟩ := h
  obtain ⟨x, rfl, xl, hk⟩ := hx (by intro e; rw [e] at hil; simp at hil)
  have Hk : Hid (x.block < w.heap.size ∧ ∀ (i : Nat) k, ks[i]? = some k → Kc w (x.add (i * 11)) k) := ⟨xl, hk⟩
  obtain ⟨q0, q1, q2, q3, q4, q5, q6, q7, q8, q9, q10⟩ := hk i k hi
  clear hx hk xl
  obtain ⟨l, hl⟩ : ∃ l, k.b.data.toList = l := ⟨_, rfl⟩
  have Hl : Hid (k.b.data.toList = l) := hl
  have Ll : Hid (l.length = k.b.size) := by unfold Hid; rw [← hl]; rfl
  have Kn : Hid (k.k.name = l) := hl
  have Km : Hid (k.k.nums = [k.n0, k.n1, k.n2, k.n3, k.n4, k.n5, k.n6, k.n7]) := rfl
  have Hi : Hid (ks[i]? = some k) := hi
  clear hi hl
  obtain ⟨R, hR⟩ : ∃ R, Kd.kindFault ((ks.take i).map KV.k) k.k = R := ⟨_, rfl⟩
  have HR : Hid (Kd.kindFault ((ks.take i).map KV.k) k.k = R) := hR
  rw [hR]
  clear hR
  have NB : Hid (Kd.nameOk l = false → R = 2) := fun h => by rw [← HR.out]; exact kf_name (by rw [Kn.out]; exact h)
  have Z : Hid (k.val = k.val) := rfl
  obtain ⟨kb, n0, n1, n2, n3, n4, n5, n6, n7, kf, kt⟩ := k
  simp only at q0 q1 q2 q3 q4 q5 q6 q7 q8 q9 q10 hb Hl Ll Km
  go_enter Tryd.func27, Tryd.ntmps27
  have B1 : Hid (Below w.heap.size w (w.alloc (Obj.cells #[.string kb, .int .i64 n0, .int .i64 n1, .int .i64 n2, .int .i64 n3, .int .i64 n4, .int .i64 n5, .int .i64 n6, .int .i64 n7, .bool kf, .bool kt] 57))) := (Below.refl _ _).alloc (Nat.le_refl _) _
  have X1 : Hid (Kc (w.alloc (Obj.cells #[.string kb, .int .i64 n0, .int .i64 n1, .int .i64 n2, .int .i64 n3, .int .i64 n4, .int .i64 n5, .int .i64 n6, .int .i64 n7, .bool kf, .bool kt] 57)) ⟨w.heap.size, 0, none⟩ ⟨kb, n0, n1, n2, n3, n4, n5, n6, n7, kf, kt⟩) := Kc.mk' ⟨kb, n0, n1, n2, n3, n4, n5, n6, n7, kf, kt⟩ rfl
  go_upto_region 2 with fail
  generalize w.alloc (Obj.cells #[.string kb, .int .i64 n0, .int .i64 n1, .int .i64 n2, .int .i64 n3, .int .i64 n4, .int .i64 n5, .int .i64 n6, .int .i64 n7, .bool kf, .bool kt] 57) = w1 at *
  have y0 : w1.cell? ⟨w.heap.size, 0, none⟩ = some (.string kb) := X1.out.c0
  have y1 : w1.cell? ⟨w.heap.size, 1, none⟩ = some (.int .i64 n0) := X1.out.c1
  have y2 : w1.cell? ⟨w.heap.size, 2, none⟩ = some (.int .i64 n1) := X1.out.c2
  have y3 : w1.cell? ⟨w.heap.size, 3, none⟩ = some (.int .i64 n2) := X1.out.c3
  have y4 : w1.cell? ⟨w.heap.size, 4, none⟩ = some (.int .i64 n3) := X1.out.c4
  have y5 : w1.cell? ⟨w.heap.size, 5, none⟩ = some (.int .i64 n4) := X1.out.c5
  have y6 : w1.cell? ⟨w.heap.size, 6, none⟩ = some (.int .i64 n5) := X1.out.c6
  have y7 : w1.cell? ⟨w.heap.size, 7, none⟩ = some (.int .i64 n6) := X1.out.c7
  have y8 : w1.cell? ⟨w.heap.size, 8, none⟩ = some (.int .i64 n7) := X1.out.c8
  have y9 : w1.cell? ⟨w.heap.size, 9, none⟩ = some (.bool kf) := X1.out.c9
  have y10 : w1.cell? ⟨w.heap.size, 10, none⟩ = some (.bool kt) := X1.out.c10
  clear q0 q1 q2 q3 q4 q5 q6 q7 q8 q9 q10
  by_cases h0 : l = []
  · have he : kb.toList.isEmpty = true := name_empty (by rw [Hl.out]; exact h0)
    have E : Hid (R = 2) := NB.out (by rw [h0]; rfl)
    clear h0
    go_wp2
    go_ret
    exact ⟨by rw [E.out]; rfl, B1⟩
  · have he : kb.toList.isEmpty = false := name_some (by rw [Hl.out]; exact h0)
    by_cases h1 : 8 < kb.size
    · have E : Hid (R = 2) := NB.out (by
        unfold Kd.nameOk
        rw [decide_eq_false (by rw [Ll.out]; omega)]
        simp)
      have h1' : (8 : Int) < (kb.size : Int) := by omega
      clear h0
      go_wp2
      go_ret
      exact ⟨by rw [E.out]; rfl, B1⟩
    · have h1' : ¬ (8 : Int) < (kb.size : Int) := by omega
      have NO : Hid (Kd.nameOk l = l.all Kd.isLetter) := by
        unfold Hid Kd.nameOk
        rw [decide_eq_true (by rw [Ll.out]; omega), Bool.true_and]
        cases l with
        | nil => exact absurd rfl h0
        | cons a r => rfl
      clear h0
      go_wp2_with fail
      go_loop [6] (fun j => ∃ q : Nat, q ≤ kb.size ∧ j = .int .i64 (q : Nat) ∧ (l.take q).all Kd.isLetter = true) (fun j => kb.size - (intOf j).toNat)
      case atStart => exact ⟨0, Nat.zero_le _, rfl, by simp⟩
      case round =>
        obtain ⟨q, hq, rfl, hd⟩ := hrel
        have Hd : Hid ((l.take q).all Kd.isLetter = true) := hd
        clear hd
        by_cases hqs : q = kb.size
        · have Ok : Hid (Kd.nameOk l = true) := by
            unfold Hid
            rw [NO.out]
            have := Hd.out
            rw [List.take_of_length_le (by rw [Ll.out, hqs]; exact Nat.le_refl _)] at this
            exact this
          subst hqs
          clear NO Hd NB
          go_wp2_with fail
          clear y0 y1 y2 y3 y4 y5 y6 y7 y8 y9 y10 he h1 h1' hq
          go_loopw [7] (fun j W' => ∃ q r : Nat, q ≤ i ∧ j = .int .i64 (q : Nat) ∧ (ks.take q).any (fun a => a.k.name == l) = false ∧ W' = w1.drewN r) (fun j _ => i - (intOf j).toNat)
          case atStart => exact ⟨0, 0, Nat.zero_le _, rfl, by simp, rfl⟩
          case round =>
            obtain ⟨q, r, hq, rfl, hany, rfl⟩ := hrel
            have An : Hid ((ks.take q).any (fun a => a.k.name == l) = false) := hany
            clear hany
            have kr : Below w1.heap.size w1 (w1.drewN r) := _root_.Go.below_drewN (Below.refl _ _) _
            have B2 : Hid (Below w.heap.size w (w1.drewN r)) := B1.out.trans (kr.mono B1.out.size)
            have Y2 : Hid (Kc (w1.drewN r) ⟨w.heap.size, 0, none⟩ ⟨kb, n0, n1, n2, n3, n4, n5, n6, n7, kf, kt⟩) := X1.out.below kr X1.out.lt
            have Qr : Hid (∀ n, (w1.drewN r).drewN n = w1.drewN (r + n)) := fun n => by rw [World.drewN_drewN]
            generalize w1.drewN r = w2 at *
            have y0 : w2.cell? ⟨w.heap.size, 0, none⟩ = some (.string kb) := Y2.out.c0
            by_cases hqi : q = i
            · have R1 : Hid (R = Kd.numsFault [n0, n1, n2, n3, n4, n5, n6, n7]) := by
                unfold Hid
                rw [← HR.out]
                unfold Kd.kindFault
                rw [Kn.out, if_pos Ok.out, List.any_map, if_neg, Km.out]
                have := An.out
                rw [hqi] at this
                intro h9
                rw [show ((fun a : Kd.K => a.name == l) ∘ KV.k) = fun a : KV => a.k.name == l from rfl, this] at h9
                cases h9
              subst hqi
              obtain ⟨x0, x1, x2, x3, x4, x5, x6, x7, x8, x9, x10⟩ := Y2.out
              have x1 : w2.cell? ⟨w.heap.size, 1, none⟩ = some (.int .i64 n0) := x1
              have x2 : w2.cell? ⟨w.heap.size, 2, none⟩ = some (.int .i64 n1) := x2
              have x3 : w2.cell? ⟨w.heap.size, 3, none⟩ = some (.int .i64 n2) := x3
              have x4 : w2.cell? ⟨w.heap.size, 4, none⟩ = some (.int .i64 n3) := x4
              have x5 : w2.cell? ⟨w.heap.size, 5, none⟩ = some (.int .i64 n4) := x5
              have x6 : w2.cell? ⟨w.heap.size, 6, none⟩ = some (.int .i64 n5) := x6
              have x7 : w2.cell? ⟨w.heap.size, 7, none⟩ = some (.int .i64 n6) := x7
              have x8 : w2.cell? ⟨w.heap.size, 8, none⟩ = some (.int .i64 n7) := x8
              have x9 : w2.cell? ⟨w.heap.size, 9, none⟩ = some (.bool kf) := x9
              have x10 : w2.cell? ⟨w.heap.size, 10, none⟩ = some (.bool kt) := x10
              go_wp2_with fail
              refine (ref_numbers ⟨kb, n0, n1, n2, n3, n4, n5, n6, n7, kf, kt⟩ _).mono ?_
              rintro e w3 ⟨u, rfl, hu, k3⟩
              have B3 : Hid (Below w.heap.size w w3) := B2.out.trans (k3.mono B2.out.size)
              have Y3 := Y2.out.below k3 Y2.out.lt
              obtain ⟨au, cu, rfl, g1, g2, hc⟩ := hu
              obtain ⟨yu, rfl, -, hyu⟩ := hc (by simp)
              have Yu : Hid (∀ (j : Nat) d, [n0, n1, n2, n3, n4, n5, n6, n7][j]? = some d → w3.cell? (yu.add j) = some (.int .i64 d)) := hyu
              clear k3 hc hyu x0 x1 x2 x3 x4 x5 x6 x7 x8 x9 x10 y0 An
              obtain ⟨ns, hns⟩ : ∃ ns, [n0, n1, n2, n3, n4, n5, n6, n7] = ns := ⟨_, rfl⟩
              have Hns : Hid ([n0, n1, n2, n3, n4, n5, n6, n7] = ns) := hns
              simp only [List.length_cons, List.length_nil, Nat.zero_add, Nat.reduceAdd] at g1 ⊢
              rw [hns] at R1 Yu
              have nl : Hid (ns.length = 8) := by rw [← hns]; rfl
              clear hns
              go_wp2_with fail
              go_loop [9] (fun j => ∃ p : Nat, p ≤ 8 ∧ j = .int .i64 (p : Nat) ∧ (ns.take p).any (fun x => decide (x < 0 ∨ 1000 < x)) = false) (fun j => 8 - (intOf j).toNat)
              case atStart => exact ⟨0, Nat.zero_le _, rfl, by simp⟩
              case round =>
                obtain ⟨p, hp, rfl, hany⟩ := hrel
                have An : Hid ((ns.take p).any (fun x => decide (x < 0 ∨ 1000 < x)) = false) := hany
                clear hany
                by_cases hp8 : p = 8
                · have R2 : Hid (R = if n0 < 1 ∨ 4 < n4 ∨ 12 < n2 ∨ 12 < n3 then 1 else 0) := by
                    have h9 := An.out
                    rw [List.take_of_length_le (by rw [nl.out, hp8]; exact Nat.le_refl _)] at h9
                    unfold Hid
                    rw [R1.out]
                    unfold Kd.numsFault
                    rw [if_neg (by rw [h9]; decide), ← Hns.out]
                    rfl
                  have z1 : w3.cell? ⟨w.heap.size, 1, none⟩ = some (.int .i64 n0) := Y3.c1
                  have z3 : w3.cell? ⟨w.heap.size, 3, none⟩ = some (.int .i64 n2) := Y3.c3
                  have z4 : w3.cell? ⟨w.heap.size, 4, none⟩ = some (.int .i64 n3) := Y3.c4
                  have z5 : w3.cell? ⟨w.heap.size, 5, none⟩ = some (.int .i64 n4) := Y3.c5
                  subst hp8
                  clear R1 An Y3
                  by_cases t1 : n0 < 1
                  · have E : Hid (R = 1) := by unfold Hid; rw [R2.out, if_pos (.inl t1)]
                    go_wp2
                    go_ret
                    exact ⟨by rw [E.out]; rfl, B3⟩
                  · by_cases t2 : 4 < n4
                    · have E : Hid (R = 1) := by unfold Hid; rw [R2.out, if_pos (.inr (.inl t2))]
                      go_wp2
                      go_ret
                      exact ⟨by rw [E.out]; rfl, B3⟩
                    · by_cases t3 : 12 < n2
                      · have E : Hid (R = 1) := by unfold Hid; rw [R2.out, if_pos (.inr (.inr (.inl t3)))]
                        go_wp2
                        go_ret
                        exact ⟨by rw [E.out]; rfl, B3⟩
                      · by_cases t4 : 12 < n3
                        · have E : Hid (R = 1) := by unfold Hid; rw [R2.out, if_pos (.inr (.inr (.inr t4)))]
                          go_wp2
                          go_ret
                          exact ⟨by rw [E.out]; rfl, B3⟩
                        · have E : Hid (R = 0) := by unfold Hid; rw [R2.out, if_neg (by omega)]
                          go_wp2
                          go_ret
                          exact ⟨by rw [E.out]; rfl, B3⟩
                · have hpn : p < ns.length := by rw [nl.out]; omega
                  have hp9 : p < 8 := by omega
                  have cp := Yu.out p _ (List.getElem?_eq_getElem hpn)
                  have As : Hid ((ns.take (p + 1)).any (fun x => decide (x < 0 ∨ 1000 < x)) = decide (ns[p] < 0 ∨ 1000 < ns[p])) := by
                    unfold Hid
                    rw [List.take_succ_eq_append_getElem hpn, List.any_append, An.out]
                    simp
                  have N2 : Hid ((ns[p] < 0 ∨ 1000 < ns[p]) → R = 1) := fun h => by
                    rw [R1.out]
                    unfold Kd.numsFault
                    rw [if_pos]
                    rw [List.any_eq_true]
                    exact ⟨_, List.getElem_mem hpn, decide_eq_true h⟩
                  generalize ns[p] = y at *
                  by_cases t1 : y < 0
                  · have E : Hid (R = 1) := N2.out (.inl t1)
                    clear N2 As
                    go_wp2
                    go_ret
                    exact ⟨by rw [E.out]; rfl, B3⟩
                  · by_cases t2 : 1000 < y
                    · have E : Hid (R = 1) := N2.out (.inr t2)
                      clear N2 As
                      go_wp2
                      go_ret
                      exact ⟨by rw [E.out]; rfl, B3⟩
                    · have As' : Hid ((ns.take (p + 1)).any (fun x => decide (x < 0 ∨ 1000 < x)) = false) := by
                        unfold Hid
                        rw [As.out]
                        exact decide_eq_false (by omega)
                      clear N2 As
                      go_wp2
                      go_round
                      case rel => exact ⟨p + 1, by omega, by go_num, As'⟩
                      case measure => simp [intOf]; omega
            · have hqi' : q < i := by omega
              obtain ⟨kj, hkj⟩ : ∃ kj, ks[q]? = some kj := ⟨_, List.getElem?_eq_getElem (by omega)⟩
              have cj : w2.cell? (x.add (q * 11)) = some (.string kj.b) := by
                rw [B2.out.cell (p := x.add (q * 11)) (by rw [add_block]; exact Hk.out.1)]
                exact (Hk.out.2 q kj hkj).c0
              have As : Hid ((ks.take (q + 1)).any (fun a => a.k.name == l) = (kj.b.data.toList == l)) := by
                unfold Hid
                have hql : q < ks.length := by omega
                rw [List.take_succ_eq_append_getElem hql, List.any_append, An.out]
                have e : ks[q] = kj := by
                  rw [List.getElem?_eq_getElem hql] at hkj
                  injection hkj
                rw [e]
                simp [KV.k]
              have hqk : q < ks.length := by omega
              by_cases hE : kj.b = kb
              · have E : Hid (R = 8) := by
                  unfold Hid
                  rw [← HR.out]
                  unfold Kd.kindFault
                  rw [Kn.out, if_pos Ok.out, List.any_map, if_pos]
                  rw [List.any_eq_true]
                  refine ⟨kj, ?_, by show (kj.b.data.toList == l) = true; rw [hE, Hl.out]; simp⟩
                  rw [List.mem_iff_getElem?]
                  exact ⟨q, by rw [List.getElem?_take, if_pos hqi']; exact hkj⟩
                rw [hE] at cj
                clear hE hkj As
                go_wp2
                go_quiet (fail)
                go_wp2
                go_ret
                exact ⟨by rw [E.out]; rfl, _root_.Go.below_drewN B2.out _⟩
              · have As' : Hid ((ks.take (q + 1)).any (fun a => a.k.name == l) = false) := by
                  unfold Hid
                  rw [As.out]
                  cases h9 : (kj.b.data.toList == l) with
                  | false => rfl
                  | true =>
                    have : kj.b.data.toList = l := by simpa using h9
                    exact absurd (WideShapes.bytes_inj (by rw [this, Hl.out])) hE
                have hE2 : (kj.b.toList == kb.toList) = false := by
                  rw [ByteArray.toList_eq, ByteArray.toList_eq]
                  cases h9 : (kj.b.data.toList == kb.data.toList) with
                  | false => rfl
                  | true => exact absurd (WideShapes.bytes_inj (by simpa using h9)) hE
                clear As hkj
                generalize kj.b = jb at *
                go_wp2
                go_quiet (fail)
                go_wp2
                go_round
                case rel => exact ⟨q + 1, r + nq, by omega, by go_num, As', Qr.out _⟩
                case measure => simp [intOf]; omega
        · have hqs' : q < kb.size := by omega
          have hql : q < l.length := by rw [Ll.out]; exact hqs'
          have eb : l[q] = kb[q] := by
            have := Hl.out
            subst this
            rfl
          have TK : Hid (l.take (q + 1) = l.take q ++ [kb[q]]) := by unfold Hid; rw [List.take_succ_eq_append_getElem hql, eb]
          have MB : Hid (kb[q] ∈ l) := by unfold Hid; rw [← eb]; exact List.getElem_mem hql
          have N2 : Hid (Kd.isLetter kb[q] = false → R = 2) := fun h => NB.out (by
            rw [NO.out]
            cases ha : l.all Kd.isLetter with
            | false => rfl
            | true =>
              have := List.all_eq_true.1 ha _ MB.out
              rw [h] at this
              cases this)
          have DS : Hid (Kd.isLetter kb[q] = true → (l.take (q + 1)).all Kd.isLetter = true) := fun h => by rw [TK.out, List.all_append, Hd.out]; simpa using h
          have Db : Hid (Kd.isLetter kb[q] = (decide (97 ≤ kb[q].toNat) && decide (kb[q].toNat ≤ 122))) := rfl
          obtain ⟨b, hb9⟩ : ∃ b, kb[q].toNat = b := ⟨_, rfl⟩
          rw [hb9] at Db
          clear eb hql MB TK
          by_cases p1 : b < 97
          · have E : Hid (R = 2) := N2.out (by rw [Db.out, decide_eq_false (by omega)]; rfl)
            have p1' : (b : Int) < 97 := by omega
            clear N2 Db DS
            go_wp2
            go_ret
            exact ⟨by rw [E.out]; rfl, B1⟩
          · have p1' : ¬ (b : Int) < 97 := by omega
            by_cases p2 : 122 < b
            · have E : Hid (R = 2) := N2.out (by rw [Db.out, decide_eq_false (show ¬ b ≤ 122 by omega), Bool.and_false])
              have p2' : (122 : Int) < (b : Int) := by omega
              clear N2 Db DS
              go_wp2
              go_ret
              exact ⟨by rw [E.out]; rfl, B1⟩
            · have p2' : ¬ (122 : Int) < (b : Int) := by omega
              have DD : Hid ((l.take (q + 1)).all Kd.isLetter = true) := DS.out (by rw [Db.out, decide_eq_true (by omega), decide_eq_true (by omega)]; rfl)
              clear N2 Db DS
              go_wp2
              go_round
              case rel => exact ⟨q + 1, by omega, by go_num, DD⟩
              case measure => simp [intOf]; omega
end Go.Proofs.YtamgjhehnblbgaaDoor

