/- Fields as texts: plain mathematics. · A fact's kinds, and its small world. Plain mathematics. · Fields: what a sign stands for. · Fields: a field as far as its text is read. · Fields: one byte more. · Fields: Parse. · A region that draws its order, in which one operation (A: what makes memory for an answer) may come at any time beside calls in one order and what reads. · A fact's small world. · What a walk is told of records api.Order that came in. · A region that draws its order, walked along a tree of the orders that may come: reads first, then what makes memory in each order. · TurnRefuses: the fact. · Lists of integers: what marchsame.Ints answers. · What marchsame.Field answers of two fields that are the same. · What marchsame.World answers of two worlds that are the same. · What a walk is told of worlds and bytes that came in. · What a walk is told of kinds that came in. -/
import Derived.Test.YtghkchnfcfnejaaZTurnRefuses1
import Derived.Test.YtghkchnfcfnejaaZTurnRefuses6
import Derived.Test.YtghkchnfcfnejaaZTurnRefuses2
import Derived.Lib.Strings
import Derived.Lib.Bytealg
import Derived.Laws.Pointers
import Derived.Deep.DeepCutAuto
import Derived.Test.YtghkchnfcfnejaaZTurnRefuses4
import Derived.Test.YtghkchnfcfnejaaZTurnRefuses3
import Derived.Deep.SlicePairs
import Derived.ChangeArms
import Derived.ProofKit
import Derived.OpenShut
namespace Go.Proofs.Ytghkchnfcfnejaa.Fd

/-- the sign of a ground. -/
def gsign (g : Int) : UInt8 := if g = 0 then 46 else if g = 1 then 35 else if g = 2 then 126 else 94
/-- the sign of a cell. -/
def sgn (g o : Int) : UInt8 := if o = 0 then gsign g else if o % 10 = 0 ∧ o ≤ 90 then (48 + (o / 10).toNat).toUInt8 else 43
def cellsTo (W : Nat) (gs os : List Int) (r c : Nat) : List UInt8 := (List.range c).map fun j => sgn (gs.getD (r * W + j) 0) (os.getD (r * W + j) 0)
def rowsTo (W : Nat) (gs os : List Int) : Nat → List UInt8
  | 0 => []
  | r + 1 => rowsTo W gs os r ++ (cellsTo W gs os r W ++ [10])
/-- a field as text. -/
def prt (W H : Nat) (gs os : List Int) : List UInt8 := rowsTo W gs os H

theorem cellsTo_succ (W : Nat) (gs os : List Int) (r c : Nat) : cellsTo W gs os r (c + 1) = cellsTo W gs os r c ++ [sgn (gs.getD (r * W + c) 0) (os.getD (r * W + c) 0)] := by
  unfold cellsTo
  rw [List.range_succ, List.map_append]
  rfl
theorem cellsTo_len (W : Nat) (gs os : List Int) (r c : Nat) : (cellsTo W gs os r c).length = c := by
  unfold cellsTo
  simp
theorem rowsTo_len (W : Nat) (gs os : List Int) (r : Nat) : (rowsTo W gs os r).length = r * (W + 1) := by
  induction r with
  | zero => simp [rowsTo]
  | succ r ih =>
    simp only [rowsTo, List.length_append, ih, cellsTo_len, List.length_cons, List.length_nil]
    rw [Nat.add_mul]
    omega

/-- a field as far as its text is read. -/
structure St where
  c : Nat
  W : Nat
  H : Nat
  gs : List Int
  os : List Int
def st0 : St := ⟨0, 0, 0, [], []⟩
/-- what a sign stands for. -/
def meant (b : UInt8) : Option (Int × Int) :=
  if 49 ≤ b.toNat ∧ b.toNat ≤ 57 then some (0, ((b.toNat : Int) - 48) * 10) else if b = 46 then some (0, 0) else if b = 35 then some (1, 0) else if b = 126 then some (2, 0) else if b = 94 then some (3, 0) else none
/-- one byte more. -/
def step (s : St) (b : UInt8) : Int ⊕ St :=
  if b = 10 then (if s.c = 0 ∨ (0 < s.H ∧ s.c ≠ s.W) then .inl 2 else .inr ⟨0, s.c, s.H + 1, s.gs, s.os⟩)
  else match meant b with
    | none => .inl 2
    | some (g, o) => if 0 < s.H ∧ s.c = s.W then .inl 2 else if s.c = 12 ∨ s.H = 12 then .inl 4 else .inr ⟨s.c + 1, s.W, s.H, s.gs ++ [g], s.os ++ [o]⟩
def run : St → Nat → List UInt8 → (Nat × Int) ⊕ St
  | s, _, [] => .inr s
  | s, i, b :: bs => match step s b with
    | .inl e => .inl (i, e)
    | .inr s' => run s' (i + 1) bs
/-- what is wrong, and where; else the field. -/
def parse (l : List UInt8) : (Nat × Int) ⊕ St :=
  match run st0 0 l with
  | .inl x => .inl x
  | .inr s => if 0 < s.c ∨ s.H = 0 then .inl (l.length, 2) else .inr s

theorem run_cons (s : St) (i : Nat) (b : UInt8) (bs : List UInt8) : run s i (b :: bs) = match step s b with | .inl e => .inl (i, e) | .inr s' => run s' (i + 1) bs := rfl
theorem run_append (s : St) (i : Nat) (l m : List UInt8) : run s i (l ++ m) = match run s i l with | .inl x => .inl x | .inr s' => run s' (i + l.length) m := by
  induction l generalizing s i with
  | nil => simp [run]
  | cons b bs ih =>
    rw [List.cons_append, run_cons, run_cons]
    cases step s b with
    | inl e => rfl
    | inr s' =>
      simp only
      rw [ih, List.length_cons, show i + 1 + bs.length = i + (bs.length + 1) by omega]

/-- what may be read. -/
def Tens (g o : Int) : Prop := 0 ≤ g ∧ g ≤ 3 ∧ 0 ≤ o ∧ o ≤ 90 ∧ o % 10 = 0 ∧ (0 < o → g = 0)
theorem meant_sgn {b : UInt8} {g o : Int} (h : meant b = some (g, o)) : sgn g o = b ∧ Tens g o := by
  unfold meant at h
  split at h
  · rename_i hb
    simp only [Option.some.injEq, Prod.mk.injEq] at h
    obtain ⟨rfl, rfl⟩ := h
    have e1 : (((b.toNat : Int) - 48) * 10) / 10 = (b.toNat : Int) - 48 := by omega
    refine ⟨?_, by unfold Tens; omega⟩
    unfold sgn
    rw [if_neg (by omega), if_pos (by omega), e1, show 48 + ((b.toNat : Int) - 48).toNat = b.toNat by omega]
    exact UInt8.ofNat_toNat
  · split at h
    · rename_i hb
      simp only [Option.some.injEq, Prod.mk.injEq] at h
      obtain ⟨rfl, rfl⟩ := h
      exact ⟨by rw [hb]; rfl, by unfold Tens; omega⟩
    · split at h
      · rename_i hb
        simp only [Option.some.injEq, Prod.mk.injEq] at h
        obtain ⟨rfl, rfl⟩ := h
        exact ⟨by rw [hb]; rfl, by unfold Tens; omega⟩
      · split at h
        · rename_i hb
          simp only [Option.some.injEq, Prod.mk.injEq] at h
          obtain ⟨rfl, rfl⟩ := h
          exact ⟨by rw [hb]; rfl, by unfold Tens; omega⟩
        · split at h
          · rename_i hb
            simp only [Option.some.injEq, Prod.mk.injEq] at h
            obtain ⟨rfl, rfl⟩ := h
            exact ⟨by rw [hb]; rfl, by unfold Tens; omega⟩
          · cases h
theorem sgn_meant {g o : Int} (h : Tens g o) : meant (sgn g o) = some (g, o) ∧ sgn g o ≠ 10 := by
  obtain ⟨h1, h2, h3, h4, h5, h6⟩ := h
  by_cases h0 : o = 0
  · subst h0
    have hg : g = 0 ∨ g = 1 ∨ g = 2 ∨ g = 3 := by omega
    rcases hg with rfl | rfl | rfl | rfl
    all_goals exact ⟨by decide, by decide⟩
  · obtain rfl := h6 (by omega)
    have ho : o = 10 ∨ o = 20 ∨ o = 30 ∨ o = 40 ∨ o = 50 ∨ o = 60 ∨ o = 70 ∨ o = 80 ∨ o = 90 := by omega
    rcases ho with rfl | rfl | rfl | rfl | rfl | rfl | rfl | rfl | rfl
    all_goals exact ⟨by decide, by decide⟩

theorem getD_snoc_lt {l : List Int} {x : Int} {i : Nat} (h : i < l.length) : (l ++ [x]).getD i 0 = l.getD i 0 := by
  rw [List.getD_eq_getElem?_getD, List.getD_eq_getElem?_getD, List.getElem?_append_left h]
theorem getD_snoc_len {l : List Int} {x : Int} {i : Nat} (h : i = l.length) : (l ++ [x]).getD i 0 = x := by
  subst h
  rw [List.getD_eq_getElem?_getD, List.getElem?_append_right (Nat.le_refl _)]
  simp
theorem cellsTo_snoc {W : Nat} {gs os : List Int} {g o : Int} {r c : Nat} (h1 : r * W + c ≤ gs.length) (h2 : r * W + c ≤ os.length) : cellsTo W (gs ++ [g]) (os ++ [o]) r c = cellsTo W gs os r c := by
  induction c with
  | zero => rfl
  | succ c ih =>
    rw [cellsTo_succ, cellsTo_succ, ih (by omega) (by omega), getD_snoc_lt (by omega), getD_snoc_lt (by omega)]
theorem rowsTo_snoc {W : Nat} {gs os : List Int} {g o : Int} {r : Nat} (h1 : r * W ≤ gs.length) (h2 : r * W ≤ os.length) : rowsTo W (gs ++ [g]) (os ++ [o]) r = rowsTo W gs os r := by
  induction r with
  | zero => rfl
  | succ r ih =>
    rw [Nat.add_mul] at h1 h2
    simp only [rowsTo]
    rw [ih (by omega) (by omega), cellsTo_snoc (by omega) (by omega)]
theorem cellsTo_row0 (W V : Nat) (gs os : List Int) (c : Nat) : cellsTo W gs os 0 c = cellsTo V gs os 0 c := by
  unfold cellsTo
  simp

/-- what holds of a field as far as its text l is read. -/
structure Inv (s : St) (l : List UInt8) : Prop where
  w0 : s.H = 0 → s.W = 0
  wp : 0 < s.H → 0 < s.W
  cw : 0 < s.H → s.c ≤ s.W
  c12 : s.c ≤ 12
  w12 : s.W ≤ 12
  h12 : s.H ≤ 12
  top : s.H = 12 → s.c = 0
  gl : s.gs.length = s.H * s.W + s.c
  ol : s.os.length = s.H * s.W + s.c
  tens : ∀ (i : Nat) g o, s.gs[i]? = some g → s.os[i]? = some o → Tens g o
  text : l = rowsTo s.W s.gs s.os s.H ++ cellsTo s.W s.gs s.os s.H s.c
theorem inv0 : Inv st0 [] := ⟨fun _ => rfl, fun h => by simp [st0] at h, fun h => by simp [st0] at h, by simp [st0], by simp [st0], by simp [st0], fun h => by simp [st0] at h, rfl, rfl, fun i g o h => by simp [st0] at h, rfl⟩

theorem snoc_get {l : List Int} {x y : Int} {i : Nat} (h : (l ++ [x])[i]? = some y) : (i < l.length ∧ l[i]? = some y) ∨ (i = l.length ∧ y = x) := by
  rcases Nat.lt_or_ge i l.length with h1 | h1
  · left; rw [List.getElem?_append_left h1] at h; exact ⟨h1, h⟩
  · right
    rw [List.getElem?_append_right h1] at h
    have h2 : i - l.length = 0 := by
      rcases Nat.eq_zero_or_pos (i - l.length) with h2 | h2
      · exact h2
      · rw [List.getElem?_eq_none (by simp; omega)] at h; cases h
    rw [h2] at h
    simp at h
    exact ⟨by omega, h.symm⟩

theorem Inv.step {s s' : St} {l : List UInt8} {b : UInt8} (h : Inv s l) (hs : step s b = .inr s') : Inv s' (l ++ [b]) := by
  unfold Fd.step at hs
  split at hs
  · rename_i hb
    subst hb
    split at hs
    · cases hs
    · rename_i hc
      injection hs with hs
      subst hs
      have hc0 : 0 < s.c := by omega
      have hcw : 0 < s.H → s.c = s.W := by omega
      have hh : s.H ≠ 12 := fun e => by have := h.top e; omega
      have h12 := h.h12; have c12 := h.c12
      have el : s.H * s.W + s.c = (s.H + 1) * s.c := by
        rcases Nat.eq_zero_or_pos s.H with e | e
        · rw [e]; simp
        · rw [← hcw e, Nat.add_mul, Nat.one_mul]
      refine ⟨by simp, by simp; exact hc0, by simp, by simp, c12, by show s.H + 1 ≤ 12; omega, by simp, ?_, ?_, h.tens, ?_⟩
      · show s.gs.length = (s.H + 1) * s.c + 0; rw [h.gl, el]; rfl
      · show s.os.length = (s.H + 1) * s.c + 0; rw [h.ol, el]; rfl
      · show l ++ [10] = rowsTo s.c s.gs s.os (s.H + 1) ++ cellsTo s.c s.gs s.os (s.H + 1) 0
        rw [h.text]
        simp only [rowsTo]
        rcases Nat.eq_zero_or_pos s.H with e | e
        · rw [e, cellsTo_row0 s.W s.c]
          simp [rowsTo, cellsTo]
        · rw [← hcw e]
          simp [cellsTo]
  · split at hs
    · cases hs
    · rename_i g o hm
      split at hs
      · cases hs
      · split at hs
        · cases hs
        · rename_i h1 h2
          injection hs with hs
          subst hs
          obtain ⟨e1, e2⟩ := meant_sgn hm
          have cw := h.cw; have c12 := h.c12; have h12 := h.h12
          refine ⟨h.w0, h.wp, fun hp => ?_, ?_, h.w12, h.h12, fun e => ?_, ?_, ?_, ?_, ?_⟩
          · show s.c + 1 ≤ s.W; have := cw hp; have : 0 < s.H := hp; omega
          · show s.c + 1 ≤ 12; omega
          · exfalso; have : s.H = 12 := e; omega
          · show (s.gs ++ [g]).length = s.H * s.W + (s.c + 1); rw [List.length_append, h.gl]; rfl
          · show (s.os ++ [o]).length = s.H * s.W + (s.c + 1); rw [List.length_append, h.ol]; rfl
          · intro i g' o' hg ho
            rcases snoc_get hg with ⟨l1, q1⟩ | ⟨l1, q1⟩
            · rcases snoc_get ho with ⟨l2, q2⟩ | ⟨l2, q2⟩
              · exact h.tens i g' o' q1 q2
              · have := h.gl; have := h.ol; omega
            · rcases snoc_get ho with ⟨l2, q2⟩ | ⟨l2, q2⟩
              · have := h.gl; have := h.ol; omega
              · rw [q1, q2]; exact e2
          · show l ++ [b] = rowsTo s.W (s.gs ++ [g]) (s.os ++ [o]) s.H ++ cellsTo s.W (s.gs ++ [g]) (s.os ++ [o]) s.H (s.c + 1)
            have := h.gl; have := h.ol
            rw [rowsTo_snoc (by omega) (by omega), cellsTo_succ, cellsTo_snoc (by omega) (by omega), getD_snoc_len (by omega), getD_snoc_len (by omega), e1, h.text, List.append_assoc]
theorem Inv.run {s s' : St} {l m : List UInt8} {i : Nat} (h : Inv s l) (hs : run s i m = .inr s') : Inv s' (l ++ m) := by
  induction m generalizing s l i with
  | nil =>
    simp only [Fd.run] at hs
    injection hs with hs
    subst hs
    simpa using h
  | cons b bs ih =>
    rw [run_cons] at hs
    cases hb : Fd.step s b with
    | inl e => rw [hb] at hs; cases hs
    | inr s1 =>
      rw [hb] at hs
      have := ih (h.step hb) hs
      rwa [List.append_assoc] at this

/-- what is read is printed as it was. -/
theorem parse_back {l : List UInt8} {s : St} (h : parse l = .inr s) : Good s.W s.H s.gs s.os ∧ prt s.W s.H s.gs s.os = l ∧ s.c = 0 := by
  unfold parse at h
  cases hr : run st0 0 l with
  | inl x => rw [hr] at h; cases h
  | inr s1 =>
    rw [hr] at h
    simp only at h
    split at h
    · cases h
    · rename_i hc
      injection h with h
      subst h
      have hi := inv0.run hr
      have hc0 : s1.c = 0 := by omega
      have hH : 0 < s1.H := by omega
      have t := hi.text
      have gl := hi.gl; have ol := hi.ol
      rw [hc0] at t gl ol
      refine ⟨⟨hi.wp hH, hi.w12, hH, hi.h12, by rw [gl, Nat.mul_comm]; rfl, by rw [ol, Nat.mul_comm]; rfl, fun i g o h1 h2 => ?_⟩, ?_, hc0⟩
      · obtain ⟨t1, t2, t3, t4, t5, t6⟩ := hi.tens i g o h1 h2
        exact ⟨t1, t2, t3, by omega, t6⟩
      · unfold prt
        simpa [cellsTo] using t.symm

theorem step_sign {s : St} {b : UInt8} {g o : Int} (hb : b ≠ 10) (hm : meant b = some (g, o)) (h1 : ¬ (0 < s.H ∧ s.c = s.W)) (h2 : s.c ≠ 12) (h3 : s.H ≠ 12) : step s b = .inr ⟨s.c + 1, s.W, s.H, s.gs ++ [g], s.os ++ [o]⟩ := by
  unfold step
  rw [if_neg hb, hm]
  simp only
  rw [if_neg h1, if_neg (by omega)]
theorem step_end {s : St} (h1 : s.c ≠ 0) (h2 : 0 < s.H → s.c = s.W) : step s 10 = .inr ⟨0, s.c, s.H + 1, s.gs, s.os⟩ := by
  unfold step
  rw [if_pos rfl, if_neg (by omega)]
theorem take_snoc {l : List Int} {k : Nat} (h : k < l.length) : l.take (k + 1) = l.take k ++ [l.getD k 0] := by
  rw [List.take_succ_eq_append_getElem h, List.getD_eq_getElem?_getD, List.getElem?_eq_getElem h]
  rfl

section
variable {W H : Nat} {gs os : List Int} (G : Good W H gs os) (ht : ∀ o ∈ os, o ≤ 90 ∧ o % 10 = 0)
include G ht
theorem run_cells (r c i : Nat) (hr : r < H) (hc : c ≤ W) :
    run ⟨0, if r = 0 then 0 else W, r, gs.take (r * W), os.take (r * W)⟩ i (cellsTo W gs os r c) = .inr ⟨c, if r = 0 then 0 else W, r, gs.take (r * W + c), os.take (r * W + c)⟩ := by
  induction c with
  | zero => simp [cellsTo, run]
  | succ c ih =>
    have hl : r * W + c < W * H := by
      have := Nat.mul_le_mul_right W (show r + 1 ≤ H by omega)
      rw [Nat.add_mul, Nat.mul_comm H W] at this
      omega
    have hg : r * W + c < gs.length := by rw [G.gl]; exact hl
    have ho : r * W + c < os.length := by rw [G.ol]; exact hl
    have eg : gs[r * W + c]? = some (gs.getD (r * W + c) 0) := by rw [List.getD_eq_getElem?_getD, List.getElem?_eq_getElem hg]; rfl
    have eo : os[r * W + c]? = some (os.getD (r * W + c) 0) := by rw [List.getD_eq_getElem?_getD, List.getElem?_eq_getElem ho]; rfl
    obtain ⟨t1, t2, t3, t4, t5⟩ := G.cell _ _ _ eg eo
    obtain ⟨u1, u2⟩ := ht _ (List.mem_of_getElem? eo)
    obtain ⟨m1, m2⟩ := sgn_meant ⟨t1, t2, t3, u1, u2, t5⟩
    have w2 := G.w2; have h2 := G.h2
    rw [cellsTo_succ, run_append, ih (by omega)]
    simp only
    rw [run_cons, step_sign m2 m1 (by simp only; rintro ⟨q1, q2⟩; rw [if_neg (by omega)] at q2; omega) (by simp only; omega) (by simp only; omega)]
    simp only [run]
    rw [show r * W + (c + 1) = (r * W + c) + 1 by omega, take_snoc hg, take_snoc ho]
theorem run_rows (r i : Nat) (hr : r ≤ H) :
    run st0 i (rowsTo W gs os r) = .inr ⟨0, if r = 0 then 0 else W, r, gs.take (r * W), os.take (r * W)⟩ := by
  induction r with
  | zero => simp [rowsTo, run, st0]
  | succ r ih =>
    have w1 := G.w1
    simp only [rowsTo]
    rw [run_append, ih (by omega)]
    simp only
    rw [run_append, run_cells G ht r W _ (by omega) (Nat.le_refl _)]
    simp only
    rw [run_cons, step_end (by simp only; omega) (by simp only; intro q; rw [if_neg (by omega)])]
    simp only [run]
    rw [if_neg (by omega), Nat.add_mul, Nat.one_mul]
/-- what is printed is read as it was. -/
theorem parse_prt : parse (prt W H gs os) = .inr ⟨0, W, H, gs, os⟩ := by
  have h1 := G.h1
  unfold parse prt
  rw [run_rows G ht H 0 (Nat.le_refl _)]
  simp only
  rw [if_neg (by omega), if_neg (by omega), Nat.mul_comm H W, ← G.gl, List.take_length, G.gl, ← G.ol, List.take_length]
end
end Go.Proofs.Ytghkchnfcfnejaa.Fd

namespace Go.Proofs.Ytghkchnfcfnejaa
set_option linter.unusedVariables false

/-- a fact's kinds. -/
def SK : List KV := [⟨⟨#[98, 97, 115, 101]⟩, 50, 0, 0, 4, 0, 50, 5, 0, false, true⟩, ⟨⟨#[100, 105, 103, 103, 101, 114]⟩, 10, 0, 0, 3, 2, 10, 2, 20, false, false⟩, ⟨⟨#[102, 105, 103, 104, 116, 101, 114]⟩, 20, 4, 1, 4, 2, 20, 3, 0, false, false⟩]
def SG : List Int := [0, 0, 0, 0, 0, 0, 0, 0]
def SO : List Int := [0, 0, 0, 0, 0, 0, 30, 0]
/-- the small world, with none, one, two and three units. -/
def S0 : WV := ⟨0, 1, 4, 2, SG, SO, [100, 100], [], []⟩
def S1 : WV := ⟨0, 2, 4, 2, SG, SO, [100, 100], [⟨1, 0, 0, 0, 50, 0, 0, 0⟩], []⟩
def S2 : WV := ⟨0, 3, 4, 2, SG, SO, [100, 100], [⟨1, 0, 0, 0, 50, 0, 0, 0⟩, ⟨2, 0, 1, 1, 10, 0, 0, 0⟩], []⟩
def S3 : WV := ⟨0, 4, 4, 2, SG, SO, [100, 100], [⟨1, 0, 0, 0, 50, 0, 0, 0⟩, ⟨2, 0, 1, 1, 10, 0, 0, 0⟩, ⟨3, 1, 2, 3, 20, 0, 0, 0⟩], []⟩
theorem sm_parse : Fd.parse [46, 46, 46, 46, 10, 46, 46, 51, 46, 10] = .inr ⟨0, 4, 2, SG, SO⟩ := by rfl
theorem sm_f0 : Wd.newFault SK 4 2 SG SO 2 100 = 0 := by decide +kernel
theorem sm_f1 : Wd.putFault SK S0 0 0 0 = 0 := by decide +kernel
theorem sm_f2 : Wd.putFault SK S1 0 1 1 = 0 := by decide +kernel
theorem sm_f3 : Wd.putFault SK S2 1 2 3 = 0 := by decide +kernel
theorem sm_0 : Wd.begun SK 4 2 SG SO 2 100 = S0 := begun_ok sm_f0
theorem sm_1 : Wd.placed SK S0 0 0 0 = S1 := (placed_ok sm_f1).trans rfl
theorem sm_2 : Wd.placed SK S1 0 1 1 = S2 := (placed_ok sm_f2).trans rfl
theorem sm_3 : Wd.placed SK S2 1 2 3 = S3 := (placed_ok sm_f3).trans rfl
theorem sm_names : ∀ k ∈ SK, k.b.size ≤ 9223372036854775807 := by
  intro k hk
  unfold SK at hk
  rcases List.mem_cons.1 hk with rfl | hk
  · decide
  rcases List.mem_cons.1 hk with rfl | hk
  · decide
  rcases List.mem_cons.1 hk with rfl | hk
  · decide
  · cases hk
end Go.Proofs.Ytghkchnfcfnejaa

namespace Go.Proofs.Ytghkchnfcfnejaa
open Go.RowKit
set_option linter.unusedVariables false

set_option maxRecDepth 100000 in
set_option maxHeartbeats 1000000 in
theorem lite_any (s : ByteArray) (c : Int) (w : World) :
    Calls Try.prog 74 #[.string s, .int .u8 c] w fun e w' => e = .returned (.int .i64 (Lib.indexByte s.data.toList c.toNat.toUInt8)) ∧ w' = w := by
  have hx := run_callFunc_extern (w := w) (args := #[.string s, .int .u8 c]) Try.func80 (by kernel_rfl) (by kernel_rfl) (by kernel_rfl) (e := Extern.BytealgIndexByte.indexByte) (by kernel_rfl)
  go_enter Try.func74, Try.ntmps74
  go_wp2
  rw [Lib.run_indexByteString]
  simp only [Result.andThen]
  rw [Oper.upon_value]
  go_wp2
  go_ret
  exact ⟨rfl, rfl⟩

set_option maxHeartbeats 1000000 in
theorem idx_byte (s : ByteArray) (c : Int) (w : World) :
    Calls Try.prog 61 #[.string s, .int .u8 c] w fun e w' => e = .returned (.int .i64 (Lib.indexByte s.data.toList c.toNat.toUInt8)) ∧ w' = w := by
  have K : Hid (Calls Try.prog 74 #[.string s, .int .u8 c] w fun e w' => e = .returned (.int .i64 (Lib.indexByte s.data.toList c.toNat.toUInt8)) ∧ w' = w) := lite_any s c w
  go_enter Try.func61, Try.ntmps61
  go_wp2_with fail
  refine Calls.mono K.out ?_
  rintro e w' ⟨rfl, rfl⟩
  go_wp2
  go_ret
  exact ⟨rfl, rfl⟩

namespace Fd
/-- the number of a sign's ground; -1: there is none. -/
def gnum (b : UInt8) : Int := if b = 46 then 0 else if b = 35 then 1 else if b = 126 then 2 else if b = 94 then 3 else -1
theorem gnum_meant (b : UInt8) (h : ¬ (49 ≤ b.toNat ∧ b.toNat ≤ 57)) : meant b = if 0 ≤ gnum b then some (gnum b, 0) else none := by
  unfold meant gnum
  rw [if_neg h]
  split
  · rfl
  · split
    · rfl
    · split
      · rfl
      · split
        · rfl
        · rfl
end Fd

theorem idx_sign (b : UInt8) : Lib.indexByte [46, 35, 126, 94] b = Fd.gnum b := by
  unfold Fd.gnum
  by_cases h1 : b = 46
  · subst h1; decide
  · by_cases h2 : b = 35
    · subst h2; decide
    · by_cases h3 : b = 126
      · subst h3; decide
      · by_cases h4 : b = 94
        · subst h4; decide
        · have g1 : ¬ 46 = b := fun h => h1 h.symm
          have g2 : ¬ 35 = b := fun h => h2 h.symm
          have g3 : ¬ 126 = b := fun h => h3 h.symm
          have g4 : ¬ 94 = b := fun h => h4 h.symm
          simp [Lib.indexByte, h1, h2, h3, h4, g1, g2, g3, g4]

set_option maxHeartbeats 1000000 in
theorem meant_any (b : UInt8) (w : World) :
    Calls Try.prog 41 #[.int .u8 (b.toNat : Nat)] w fun e w' => (∃ g o, Fd.meant b = some (g, o) ∧ e = .returned (.tuple #[.int .i64 g, .int .i64 o, .bool true]) ∧ w' = w) ∨ (Fd.meant b = none ∧ e = .returned (.tuple #[.int .i64 (-1), .int .i64 0, .bool false]) ∧ w' = w) := by
  have hb := b.toNat_lt
  by_cases h : 49 ≤ b.toNat ∧ b.toNat ≤ 57
  · have e : Fd.meant b = some (0, ((b.toNat : Int) - 48) * 10) := by unfold Fd.meant; rw [if_pos h]
    have E : Hid _ := e
    obtain ⟨h1, h2⟩ := h
    clear e
    generalize b.toNat = n at *
    have w1 : IntKind.u8.wrap ((n : Int) - 48) = (n : Int) - 48 := by rw [IntKind.wrap_u8]; omega
    go_enter Try.func41, Try.ntmps41
    go_wp2
    go_ret3
    exact .inl ⟨_, _, E.out, rfl, rfl⟩
  · have e := Fd.gnum_meant b h
    have I : Hid (Calls Try.prog 61 #[.string ⟨#[46, 35, 126, 94]⟩, .int .u8 (b.toNat : Nat)] w fun e w' => e = .returned (.int .i64 (Fd.gnum b)) ∧ w' = w) := by
      refine (idx_byte ⟨#[46, 35, 126, 94]⟩ (b.toNat : Nat) w).mono ?_
      rintro e w' ⟨rfl, rfl⟩
      refine ⟨?_, rfl⟩
      have e2 : ((b.toNat : Nat) : Int).toNat.toUInt8 = b := by rw [Int.toNat_natCast]; exact UInt8.ofNat_toNat
      rw [e2]
      rw [← idx_sign b]
    have gl : -1 ≤ Fd.gnum b := by unfold Fd.gnum; split <;> (try split) <;> (try split) <;> (try split) <;> omega
    generalize Fd.gnum b = g at *
    by_cases hg : 0 ≤ g
    · have E : Hid (Fd.meant b = some (g, 0)) := by unfold Hid; rw [e, if_pos hg]
      clear e
      by_cases h1 : 49 ≤ b.toNat
      · have h2 : ¬ b.toNat ≤ 57 := by omega
        clear h
        go_enter Try.func41, Try.ntmps41
        go_wp2_with fail
        refine Calls.mono I.out ?_
        rintro e w' ⟨rfl, rfl⟩
        go_wp2
        go_ret3
        exact .inl ⟨_, _, E.out, rfl, rfl⟩
      · clear h
        go_enter Try.func41, Try.ntmps41
        go_wp2_with fail
        refine Calls.mono I.out ?_
        rintro e w' ⟨rfl, rfl⟩
        go_wp2
        go_ret3
        exact .inl ⟨_, _, E.out, rfl, rfl⟩
    · obtain rfl : g = -1 := by omega
      have E : Hid (Fd.meant b = none) := by unfold Hid; rw [e, if_neg hg]
      clear e gl hg
      by_cases h1 : 49 ≤ b.toNat
      · have h2 : ¬ b.toNat ≤ 57 := by omega
        clear h
        go_enter Try.func41, Try.ntmps41
        go_wp2_with fail
        refine Calls.mono I.out ?_
        rintro e w' ⟨rfl, rfl⟩
        go_wp2
        go_ret3
        exact .inr ⟨E.out, rfl, rfl⟩
      · clear h
        go_enter Try.func41, Try.ntmps41
        go_wp2_with fail
        refine Calls.mono I.out ?_
        rintro e w' ⟨rfl, rfl⟩
        go_wp2
        go_ret3
        exact .inr ⟨E.out, rfl, rfl⟩
end Go.Proofs.Ytghkchnfcfnejaa

namespace Go.Proofs.Ytghkchnfcfnejaa
open Go.RowKit
set_option linter.unusedVariables false

/-- two lists in blocks of their own, which are two. -/
structure Two (w : World) (base : Nat) (u1 u2 : Value) (gs os : List Int) : Prop where
  o1 : Ow w base u1 gs
  o2 : Ow w base u2 os
  ne : ∀ k, u1.ownBlock = some k → u2.ownBlock ≠ some k
theorem Two.below {w w' : World} {base n : Nat} {u1 u2 : Value} {gs os : List Int} (h : Two w base u1 u2 gs os) (hb : Below n w w') (hn : w.heap.size ≤ n) : Two w' base u1 u2 gs os :=
  ⟨h.o1.below (hb.mono hn), h.o2.below (hb.mono hn), h.ne⟩
/-- what stays where one block below the base turns. -/
theorem Two.kp {w w' : World} {base z : Nat} {u1 u2 : Value} {gs os : List Int} (h : Two w base u1 u2 gs os) (hk : Kp z w w') (hz : z < base) : Two w' base u1 u2 gs os := by
  have hg : w.grownBy w' (some z) := ⟨hk.os, hk.tape, hk.output, hk.size, fun k hk' hne => hk.block k hk' (fun e => hne (by rw [e]))⟩
  refine ⟨h.o1.kept hg ?_, h.o2.kept hg ?_, h.ne⟩
  · right; intro e; have := (h.o1.block z e).1; omega
  · right; intro e; have := (h.o2.block z e).1; omega

/-- the block of a draft. -/
def Dt (w : World) (z : Nat) (u1 u2 : Value) (s : Fd.St) : Prop := w.heap[z]? = some (.cells #[.int .i64 (s.W : Nat), .int .i64 (s.H : Nat), u1, u2, .int .i64 (s.c : Nat)] 67 (0, 0))
/-- a draft. -/
def Dr (w : World) (z : Nat) (s : Fd.St) : Prop := ∃ u1 u2, Dt w z u1 u2 s ∧ Two w (z + 1) u1 u2 s.gs s.os

section
variable {w : World} {z : Nat} {u1 u2 : Value} {s : Fd.St}
theorem Dt.c0 (h : Dt w z u1 u2 s) : w.cell? ⟨z, 0, none⟩ = some (.int .i64 (s.W : Nat)) := by unfold Dt at h; simp [World.cell?, h]
theorem Dt.c1 (h : Dt w z u1 u2 s) : w.cell? ⟨z, 1, none⟩ = some (.int .i64 (s.H : Nat)) := by unfold Dt at h; simp [World.cell?, h]
theorem Dt.c2 (h : Dt w z u1 u2 s) : w.cell? ⟨z, 2, none⟩ = some u1 := by unfold Dt at h; simp [World.cell?, h]
theorem Dt.c3 (h : Dt w z u1 u2 s) : w.cell? ⟨z, 3, none⟩ = some u2 := by unfold Dt at h; simp [World.cell?, h]
theorem Dt.c4 (h : Dt w z u1 u2 s) : w.cell? ⟨z, 4, none⟩ = some (.int .i64 (s.c : Nat)) := by unfold Dt at h; simp [World.cell?, h]
theorem Dt.fz (h : Dt w z u1 u2 s) (i : Nat) : w.frozen? ⟨z, i, none⟩ = false := by unfold Dt at h; simp [World.frozen?, h]
theorem Dt.lt (h : Dt w z u1 u2 s) : z < w.heap.size := lt_of_block h
theorem Dt.below {w' : World} {n : Nat} (h : Dt w z u1 u2 s) (hb : Below n w w') (hz : z < n) : Dt w' z u1 u2 s := (hb.block z hz).trans h
end

set_option maxHeartbeats 1000000 in
theorem end_bad (z : Nat) (u1 u2 : Value) (s : Fd.St) (w : World) (h : Dt w z u1 u2 s) (hc : s.c ≤ 12) (hw : s.W ≤ 12) (hb : s.c = 0 ∨ s.c < s.W) :
    Calls Try.prog 40 #[.pointer (some ⟨z, 0, none⟩)] w fun e w' => e = .returned (.iface 69 (.int .i64 2)) ∧ ∃ n, w' = w.drewN n := by
  have c0 := h.c0
  have c4 := h.c4
  obtain ⟨c, W, H, gs, os⟩ := s
  simp only at hc hw hb c0 c4
  clear h
  by_cases q : c = 0
  · subst q
    go_enter Try.func40, Try.ntmps40
    go_wp2_with fail
    go_quiet (fail)
    go_wp2
    go_ret
    exact ⟨rfl, _, rfl⟩
  · have q2 : c < W := by omega
    have q' : ((c : Int) == 0) = false := by rw [beq_eq_false_iff_ne]; omega
    clear hb
    go_enter Try.func40, Try.ntmps40
    go_wp2_with fail
    go_quiet (fail)
    go_wp2
    go_ret
    exact ⟨rfl, _, rfl⟩

set_option maxHeartbeats 1000000 in
theorem end_ok (z : Nat) (u1 u2 : Value) (s : Fd.St) (w : World) (h : Dt w z u1 u2 s) (hc : s.c ≤ 12) (hw : s.W ≤ 12) (hh : s.H ≤ 12) (h0 : s.c ≠ 0) (h1 : ¬ s.c < s.W) :
    Calls Try.prog 40 #[.pointer (some ⟨z, 0, none⟩)] w fun e w' => e = .returned .nilIface ∧ Dt w' z u1 u2 ⟨0, s.c, s.H + 1, s.gs, s.os⟩ ∧ Kp z w w' := by
  have D : Hid (Dt w z u1 u2 s) := h
  have c0 := h.c0
  have c1 := h.c1
  have c4 := h.c4
  have f0 := h.fz 0
  have f1 := h.fz 1
  have f4 := h.fz 4
  obtain ⟨c, W, H, gs, os⟩ := s
  simp only at hc hw hh h0 h1 c0 c1 c4
  have q' : ((c : Int) == 0) = false := by rw [beq_eq_false_iff_ne]; omega
  clear h
  go_enter Try.func40, Try.ntmps40
  go_wp2_with fail
  go_quiet (fail)
  have Dq : Hid (Dt (w.drewN nq) z u1 u2 ⟨c, W, H, gs, os⟩) := D.out
  have Kq : Hid (Kp z w (w.drewN nq)) := (Kp.refl z w).drewN nq
  have c0 : (w.drewN nq).cell? ⟨z, 0, none⟩ = some (.int .i64 (W : Nat)) := Dq.out.c0
  have c1 : (w.drewN nq).cell? ⟨z, 1, none⟩ = some (.int .i64 (H : Nat)) := Dq.out.c1
  have c4 : (w.drewN nq).cell? ⟨z, 4, none⟩ = some (.int .i64 (c : Nat)) := Dq.out.c4
  have f0 := Dq.out.fz 0
  have f1 := Dq.out.fz 1
  have f4 := Dq.out.fz 4
  generalize w.drewN nq = w1 at *
  go_wp2
  go_ret
  refine ⟨rfl, ?_, ?_⟩
  · unfold Dt
    rw [heap_setCell_same _ z 4 _ _ _ (heap_setCell_same _ z 1 _ _ _ (heap_setCell_same w1 z 0 _ _ _ Dq.out))]
    simp
  · exact ((Kq.out.trans (Kp.set _ _ _)).trans (Kp.set _ _ _)).trans (Kp.set _ _ _)
end Go.Proofs.Ytghkchnfcfnejaa

namespace Go.Proofs.Ytghkchnfcfnejaa
open Go.RowKit
set_option linter.unusedVariables false

/-- what holds of every draft. -/
structure Okay (s : Fd.St) : Prop where
  w0 : s.H = 0 → s.W = 0
  cw : 0 < s.H → s.c ≤ s.W
  c12 : s.c ≤ 12
  w12 : s.W ≤ 12
  h12 : s.H ≤ 12
  gl : s.gs.length ≤ 156
  ol : s.os.length ≤ 156
theorem Okay.of {s : Fd.St} {l : List UInt8} (h : Fd.Inv s l) : Okay s := by
  have e : s.H * s.W ≤ 144 := Nat.mul_le_mul h.h12 h.w12
  have := h.c12
  exact ⟨h.w0, h.cw, h.c12, h.w12, h.h12, by rw [h.gl]; omega, by rw [h.ol]; omega⟩

theorem step_ten {s : Fd.St} (h : Okay s) : Fd.step s 10 = if s.c = 0 ∨ s.c < s.W then .inl 2 else .inr ⟨0, s.c, s.H + 1, s.gs, s.os⟩ := by
  unfold Fd.step
  rw [if_pos rfl]
  have := h.w0; have := h.cw
  by_cases q : s.c = 0 ∨ (0 < s.H ∧ s.c ≠ s.W)
  · rw [if_pos q, if_pos (by omega)]
  · rw [if_neg q, if_neg (by omega)]
theorem step_none {s : Fd.St} {b : UInt8} (hb : b ≠ 10) (hm : Fd.meant b = none) : Fd.step s b = .inl 2 := by
  unfold Fd.step
  rw [if_neg hb, hm]
theorem step_some {s : Fd.St} {b : UInt8} {g o : Int} (hb : b ≠ 10) (hm : Fd.meant b = some (g, o)) : Fd.step s b = if 0 < s.H ∧ s.c = s.W then .inl 2 else if s.c = 12 ∨ s.H = 12 then .inl 4 else .inr ⟨s.c + 1, s.W, s.H, s.gs ++ [g], s.os ++ [o]⟩ := by
  unfold Fd.step
  rw [if_neg hb, hm]

set_option maxHeartbeats 1000000 in
theorem read_ten (z : Nat) (s : Fd.St) (w : World) (h : Dr w z s) (ok : Okay s) :
    Calls Try.prog 21 #[.pointer (some ⟨z, 0, none⟩), .int .u8 10] w fun e w' => (∃ f, Fd.step s 10 = .inl f ∧ e = .returned (.iface 69 (.int .i64 f)) ∧ f ≠ 0 ∧ Below z w w') ∨ (∃ s', Fd.step s 10 = .inr s' ∧ e = .returned .nilIface ∧ Dr w' z s' ∧ Below z w w') := by
  obtain ⟨u1, u2, hd, ht⟩ := h
  have S := step_ten ok
  have HS : Hid _ := S
  clear S
  by_cases q : s.c = 0 ∨ s.c < s.W
  · have K : Hid (Calls Try.prog 40 #[.pointer (some ⟨z, 0, none⟩)] w fun e w' => e = .returned (.iface 69 (.int .i64 2)) ∧ ∃ n, w' = w.drewN n) := end_bad z u1 u2 s w hd ok.c12 ok.w12 q
    have Q : Hid (s.c = 0 ∨ s.c < s.W) := q
    clear q hd ht ok
    go_enter Try.func21, Try.ntmps21
    go_wp2_with fail
    refine Calls.mono K.out ?_
    rintro e w1 ⟨rfl, n, rfl⟩
    go_wp2
    go_ret
    exact .inl ⟨2, by rw [HS.out, if_pos Q.out], rfl, by decide, _root_.Go.below_drewN (Below.refl _ _) _⟩
  · have K : Hid (Calls Try.prog 40 #[.pointer (some ⟨z, 0, none⟩)] w fun e w' => e = .returned .nilIface ∧ Dt w' z u1 u2 ⟨0, s.c, s.H + 1, s.gs, s.os⟩ ∧ Kp z w w') := end_ok z u1 u2 s w hd ok.c12 ok.w12 ok.h12 (fun e => q (.inl e)) (fun e => q (.inr e))
    have Q : Hid (¬ (s.c = 0 ∨ s.c < s.W)) := q
    have T : Hid (Two w (z + 1) u1 u2 s.gs s.os) := ht
    have L : Hid (z < w.heap.size) := hd.lt
    clear q hd ht ok
    go_enter Try.func21, Try.ntmps21
    go_wp2_with fail
    refine Calls.mono K.out ?_
    rintro e w1 ⟨rfl, hd1, hk1⟩
    have D1 : Hid (Dt w1 z u1 u2 ⟨0, s.c, s.H + 1, s.gs, s.os⟩) := hd1
    have K1 : Hid (Kp z w w1) := hk1
    clear hd1 hk1
    go_wp2
    go_ret
    refine .inr ⟨_, by rw [HS.out, if_neg Q.out], rfl, ⟨u1, u2, D1.out, T.out.kp K1.out (Nat.lt_succ_self _)⟩, Kp.below (Below.refl _ _) K1.out (Nat.le_of_lt L.out) (Nat.le_refl _)⟩

set_option maxRecDepth 100000 in
set_option maxHeartbeats 4000000 in
theorem read_sign (z : Nat) (s : Fd.St) (b : UInt8) (w : World) (h : Dr w z s) (ok : Okay s) (hb : b ≠ 10) :
    Calls Try.prog 21 #[.pointer (some ⟨z, 0, none⟩), .int .u8 (b.toNat : Nat)] w fun e w' => (∃ f, Fd.step s b = .inl f ∧ e = .returned (.iface 69 (.int .i64 f)) ∧ f ≠ 0 ∧ Below z w w') ∨ (∃ s', Fd.step s b = .inr s' ∧ e = .returned .nilIface ∧ Dr w' z s' ∧ Below z w w') := by
  obtain ⟨u1, u2, hd, ht⟩ := h
  have hb2 := b.toNat_lt
  have hb3 : ¬ ((b.toNat : Nat) : Int) = 10 := by
    intro e
    have e2 : b.toNat = 10 := by omega
    exact hb (UInt8.toNat_inj.1 e2)
  have M : Hid (∀ w, Calls Try.prog 41 #[.int .u8 (b.toNat : Nat)] w fun e w' => (∃ g o, Fd.meant b = some (g, o) ∧ e = .returned (.tuple #[.int .i64 g, .int .i64 o, .bool true]) ∧ w' = w) ∨ (Fd.meant b = none ∧ e = .returned (.tuple #[.int .i64 (-1), .int .i64 0, .bool false]) ∧ w' = w)) := meant_any b
  have HB : Hid (b ≠ 10) := hb
  have D : Hid (Dt w z u1 u2 s) := hd
  have T : Hid (Two w (z + 1) u1 u2 s.gs s.os) := ht
  have K : Hid (Okay s) := ok
  clear hb hd ht ok
  generalize b.toNat = n at *
  go_enter Try.func21, Try.ntmps21
  go_wp2_with fail
  refine (M.out _).mono ?_
  rintro e w1 hm
  rcases hm with ⟨g, o, hm, rfl, rfl⟩ | ⟨hm, rfl, rfl⟩
  · have HS : Hid _ := step_some (s := s) HB.out hm
    have c0 := D.out.c0
    have c1 := D.out.c1
    have c2 := D.out.c2
    have c3 := D.out.c3
    have c4 := D.out.c4
    obtain ⟨c, W, H, gs, os⟩ := s
    simp only at c0 c1 c4
    have k12 := K.out.c12
    have w12 := K.out.w12
    have h12 := K.out.h12
    simp only at k12 w12 h12
    clear hm M
    by_cases q1 : 0 < H ∧ c = W
    · obtain ⟨q1a, q1b⟩ := q1
      have HS' : Hid (Fd.step ⟨c, W, H, gs, os⟩ b = .inl 2) := by unfold Hid; rw [HS.out, if_pos ⟨q1a, q1b⟩]
      subst q1b
      go_wp2_with fail
      go_quiet (fail)
      go_wp2
      go_ret
      exact .inl ⟨2, HS'.out, rfl, by decide, _root_.Go.below_drewN (Below.refl _ _) _⟩
    · have HS1 : Hid (Fd.step ⟨c, W, H, gs, os⟩ b = if c = 12 ∨ H = 12 then .inl 4 else .inr ⟨c + 1, W, H, gs ++ [g], os ++ [o]⟩) := by unfold Hid; rw [HS.out, if_neg q1]
      clear HS
      go_wp2_with fail
      go_cut [39] (fun v W' => v = .bool false ∧ ∃ n, W' = w1.drewN n)
      case first =>
        by_cases q2 : H = 0
        · subst q2
          go_quiet (fail)
          go_wp2_with fail
          go_meet
          case rel => exact ⟨rfl, _, rfl⟩
        · have q3 : 0 < H := by omega
          have q4 : ¬ c = W := fun e => q1 ⟨q3, e⟩
          have q4b : ((c : Int) == (W : Int)) = false := by rw [beq_eq_false_iff_ne]; omega
          clear q1
          go_quiet (fail)
          go_wp2_with fail
          go_meet
          case rel => exact ⟨rfl, _, rfl⟩
      case rest =>
        obtain ⟨rfl, nn, hn⟩ := hcut
        have kb : Below w1.heap.size w1 wc := by rw [hn]; exact _root_.Go.below_drewN (Below.refl _ _) _
        have D2 : Hid (Dt wc z u1 u2 ⟨c, W, H, gs, os⟩) := D.out.below kb D.out.lt
        have T2 : Hid (Two wc (z + 1) u1 u2 gs os) := T.out.below kb (Nat.le_refl _)
        have B2 : Hid (Below z w1 wc) := kb.mono (Nat.le_of_lt D.out.lt)
        clear kb hn c0 c1 c2 c3 c4 q1 D T
        have c0 := D2.out.c0
        have c1 := D2.out.c1
        have c2 := D2.out.c2
        have c3 := D2.out.c3
        have c4 := D2.out.c4
        simp only at c0 c1 c4
        by_cases q5 : c = 12
        · subst q5
          have HS' : Hid (Fd.step ⟨12, W, H, gs, os⟩ b = .inl 4) := by unfold Hid; rw [HS1.out, if_pos (.inl rfl)]
          go_wp2
          go_ret
          exact .inl ⟨4, HS'.out, rfl, by decide, B2.out⟩
        · have q5b : ((c : Int) == 12) = false := by rw [beq_eq_false_iff_ne]; omega
          by_cases q6 : H = 12
          · subst q6
            have HS' : Hid (Fd.step ⟨c, W, 12, gs, os⟩ b = .inl 4) := by unfold Hid; rw [HS1.out, if_pos (.inr rfl)]
            go_wp2
            go_ret
            exact .inl ⟨4, HS'.out, rfl, by decide, B2.out⟩
          · have q6b : ((H : Int) == 12) = false := by rw [beq_eq_false_iff_ne]; omega
            have HS' : Hid (Fd.step ⟨c, W, H, gs, os⟩ b = .inr ⟨c + 1, W, H, gs ++ [g], os ++ [o]⟩) := by unfold Hid; rw [HS1.out, if_neg (by omega)]
            have gl := K.out.gl
            have ol := K.out.ol
            simp only at gl ol
            have L2 : Hid (z < wc.heap.size) := D2.out.lt
            clear HS1
            go_wp2_with (at_builtin; refine app_int _ rfl _ _ rfl (z + 1) _ gs rfl (T2.out.o1.alloc _) ⟨wc.heap.size, 0, none⟩ g rfl (by simp) (by omega) (by have := L2.out; simp; omega) ?_)
            intro g1 cap1 w3 o3 g3 a3 l3
            have hob : ∀ k, u1.ownBlock = some k → z + 1 ≤ k := fun k hk => (T2.out.o1.block k hk).1
            have b3 : Below (z + 1) wc w3 := ((Below.refl _ _).alloc L2.out _).grown g3 (by have := L2.out; simp; omega) hob
            have D3 : Dt w3 z u1 u2 ⟨c, W, H, gs, os⟩ := D2.out.below b3 (Nat.lt_succ_self _)
            have O3 : Ow w3 (z + 1) u2 os := (T2.out.o2.alloc _).kept g3 (by
              cases hq : u2.ownBlock with
              | none => exact .inl rfl
              | some k => exact .inr (fun e => T2.out.ne k e.symm hq))
            have N3 : Hid (∀ k, u2.ownBlock = some k → k ≠ g1) := by
              intro k hk e
              subst e
              rcases a3 with a3 | a3
              · exact T2.out.ne _ a3 hk
              · have := (T2.out.o2.block _ hk).2
                try simp at a3
                omega
            have K3 : Kp z w3 (w3.setCell ⟨z, 2, none⟩ (.slice (some ⟨g1, 0, none⟩) (gs.length + 1) cap1)) := Kp.set _ _ _
            have T3 : Hid (Two (w3.setCell ⟨z, 2, none⟩ (.slice (some ⟨g1, 0, none⟩) (gs.length + 1) cap1)) (z + 1) (.slice (some ⟨g1, 0, none⟩) (gs.length + 1) cap1) u2 (gs ++ [g]) os) :=
              (show Two w3 (z + 1) (.slice (some ⟨g1, 0, none⟩) (gs.length + 1) cap1) u2 (gs ++ [g]) os from ⟨o3, O3, fun k hk e => N3.out k e (Option.some.inj hk).symm⟩).kp K3 (Nat.lt_succ_self _)
            have D4 : Hid (Dt (w3.setCell ⟨z, 2, none⟩ (.slice (some ⟨g1, 0, none⟩) (gs.length + 1) cap1)) z (.slice (some ⟨g1, 0, none⟩) (gs.length + 1) cap1) u2 ⟨c, W, H, gs ++ [g], os⟩) := by
              unfold Hid Dt
              rw [heap_setCell_same w3 z 2 _ _ _ D3]
              simp
            have B4 : Hid (Below z w1 (w3.setCell ⟨z, 2, none⟩ (.slice (some ⟨g1, 0, none⟩) (gs.length + 1) cap1))) := (B2.out.trans (b3.mono (Nat.le_succ _))).setCell (Nat.le_refl _) _
            have e2 := D3.c2
            have e3 := D3.c3
            have f2 := D3.fz 2
            have z3 : Hid (z < w3.heap.size) := D3.lt
            clear o3 g3 a3 l3 hob b3 D3 O3 K3 c0 c1 c2 c3 c4
            go_wp2_with (at_builtin; refine app_int _ rfl _ _ rfl (z + 1) _ os rfl (T3.out.o2.alloc _) ⟨w3.heap.size, 0, none⟩ o rfl (by rw [World.cell?_alloc_at _ _ _ _ (by simp)]; rfl) (by omega) (by have := z3.out; simp; omega) ?_)
            intro g2 cap2 w5 o5 g5 a5 l5
            have hob : ∀ k, u2.ownBlock = some k → z + 1 ≤ k := fun k hk => (T3.out.o2.block k hk).1
            have b5 : Below (z + 1) (w3.setCell ⟨z, 2, none⟩ (Value.slice (some ⟨g1, 0, none⟩) (gs.length + 1) cap1)) w5 := ((Below.refl _ _).alloc (by have := z3.out; simp; omega) _).grown g5 (by have := z3.out; simp; omega) hob
            have D5 : Dt w5 z (Value.slice (some ⟨g1, 0, none⟩) (gs.length + 1) cap1) u2 ⟨c, W, H, gs ++ [g], os⟩ := D4.out.below b5 (Nat.lt_succ_self _)
            have O5 : Ow w5 (z + 1) (Value.slice (some ⟨g1, 0, none⟩) (gs.length + 1) cap1) (gs ++ [g]) := (T3.out.o1.alloc _).kept g5 (by
              cases hq : (Value.slice (some ⟨g1, 0, none⟩) (gs.length + 1) cap1).ownBlock with
              | none => exact .inl rfl
              | some k => exact .inr (fun e => T3.out.ne k hq e.symm))
            have N5 : Hid (∀ k, (Value.slice (some ⟨g1, 0, none⟩) (gs.length + 1) cap1).ownBlock = some k → k ≠ g2) := by
              intro k hk e
              subst e
              rcases a5 with a5 | a5
              · exact T3.out.ne _ hk a5
              · have := (T3.out.o1.block _ hk).2
                simp at this
                try simp at a5
                omega
            have K5 : Kp z w5 (w5.setCell ⟨z, 3, none⟩ (.slice (some ⟨g2, 0, none⟩) (os.length + 1) cap2)) := Kp.set _ _ _
            have T5 : Hid (Two (w5.setCell ⟨z, 3, none⟩ (.slice (some ⟨g2, 0, none⟩) (os.length + 1) cap2)) (z + 1) (Value.slice (some ⟨g1, 0, none⟩) (gs.length + 1) cap1) (.slice (some ⟨g2, 0, none⟩) (os.length + 1) cap2) (gs ++ [g]) (os ++ [o])) :=
              (show Two w5 (z + 1) (Value.slice (some ⟨g1, 0, none⟩) (gs.length + 1) cap1) (.slice (some ⟨g2, 0, none⟩) (os.length + 1) cap2) (gs ++ [g]) (os ++ [o]) from ⟨O5, o5, fun k hk e => N5.out k hk (Option.some.inj e).symm⟩).kp K5 (Nat.lt_succ_self _)
            have D6 : Hid (Dt (w5.setCell ⟨z, 3, none⟩ (.slice (some ⟨g2, 0, none⟩) (os.length + 1) cap2)) z (Value.slice (some ⟨g1, 0, none⟩) (gs.length + 1) cap1) (.slice (some ⟨g2, 0, none⟩) (os.length + 1) cap2) ⟨c, W, H, gs ++ [g], os ++ [o]⟩) := by
              unfold Hid Dt
              rw [heap_setCell_same w5 z 3 _ _ _ D5]
              simp
            have B6 : Hid (Below z w1 (w5.setCell ⟨z, 3, none⟩ (.slice (some ⟨g2, 0, none⟩) (os.length + 1) cap2))) := (B4.out.trans (b5.mono (Nat.le_succ _))).setCell (Nat.le_refl _) _
            have e4 : w5.cell? ⟨z, 3, none⟩ = some u2 := D5.c3
            have e5 : w5.cell? ⟨z, 4, none⟩ = some (.int .i64 (c : Nat)) := D5.c4
            have f3 := D5.fz 3
            have f4 := D5.fz 4
            clear o5 g5 a5 l5 hob b5 D5 O5 K5 e2 e3 f2
            go_wp2
            go_ret
            refine .inr ⟨_, HS'.out, rfl, ⟨(Value.slice (some ⟨g1, 0, none⟩) (gs.length + 1) cap1), (Value.slice (some ⟨g2, 0, none⟩) (os.length + 1) cap2), ?_, T5.out.kp (Kp.set _ _ _) (Nat.lt_succ_self _)⟩, B6.out.setCell (Nat.le_refl _) _⟩
            unfold Dt
            rw [heap_setCell_same _ z 4 _ _ _ D6.out]
            simp
  · have HS : Hid (Fd.step s b = .inl 2) := step_none HB.out hm
    go_wp2_with fail
    go_quiet (fail)
    go_wp2
    go_ret
    exact .inl ⟨2, HS.out, rfl, by decide, _root_.Go.below_drewN (Below.refl _ _) _⟩
end Go.Proofs.Ytghkchnfcfnejaa

namespace Go.Proofs.Ytghkchnfcfnejaa
open Go.RowKit
set_option linter.unusedVariables false

theorem read_any (z : Nat) (s : Fd.St) (b : UInt8) (w : World) (h : Dr w z s) (ok : Okay s) :
    Calls Try.prog 21 #[.pointer (some ⟨z, 0, none⟩), .int .u8 (b.toNat : Nat)] w fun e w' => (∃ f, Fd.step s b = .inl f ∧ e = .returned (.iface 69 (.int .i64 f)) ∧ f ≠ 0 ∧ Below z w w') ∨ (∃ s', Fd.step s b = .inr s' ∧ e = .returned .nilIface ∧ Dr w' z s' ∧ Below z w w') := by
  by_cases hb : b = 10
  · subst hb
    exact read_ten z s w h ok
  · exact read_sign z s b w h ok hb

theorem run_at {l : List UInt8} {k : Nat} (st : Fd.St) (h : k < l.length) : Fd.run st k (l.drop k) = match Fd.step st l[k] with | .inl e => .inl (k, e) | .inr s' => Fd.run s' (k + 1) (l.drop (k + 1)) := by
  rw [List.drop_eq_getElem_cons h]
  rfl

/-- what Parse says of a text. -/
def Says (l : List UInt8) (e : Ending) (w' : World) : Prop :=
  (∃ (i : Nat) (f : Int), Fd.parse l = .inl (i, f) ∧ e = .returned (.tuple #[.agg #[.int .i64 0, .int .i64 0, .slice none 0 0, .slice none 0 0], .int .i64 (i : Nat), .iface 69 (.int .i64 f)]) ∧ f ≠ 0) ∨
  (∃ st u1 u2, Fd.parse l = .inr st ∧ e = .returned (.tuple #[.agg #[.int .i64 (st.W : Nat), .int .i64 (st.H : Nat), u1, u2], .int .i64 0, .nilIface]) ∧ Ro w' u1 st.gs ∧ Ro w' u2 st.os)

/-- and that the lists are new. -/
def SaysOwn (b : Nat) (l : List UInt8) (e : Ending) (w' : World) : Prop :=
  (∃ (i : Nat) (f : Int), Fd.parse l = .inl (i, f) ∧ e = .returned (.tuple #[.agg #[.int .i64 0, .int .i64 0, .slice none 0 0, .slice none 0 0], .int .i64 (i : Nat), .iface 69 (.int .i64 f)]) ∧ f ≠ 0) ∨
  (∃ st u1 u2, Fd.parse l = .inr st ∧ e = .returned (.tuple #[.agg #[.int .i64 (st.W : Nat), .int .i64 (st.H : Nat), u1, u2], .int .i64 0, .nilIface]) ∧ Two w' (b + 1 + 1) u1 u2 st.gs st.os)

set_option maxRecDepth 100000 in
set_option maxHeartbeats 4000000 in
theorem parse_own (s : ByteArray) (w : World) (hs : s.size ≤ maxLen) :
    Calls Try.prog 9 #[.string s] w fun e w' => SaysOwn w.heap.size s.data.toList e w' ∧ Below w.heap.size w w' := by
  unfold maxLen at hs
  generalize hl : s.data.toList = l
  have Hl : Hid (s.data.toList = l) := hl
  have Ll : Hid (l.length = s.size) := by unfold Hid; rw [← hl]; rfl
  clear hl
  have P : Hid (Fd.parse l = match Fd.run Fd.st0 0 l with | .inl x => .inl x | .inr s => if 0 < s.c ∨ s.H = 0 then .inl (l.length, 2) else .inr s) := rfl
  go_enter Try.func9, Try.ntmps9
  go_wp2_with fail
  have B0 : Hid (Below w.heap.size w ((w.alloc (Obj.cells #[.int .i64 0, .int .i64 0, .slice none 0 0, .slice none 0 0] 25)).alloc (Obj.cells #[.int .i64 0, .int .i64 0, .slice none 0 0, .slice none 0 0, .int .i64 0] 67))) := ((Below.refl _ _).alloc (Nat.le_refl _) _).alloc (by simp) _
  have D0 : Hid (Dr ((w.alloc (Obj.cells #[.int .i64 0, .int .i64 0, .slice none 0 0, .slice none 0 0] 25)).alloc (Obj.cells #[.int .i64 0, .int .i64 0, .slice none 0 0, .slice none 0 0, .int .i64 0] 67)) (w.heap.size + 1) Fd.st0) := by
    refine ⟨.slice none 0 0, .slice none 0 0, ?_, ⟨Ow.nil _ _, Ow.nil _ _, fun k h => by cases h⟩⟩
    have e : (w.alloc (Obj.cells #[.int .i64 0, .int .i64 0, .slice none 0 0, .slice none 0 0] 25)).heap.size = w.heap.size + 1 := by simp
    unfold Dt
    rw [← e]
    exact heap_alloc_new _ _
  have X0 : Hid (Bf ((w.alloc (Obj.cells #[.int .i64 0, .int .i64 0, .slice none 0 0, .slice none 0 0] 25)).alloc (Obj.cells #[.int .i64 0, .int .i64 0, .slice none 0 0, .slice none 0 0, .int .i64 0] 67)) w.heap.size 0 0 (.slice none 0 0) (.slice none 0 0)) :=
    (Bf.mk' (w := w) 0 0 (.slice none 0 0) (.slice none 0 0) rfl).below ((Below.refl _ _).alloc (Nat.le_refl _) _) (by simp)
  have Z0 : Hid (∀ i, ((w.alloc (Obj.cells #[.int .i64 0, .int .i64 0, .slice none 0 0, .slice none 0 0] 25)).alloc (Obj.cells #[.int .i64 0, .int .i64 0, .slice none 0 0, .slice none 0 0, .int .i64 0] 67)).frozen? ⟨w.heap.size, i, none⟩ = false) := by
    intro i
    rw [((Below.refl _ (w.alloc (Obj.cells #[.int .i64 0, .int .i64 0, .slice none 0 0, .slice none 0 0] 25))).alloc (Nat.le_refl _) _).frozen (p := ⟨w.heap.size, i, none⟩) (by simp)]
    simp
  generalize (w.alloc (Obj.cells #[.int .i64 0, .int .i64 0, .slice none 0 0, .slice none 0 0] 25)).alloc (Obj.cells #[.int .i64 0, .int .i64 0, .slice none 0 0, .slice none 0 0, .int .i64 0] 67) = w0 at *
  go_loopw [10] (fun i W' => ∃ (k : Nat) (st : Fd.St), k ≤ s.size ∧ i = .int .i64 (k : Nat) ∧ Dr W' (w.heap.size + 1) st ∧ Fd.Inv st (l.take k) ∧ Fd.run st k (l.drop k) = Fd.run Fd.st0 0 l ∧ Below (w.heap.size + 1) w0 W') (fun i _ => s.size - (intOf i).toNat)
  case atStart => exact ⟨0, Fd.st0, Nat.zero_le _, rfl, D0, by simpa using Fd.inv0, by simp, Below.refl _ _⟩
  case round =>
    obtain ⟨k, st, hk, rfl, hd, hi, hrun, hb⟩ := hrel
    have D : Hid (Dr wr (w.heap.size + 1) st) := hd
    have I : Hid (Fd.Inv st (l.take k)) := hi
    have R : Hid (Fd.run st k (l.drop k) = Fd.run Fd.st0 0 l) := hrun
    have B : Hid (Below (w.heap.size + 1) w0 wr) := hb
    have X : Hid (Bf wr w.heap.size 0 0 (.slice none 0 0) (.slice none 0 0)) := X0.out.below hb (Nat.lt_succ_self _)
    have Z : Hid (∀ i, wr.frozen? ⟨w.heap.size, i, none⟩ = false) := fun i => by rw [hb.frozen (p := ⟨w.heap.size, i, none⟩) (Nat.lt_succ_self _)]; exact Z0.out i
    have BW : Hid (Below w.heap.size w wr) := B0.out.trans (hb.mono (Nat.le_succ _))
    clear hd hi hrun hb D0
    by_cases h0 : k = s.size
    · subst h0
      have R2 : Hid (Fd.run Fd.st0 0 l = .inr st) := by
        unfold Hid
        rw [← R.out, List.drop_of_length_le (by rw [Ll.out]; exact Nat.le_refl _)]
        rfl
      obtain ⟨u1, u2, hd, ht⟩ := D.out
      have T : Hid (Two wr (w.heap.size + 1 + 1) u1 u2 st.gs st.os) := ht
      have c0 := hd.c0
      have c1 := hd.c1
      have c2 := hd.c2
      have c3 := hd.c3
      have c4 := hd.c4
      obtain ⟨x0, x1, x2, x3⟩ := X.out
      have z0 := Z.out 0
      have z1 := Z.out 1
      have z2 := Z.out 2
      have z3 := Z.out 3
      have k12 := I.out.c12
      have h12 := I.out.h12
      have w12 := I.out.w12
      obtain ⟨c, W, H, gs, os⟩ := st
      simp only at c0 c1 c4 k12 h12 w12
      have P2 : Hid (Fd.parse l = if 0 < c ∨ H = 0 then .inl (l.length, 2) else .inr ⟨c, W, H, gs, os⟩) := by
        unfold Hid
        rw [P.out, R2.out]
      clear hd ht
      by_cases q1 : 0 < c
      · go_wp2
        refine bodyPost_ret (v := .tuple #[.agg #[.int .i64 0, .int .i64 0, .slice none 0 0, .slice none 0 0], .int .i64 (s.size : Nat), .iface 69 (.int .i64 2)]) (by simp [results, Try.results9, go_sem, x0, x1, x2, x3]) rfl ⟨.inl ⟨s.size, 2, by rw [P2.out, if_pos (.inl q1), Ll.out], rfl, by decide⟩, ?_⟩
        exact (((BW.out.setCell (Nat.le_refl _) _).setCell (Nat.le_refl _) _).setCell (Nat.le_refl _) _).setCell (Nat.le_refl _) _
      · obtain rfl : c = 0 := by omega
        by_cases q2 : H = 0
        · subst q2
          go_wp2
          refine bodyPost_ret (v := .tuple #[.agg #[.int .i64 0, .int .i64 0, .slice none 0 0, .slice none 0 0], .int .i64 (s.size : Nat), .iface 69 (.int .i64 2)]) (by simp [results, Try.results9, go_sem, x0, x1, x2, x3]) rfl ⟨.inl ⟨s.size, 2, by rw [P2.out, Ll.out]; simp, rfl, by decide⟩, ?_⟩
          exact (((BW.out.setCell (Nat.le_refl _) _).setCell (Nat.le_refl _) _).setCell (Nat.le_refl _) _).setCell (Nat.le_refl _) _
        · have q2b : ((H : Int) == 0) = false := by rw [beq_eq_false_iff_ne]; omega
          obtain ⟨p1, k1, rfl⟩ := T.out.o1.len
          obtain ⟨p2, k2, rfl⟩ := T.out.o2.len
          have KK : Hid (Kp w.heap.size wr ((((wr.setCell ⟨w.heap.size, 0, none⟩ (.int .i64 (W : Nat))).setCell ⟨w.heap.size, 1, none⟩ (.int .i64 (H : Nat))).setCell ⟨w.heap.size, 2, none⟩ (.slice p1 gs.length k1)).setCell ⟨w.heap.size, 3, none⟩ (.slice p2 os.length k2))) := (((Kp.set _ _ _).trans (Kp.set _ _ _)).trans (Kp.set _ _ _)).trans (Kp.set _ _ _)
          go_wp2
          refine bodyPost_ret (v := .tuple #[.agg #[.int .i64 (W : Nat), .int .i64 (H : Nat), .slice p1 gs.length k1, .slice p2 os.length k2], .int .i64 0, .nilIface]) (by simp [results, Try.results9, go_sem, x0, x1, x2, x3]) rfl ⟨.inr ⟨_, _, _, by rw [P2.out, if_neg (by omega)], rfl, ?_⟩, ?_⟩
          · exact T.out.kp KK.out (by omega)
          · exact (((BW.out.setCell (Nat.le_refl _) _).setCell (Nat.le_refl _) _).setCell (Nat.le_refl _) _).setCell (Nat.le_refl _) _
    · have hks : k < s.size := by omega
      have hkl : k < l.length := by rw [Ll.out]; exact hks
      have RA := run_at st hkl
      rw [R.out] at RA
      have eb : l[k] = s[k] := by
        have := Hl.out
        subst this
        rfl
      rw [eb] at RA
      have RA' : Hid _ := RA
      have TK : Hid (l.take (k + 1) = l.take k ++ [s[k]]) := by unfold Hid; rw [List.take_succ_eq_append_getElem hkl, eb]
      have KR : Hid (Calls Try.prog 21 #[.pointer (some ⟨w.heap.size + 1, 0, none⟩), .int .u8 (s[k].toNat : Nat)] wr fun e w' => (∃ f, Fd.step st s[k] = .inl f ∧ e = .returned (.iface 69 (.int .i64 f)) ∧ f ≠ 0 ∧ Below (w.heap.size + 1) wr w') ∨ (∃ s', Fd.step st s[k] = .inr s' ∧ e = .returned .nilIface ∧ Dr w' (w.heap.size + 1) s' ∧ Below (w.heap.size + 1) wr w')) := read_any _ st s[k] wr D.out (Okay.of I.out)
      clear RA eb
      go_wp2_with fail
      refine Calls.mono KR.out ?_
      rintro e w1 hm
      rcases hm with ⟨f, hst, rfl, hf, hb⟩ | ⟨st', hst, rfl, hd', hb⟩
      · have P2 : Hid (Fd.parse l = .inl (k, f)) := by
          unfold Hid
          rw [P.out, RA'.out, hst]
        have Hf : Hid (f ≠ 0) := hf
        have B1 : Hid (Below w.heap.size w w1) := BW.out.trans (hb.mono (Nat.le_succ _))
        have X1 : Bf w1 w.heap.size 0 0 (.slice none 0 0) (.slice none 0 0) := X.out.below hb (Nat.lt_succ_self _)
        have z0 : w1.frozen? ⟨w.heap.size, 0, none⟩ = false := by rw [hb.frozen (p := ⟨w.heap.size, 0, none⟩) (Nat.lt_succ_self _)]; exact Z.out 0
        have z1 : w1.frozen? ⟨w.heap.size, 1, none⟩ = false := by rw [hb.frozen (p := ⟨w.heap.size, 1, none⟩) (Nat.lt_succ_self _)]; exact Z.out 1
        have z2 : w1.frozen? ⟨w.heap.size, 2, none⟩ = false := by rw [hb.frozen (p := ⟨w.heap.size, 2, none⟩) (Nat.lt_succ_self _)]; exact Z.out 2
        have z3 : w1.frozen? ⟨w.heap.size, 3, none⟩ = false := by rw [hb.frozen (p := ⟨w.heap.size, 3, none⟩) (Nat.lt_succ_self _)]; exact Z.out 3
        obtain ⟨x0, x1, x2, x3⟩ := X1
        clear hst hf hb KR RA'
        go_wp2
        refine bodyPost_ret (v := .tuple #[.agg #[.int .i64 0, .int .i64 0, .slice none 0 0, .slice none 0 0], .int .i64 (k : Nat), .iface 69 (.int .i64 f)]) (by simp [results, Try.results9, go_sem, x0, x1, x2, x3]) rfl ⟨.inl ⟨k, f, P2.out, rfl, Hf.out⟩, ?_⟩
        exact (((B1.out.setCell (Nat.le_refl _) _).setCell (Nat.le_refl _) _).setCell (Nat.le_refl _) _).setCell (Nat.le_refl _) _
      · have I2 : Hid (Fd.Inv st' (l.take (k + 1))) := by unfold Hid; rw [TK.out]; exact I.out.step hst
        have R2 : Hid (Fd.run st' (k + 1) (l.drop (k + 1)) = Fd.run Fd.st0 0 l) := by unfold Hid; rw [RA'.out, hst]
        have D2 : Hid (Dr w1 (w.heap.size + 1) st') := hd'
        have B2 : Hid (Below (w.heap.size + 1) w0 w1) := B.out.trans hb
        clear hst hd' hb KR RA'
        go_wp2
        go_round
        case rel => exact ⟨k + 1, st', by omega, by go_num, D2, I2, R2, B2⟩
        case measure => simp [intOf]; omega

theorem parse_any (s : ByteArray) (w : World) (hs : s.size ≤ maxLen) :
    Calls Try.prog 9 #[.string s] w fun e w' => Says s.data.toList e w' ∧ Below w.heap.size w w' :=
  (parse_own s w hs).mono fun e w' ⟨h, hb⟩ => ⟨h.imp id fun ⟨st, u1, u2, h1, h2, h3⟩ => ⟨st, u1, u2, h1, h2, h3.o1.ro, h3.o2.ro⟩, hb⟩
end Go.Proofs.Ytghkchnfcfnejaa

namespace Go.Proofs.Ytghkchnfcfnejaa
open Go Go.RowKit
set_option linter.unusedVariables false

section
variable {P : Program} {ops : Array Oper} {md : Region.Mode} {C : World → Prop} {Q : Exit → Act → World → Prop}

/-- the head, A being still to come: ahead of each call it may come; s2 waits for it. -/
def wpHeadA (P : Program) (ops : Array Oper) (C : World → Prop) (K : Act → World → Prop) (A : Nat) (s2 : List (Bool × Nat)) : List (Bool × Nat) → Act → World → Prop
  | [], a, W => ∃ o, ops[A]? = some o ∧ StepS P ops C o (wpHeadT P ops C K s2) a W
  | (true, i) :: r, a, W => ∃ o v, ops[i]? = some o ∧ YieldsS P ops C o v a ∧ wpHeadA P ops C K A s2 r (a.put o.dst v) W
  | (false, i) :: r, a, W => (∃ o, ops[i]? = some o ∧ StepS P ops C o (wpHeadA P ops C K A s2 r) a W) ∧ (∃ o, ops[A]? = some o ∧ StepS P ops C o (wpHeadT P ops C K ((false, i) :: r ++ s2)) a W)
def headAB (md : Region.Mode) (ops : Array Oper) (H0 : Array Bool) (A : Nat) (s2 : List (Bool × Nat)) : List (Bool × Nat) → Array Bool → Bool
  | [], listed => decide (Region.ready md ops listed = [A]) && headB md ops H0 s2 (listed.setIfInBounds A true)
  | (true, i) :: r, listed => (Region.ready md ops listed).contains i && (Region.free md ops listed i && ((waits md ops H0 i || decide (Region.ready md ops (H0.setIfInBounds i false) = [i])) && headAB md ops H0 A s2 r (listed.setIfInBounds i true)))
  | (false, i) :: r, listed => (Region.ready md ops listed).contains i && ((Region.ready md ops listed).all (fun j => decide (j = i) || decide (j = A)) && (headAB md ops H0 A s2 r (listed.setIfInBounds i true) && ((Region.ready md ops listed).contains A && headB md ops H0 ((false, i) :: r ++ s2) (listed.setIfInBounds A true))))
theorem wpAnyT_of_headA {K : Act → World → Prop} {H0 : Array Bool} {A : Nat} {s2 : List (Bool × Nat)} (hsel : Region.noSelect ops = true) : ∀ (s : List (Bool × Nat)) (listed : Array Bool) (a : Act) (W : World), Clos md ops listed → headAB md ops H0 A s2 s listed = true → C W → wpHeadA P ops C K A s2 s a W → wpAnyT P md ops C (fun l a W => l = H0 ∧ K a W) (s.length + s2.length + 1) listed a W
  | [], listed, a, W, inv, hB, hC, h => by
    simp only [headAB, Bool.and_eq_true, decide_eq_true_eq] at hB
    obtain ⟨hr, hH⟩ := hB
    have hr' : A ∈ Region.ready md ops listed := by rw [hr]; simp
    obtain ⟨o, ho, hs⟩ := h
    rw [List.length_nil, Nat.zero_add]
    refine ⟨fun h => (by rw [hr] at h; cases h), fun j hj => ?_⟩
    rw [hr] at hj
    obtain rfl : j = A := by simpa using hj
    exact ⟨o, ho, hs.mono fun a' W' hC' hk => wpAnyT_of_head hsel s2 _ _ _ (inv.set hr') hH hC' hk⟩
  | (true, i) :: r, listed, a, W, inv, hB, hC, h => by
    simp only [headAB, Bool.and_eq_true, Bool.or_eq_true, decide_eq_true_eq] at hB
    obtain ⟨hr, hf, hH, hB⟩ := hB
    obtain ⟨o, v, ho, hy, hk⟩ := h
    have hr' : i ∈ Region.ready md ops listed := by simpa using hr
    rw [show ((true, i) :: r).length + s2.length + 1 = (r.length + s2.length + 1) + 1 by rw [List.length_cons]; omega]
    exact wpAnyT_first ho (Region.noSelect_spec hsel) hH (fun _ _ _ h => h.1) (r.length + s2.length + 1) listed a W inv (Region.free_spec ho hf) hr' hy hC (wpAnyT_of_headA hsel r _ _ _ (inv.set hr') hB hC hk)
  | (false, i) :: r, listed, a, W, inv, hB, hC, h => by
    simp only [headAB, Bool.and_eq_true] at hB
    obtain ⟨hr, hall, hB1, hA, hB2⟩ := hB
    have hr' : i ∈ Region.ready md ops listed := by simpa using hr
    have hA' : A ∈ Region.ready md ops listed := by simpa using hA
    obtain ⟨⟨o, ho, hs⟩, ⟨oA, hoA, hsA⟩⟩ := h
    rw [show ((false, i) :: r).length + s2.length + 1 = (r.length + s2.length + 1) + 1 by rw [List.length_cons]; omega]
    refine ⟨fun h => (by rw [h] at hr'; cases hr'), fun j hj => ?_⟩
    have hj' := List.all_eq_true.1 hall j hj
    simp only [Bool.or_eq_true, decide_eq_true_eq] at hj'
    rcases hj' with rfl | rfl
    · exact ⟨o, ho, hs.mono fun a' W' hC' hk => wpAnyT_of_headA hsel r _ _ _ (inv.set hr') hB1 hC' hk⟩
    · refine ⟨oA, hoA, hsA.mono fun a' W' hC' hk => ?_⟩
      have := wpAnyT_of_head hsel ((false, i) :: r ++ s2) _ _ _ (inv.set hA') hB2 hC' hk
      rw [show ((false, i) :: r ++ s2).length = r.length + s2.length + 1 by simp] at this
      exact this
/-- the region: its head s in the worlds C, A coming at any time; then s2, in the worlds C; its tail t. -/
theorem wp_region_float {id : Nat} {a : Act} {w : World} (A : Nat) (s s2 t : List (Bool × Nat)) (C : World → Prop) (hm : P.follows .mixedOrders = true) (hs : Region.noSelect ops = true) (hl : s.length + s2.length + 1 + t.length = ops.size)
    (hB : headAB .any ops (listedBy ops.size (s ++ [(false, A)] ++ s2)) A s2 s (Array.replicate ops.size false) = true)
    (hT : schedB .any ops t (listedBy ops.size (s ++ [(false, A)] ++ s2)) = true)
    (hC : C { w with drawn := w.drawn + 1 }) (h : wpHeadA P ops C (wpSched P ops (fun _ => True) Q t) A s2 s a { w with drawn := w.drawn + 1 }) : (Code.region id ops true).wp P Q a w := by
  refine wp_region_any hm ?_
  rw [← hl]
  refine wpAny_of_T (g := t.length) (fun listed a W hh => ?_) _ _ _ _ (wpAnyT_of_headA (H0 := listedBy ops.size (s ++ [(false, A)] ++ s2)) hs s _ a _ (fun j oj _ hj => by rw [getD_replicate_false] at hj; cases hj) (by rw [hl]; exact hB) hC h)
  obtain ⟨rfl, hk⟩ := hh
  exact wpAny_of_S _ _ _ _ (wpAnyS_of_sched hs t _ a W hT trivial hk)
theorem headA_read {K : Act → World → Prop} {A i : Nat} {s2 r : List (Bool × Nat)} {o : Oper} {a : Act} {W : World} (ho : ops[i]? = some o) (v : Value) (hw : Region.wanted o (yielded ops a.tmps) = true) (hr : ∀ W, C W → (execOp a.eval o).run P W = .ok (.value v) W) (h : wpHeadA P ops C K A s2 r (a.put o.dst v) W) : wpHeadA P ops C K A s2 ((true, i) :: r) a W :=
  ⟨o, v, ho, ⟨hw, hr⟩, h⟩
theorem headA_call {K : Act → World → Prop} {A i : Nat} {s2 r : List (Bool × Nat)} {o oA : Oper} {a : Act} {W : World} (ho : ops[i]? = some o) (f : FuncId) (args : Array Value) (hw : Region.wanted o (yielded ops a.tmps) = true) (hr : (execOp a.eval o).run P W = .ok (.enter f args) W)
    (hc : Calls P f args W (fun e w' => ∃ v, e = .returned v ∧ C w' ∧ wpHeadA P ops C K A s2 r (a.put o.dst v) w'))
    (hoA : ops[A]? = some oA) (vA : Value) (WA : World) (hwA : Region.wanted oA (yielded ops a.tmps) = true) (hrA : (execOp a.eval oA).run P W = .ok (.value vA) WA) (hCA : C WA) (hA : wpHeadT P ops C K ((false, i) :: r ++ s2) (a.put oA.dst vA) WA) : wpHeadA P ops C K A s2 ((false, i) :: r) a W :=
  ⟨⟨o, ho, hw, .inr (.inr ⟨f, args, hr, hc⟩)⟩, ⟨oA, hoA, hwA, .inl ⟨vA, WA, hrA, hCA, hA⟩⟩⟩
theorem headT_skip {K : Act → World → Prop} {i : Nat} {r : List (Bool × Nat)} {o : Oper} {a : Act} {W : World} (ho : ops[i]? = some o) (W' : World) (hw : Region.wanted o (yielded ops a.tmps) = true) (hr : (execOp a.eval o).run P W = .ok .skip W') (hC : C W') (h : wpHeadT P ops C K r (a.put o.dst undef) W') : wpHeadT P ops C K ((false, i) :: r) a W :=
  ⟨o, ho, hw, .inr (.inl ⟨W', hr, hC, h⟩)⟩
theorem headA_last {K : Act → World → Prop} {A : Nat} {s2 : List (Bool × Nat)} {oA : Oper} {a : Act} {W : World} (hoA : ops[A]? = some oA) (vA : Value) (WA : World) (hwA : Region.wanted oA (yielded ops a.tmps) = true) (hrA : (execOp a.eval oA).run P W = .ok (.value vA) WA) (hCA : C WA) (hA : wpHeadT P ops C K s2 (a.put oA.dst vA) WA) : wpHeadA P ops C K A s2 [] a W :=
  ⟨oA, hoA, hwA, .inl ⟨vA, WA, hrA, hCA, hA⟩⟩
end
end Go.Proofs.Ytghkchnfcfnejaa

namespace Go.Proofs.Ytghkchnfcfnejaa
open Go.RowKit
set_option linter.unusedVariables false

theorem kl_mk {w : World} {z : Nat} (hz : w.heap.size = z) : Kl (w.alloc (.cells #[.string ⟨#[98, 97, 115, 101]⟩, .int .i64 50, .int .i64 0, .int .i64 0, .int .i64 4, .int .i64 0, .int .i64 50, .int .i64 5, .int .i64 0, .bool false, .bool true, .string ⟨#[100, 105, 103, 103, 101, 114]⟩, .int .i64 10, .int .i64 0, .int .i64 0, .int .i64 3, .int .i64 2, .int .i64 10, .int .i64 2, .int .i64 20, .bool false, .bool false, .string ⟨#[102, 105, 103, 104, 116, 101, 114]⟩, .int .i64 20, .int .i64 4, .int .i64 1, .int .i64 4, .int .i64 2, .int .i64 20, .int .i64 3, .int .i64 0, .bool false, .bool false] 53)) (.slice (some ⟨z, 0, none⟩) 3 3) SK := by
  subst hz
  refine ⟨_, 3, rfl, Nat.le_refl _, by omega, fun _ => ⟨_, rfl, by simp, fun i k hi => ?_⟩⟩
  have hl : i < 3 := (List.getElem?_eq_some_iff.1 hi).1
  rw [Addr.add_lit, Nat.zero_add]
  match i, hl, hi with
  | 0, _, hi => injection hi with hi; subst hi; constructor <;> simp
  | 1, _, hi => injection hi with hi; subst hi; constructor <;> simp
  | 2, _, hi => injection hi with hi; subst hi; constructor <;> simp
set_option maxRecDepth 100000 in
set_option maxHeartbeats 2000000 in
theorem sorts_any (w : World) : Calls Try.prog 6 #[] w fun e w' => ∃ u, e = .returned u ∧ Kl w' u SK ∧ Below w.heap.size w w' := by
  have KL : Hid (Kl (w.alloc (.cells #[.string ⟨#[98, 97, 115, 101]⟩, .int .i64 50, .int .i64 0, .int .i64 0, .int .i64 4, .int .i64 0, .int .i64 50, .int .i64 5, .int .i64 0, .bool false, .bool true, .string ⟨#[100, 105, 103, 103, 101, 114]⟩, .int .i64 10, .int .i64 0, .int .i64 0, .int .i64 3, .int .i64 2, .int .i64 10, .int .i64 2, .int .i64 20, .bool false, .bool false, .string ⟨#[102, 105, 103, 104, 116, 101, 114]⟩, .int .i64 20, .int .i64 4, .int .i64 1, .int .i64 4, .int .i64 2, .int .i64 20, .int .i64 3, .int .i64 0, .bool false, .bool false] 53)) (.slice (some ⟨w.heap.size, 0, none⟩) 3 3) SK ∧ Below w.heap.size w (w.alloc (.cells #[.string ⟨#[98, 97, 115, 101]⟩, .int .i64 50, .int .i64 0, .int .i64 0, .int .i64 4, .int .i64 0, .int .i64 50, .int .i64 5, .int .i64 0, .bool false, .bool true, .string ⟨#[100, 105, 103, 103, 101, 114]⟩, .int .i64 10, .int .i64 0, .int .i64 0, .int .i64 3, .int .i64 2, .int .i64 10, .int .i64 2, .int .i64 20, .bool false, .bool false, .string ⟨#[102, 105, 103, 104, 116, 101, 114]⟩, .int .i64 20, .int .i64 4, .int .i64 1, .int .i64 4, .int .i64 2, .int .i64 20, .int .i64 3, .int .i64 0, .bool false, .bool false] 53))) := ⟨kl_mk rfl, (Below.refl _ _).alloc (Nat.le_refl _) _⟩
  go_enter Try.func6, Try.ntmps6
  go_wp2
  go_ret
  exact ⟨_, rfl, KL.out.1, KL.out.2⟩
/-- u does not lie in block z. -/
def Nz (z : Nat) (u : Value) : Prop := ∀ b, u.ownBlock = some b → b ≠ z
/-- how far the small world is: it lies in a block of its own, which v points to. -/
def SmI (w : World) (Y : WV) (v : Value) (V : World) : Prop := ∃ z u1 u2 u3 u4 u5, v = .pointer (some ⟨z, 0, none⟩) ∧ w.heap.size < z ∧ Below w.heap.size w V ∧ Wx V w.heap.size (.int .i64 0) (.int .i64 0) (.int .i64 0) (.int .i64 0) (.slice none 0 0) (.slice none 0 0) (.slice none 0 0) (.slice none 0 0) (.slice none 0 0) ∧ Wx V z (.int .i64 Y.turn) (.int .i64 Y.next) (.int .i64 Y.wide) (.int .i64 Y.high) u1 u2 u3 u4 u5 ∧ (Ow V (w.heap.size + 1) u1 Y.gs ∧ Ow V (w.heap.size + 1) u2 Y.os ∧ Ow V (w.heap.size + 1) u3 Y.gold ∧ Uno V (w.heap.size + 1) u4 Y.us ∧ Jbo V (w.heap.size + 1) u5 Y.qs) ∧ Nz z u1 ∧ Nz z u2 ∧ Nz z u3 ∧ Nz z u4 ∧ Nz z u5
theorem s0_eqs : S0.turn = 0 ∧ S0.next = 1 ∧ S0.wide = 4 ∧ S0.high = 2 ∧ S0.gs.length = 8 ∧ S0.os.length = 8 ∧ S0.gold.length = 2 ∧ S0.us.length = 0 ∧ S0.qs.length = 0 := ⟨rfl, rfl, rfl, rfl, rfl, rfl, rfl, rfl, rfl⟩
theorem s1_eqs : S1.turn = 0 ∧ S1.next = 2 ∧ S1.wide = 4 ∧ S1.high = 2 ∧ S1.gs.length = 8 ∧ S1.os.length = 8 ∧ S1.gold.length = 2 ∧ S1.us.length = 1 ∧ S1.qs.length = 0 := ⟨rfl, rfl, rfl, rfl, rfl, rfl, rfl, rfl, rfl⟩
theorem s2_eqs : S2.turn = 0 ∧ S2.next = 3 ∧ S2.wide = 4 ∧ S2.high = 2 ∧ S2.gs.length = 8 ∧ S2.os.length = 8 ∧ S2.gold.length = 2 ∧ S2.us.length = 2 ∧ S2.qs.length = 0 := ⟨rfl, rfl, rfl, rfl, rfl, rfl, rfl, rfl, rfl⟩
theorem s3_eqs : S3.turn = 0 ∧ S3.next = 4 ∧ S3.wide = 4 ∧ S3.high = 2 ∧ S3.gs.length = 8 ∧ S3.os.length = 8 ∧ S3.gold.length = 2 ∧ S3.us.length = 3 ∧ S3.qs.length = 0 := ⟨rfl, rfl, rfl, rfl, rfl, rfl, rfl, rfl, rfl⟩
theorem er_zero {r : Value} (h : Er r 0) : r = .nilIface := by
  rcases h with ⟨-, h⟩ | ⟨h, -⟩
  · exact h
  · exact absurd rfl h
theorem bx_kp {w w' : World} {y z : Nat} {a b : Int} {u1 u2 : Value} (h : Bx w y a b u1 u2) (k : Kp z w w') (hn : y ≠ z) : Bx w' y a b u1 u2 := by
  have hc : ∀ i, w'.cell? ⟨y, i, none⟩ = w.cell? ⟨y, i, none⟩ := fun i => by
    have := k.block y h.lt hn
    simp only [World.cell?, this]
  exact ⟨by rw [hc]; exact h.c0, by rw [hc]; exact h.c1, by rw [hc]; exact h.c2, by rw [hc]; exact h.c3⟩
theorem owns_nz {z : Nat} {w w' : World} {base : Nat} {T : TypeId} {size : Nat} {u : Value} {n : Nat} {cs : List Value} (h : w.ownsRow base T size u n cs) (k : Kp z w w') (hz : Nz z u) : w'.ownsRow base T size u n cs := by
  refine ⟨h.1, ?_⟩
  rcases h.2 with h1 | ⟨g, cap, cur, h1, h2, h3, h4⟩
  · exact .inl h1
  · exact .inr ⟨g, cap, cur, h1, h2, (k.block g (lt_of_block h3) (hz g (by rw [h1]; rfl))).trans h3, h4⟩
theorem smi_put {w V : World} {z : Nat} {Y : WV} {u1 u2 u3 u4 u5 d0 d1 d2 d3 d4 d5 d6 d7 d8 : Value} (hz : w.heap.size < z) (B : Below w.heap.size w V) (R : Wx V w.heap.size (.int .i64 0) (.int .i64 0) (.int .i64 0) (.int .i64 0) (.slice none 0 0) (.slice none 0 0) (.slice none 0 0) (.slice none 0 0) (.slice none 0 0)) (Z : Wx V z d0 d1 d2 d3 d4 d5 d6 d7 d8)
    (O : Ow V (w.heap.size + 1) u1 Y.gs ∧ Ow V (w.heap.size + 1) u2 Y.os ∧ Ow V (w.heap.size + 1) u3 Y.gold ∧ Uno V (w.heap.size + 1) u4 Y.us ∧ Jbo V (w.heap.size + 1) u5 Y.qs) (N : Nz z u1 ∧ Nz z u2 ∧ Nz z u3 ∧ Nz z u4 ∧ Nz z u5) :
    SmI w Y (.pointer (some ⟨z, 0, none⟩)) (((((((((V.setCell ⟨z, 0, none⟩ (.int .i64 Y.turn)).setCell ⟨z, 1, none⟩ (.int .i64 Y.next)).setCell ⟨z, 2, none⟩ (.int .i64 Y.wide)).setCell ⟨z, 3, none⟩ (.int .i64 Y.high)).setCell ⟨z, 4, none⟩ u1).setCell ⟨z, 5, none⟩ u2).setCell ⟨z, 6, none⟩ u3).setCell ⟨z, 7, none⟩ u4).setCell ⟨z, 8, none⟩ u5) := by
  have K := put_kp V z (.int .i64 Y.turn) (.int .i64 Y.next) (.int .i64 Y.wide) (.int .i64 Y.high) u1 u2 u3 u4 u5
  exact ⟨z, u1, u2, u3, u4, u5, rfl, hz, K.below B B.size (Nat.le_of_lt hz), R.kp K (by omega), Z.put _ _ _ _ _ _ _ _ _, ⟨owns_nz O.1 K N.1, owns_nz O.2.1 K N.2.1, owns_nz O.2.2.1 K N.2.2.1, owns_nz O.2.2.2.1 K N.2.2.2.1, owns_nz O.2.2.2.2 K N.2.2.2.2⟩, N⟩
theorem sl_wo {w : World} {base : Nat} {u : Value} {Y : WV} (h : Wo w base u Y) : ∃ p1 q1 p2 q2 p3 q3 p4 q4 p5 q5, u = .agg #[.int .i64 Y.turn, .int .i64 Y.next, .int .i64 Y.wide, .int .i64 Y.high, .slice p1 Y.gs.length q1, .slice p2 Y.os.length q2, .slice p3 Y.gold.length q3, .slice p4 Y.us.length q4, .slice p5 Y.qs.length q5] := by
  obtain ⟨u1, u2, u3, u4, u5, rfl, h1, h2, h3, h4, h5⟩ := h
  obtain ⟨p1, q1, rfl⟩ := h1.len
  obtain ⟨p2, q2, rfl⟩ := h2.len
  obtain ⟨p3, q3, rfl⟩ := h3.len
  obtain ⟨p4, q4, rfl⟩ := h4.len
  obtain ⟨p5, q5, rfl⟩ := h5.len
  exact ⟨_, _, _, _, _, _, _, _, _, _, rfl⟩
set_option maxRecDepth 100000 in
set_option maxHeartbeats 8000000 in
theorem small_any (w : World) : Calls Try.prog 4 #[] w fun e w' => ∃ u, e = .returned (.tuple #[u, .bool true]) ∧ Wo w' w.heap.size u S3 ∧ Below w.heap.size w w' := by
  go_enter Try.func4, Try.ntmps4
  go_upto_region 1 with fail
  have B0 : Hid (Below w.heap.size w (w.alloc (.cells #[.int .i64 0, .int .i64 0, .int .i64 0, .int .i64 0, .slice none 0 0, .slice none 0 0, .slice none 0 0, .slice none 0 0, .slice none 0 0] 29))) := (Below.refl _ _).alloc (Nat.le_refl _) _
  have R0 : Hid (Wx (w.alloc (.cells #[.int .i64 0, .int .i64 0, .int .i64 0, .int .i64 0, .slice none 0 0, .slice none 0 0, .slice none 0 0, .slice none 0 0, .slice none 0 0] 29)) w.heap.size (.int .i64 0) (.int .i64 0) (.int .i64 0) (.int .i64 0) (.slice none 0 0) (.slice none 0 0) (.slice none 0 0) (.slice none 0 0) (.slice none 0 0)) := Wx.new _ _ _ _ _ _ _ _ _ rfl
  generalize (w.alloc (.cells #[.int .i64 0, .int .i64 0, .int .i64 0, .int .i64 0, .slice none 0 0, .slice none 0 0, .slice none 0 0, .slice none 0 0, .slice none 0 0] 29)) = w0 at *
  go_wp2_with fail
  refine (parse_any ⟨#[46, 46, 46, 46, 10, 46, 46, 51, 46, 10]⟩ w0 (by decide)).mono ?_
  rintro e w1 ⟨hs, hb⟩
  have hp : Fd.parse (⟨#[46, 46, 46, 46, 10, 46, 46, 51, 46, 10]⟩ : ByteArray).data.toList = .inr ⟨0, 4, 2, SG, SO⟩ := sm_parse
  rcases hs with ⟨i, f, h1, -⟩ | ⟨st, u1, u2, h1, h2, r1, r2⟩
  · rw [hp] at h1; cases h1
  rw [hp] at h1
  injection h1 with h1
  subst h1
  subst h2
  have RO : Hid (Ro w1 u1 SG ∧ Ro w1 u2 SO) := ⟨r1, r2⟩
  obtain ⟨p1, q1, rfl, -⟩ := r1
  obtain ⟨p2, q2, rfl, -⟩ := r2
  have B1 : Hid (Below w.heap.size w w1) := B0.out.trans (hb.mono B0.out.size)
  have R1 : Hid (Wx w1 w.heap.size (.int .i64 0) (.int .i64 0) (.int .i64 0) (.int .i64 0) (.slice none 0 0) (.slice none 0 0) (.slice none 0 0) (.slice none 0 0) (.slice none 0 0)) := R0.out.below hb R0.out.lt
  clear hb hp B0 R0
  have l8 : SG.length = 8 := rfl
  have l8' : SO.length = 8 := rfl
  rw [l8, l8'] at *
  clear l8 l8'
  go_upto_region 2 with fail
  have BA : Hid (Below w1.heap.size w1 (w1.alloc (.cells #[.int .i64 4, .int .i64 2, .slice p1 8 q1, .slice p2 8 q2] 25))) := (Below.refl _ _).alloc (Nat.le_refl _) _
  have X2 : Hid (Bx (w1.alloc (.cells #[.int .i64 4, .int .i64 2, .slice p1 8 q1, .slice p2 8 q2] 25)) w1.heap.size 4 2 (.slice p1 8 q1) (.slice p2 8 q2)) := Bx.mk' _ _ _ _ rfl
  have FL : Hid (Fl (w1.alloc (.cells #[.int .i64 4, .int .i64 2, .slice p1 8 q1, .slice p2 8 q2] 25)) (.agg #[.int .i64 4, .int .i64 2, .slice p1 8 q1, .slice p2 8 q2]) 4 2 SG SO) := ⟨_, _, rfl, RO.out.1.below BA.out, RO.out.2.below BA.out⟩
  have R2 : Hid (Wx (w1.alloc (.cells #[.int .i64 4, .int .i64 2, .slice p1 8 q1, .slice p2 8 q2] 25)) w.heap.size (.int .i64 0) (.int .i64 0) (.int .i64 0) (.int .i64 0) (.slice none 0 0) (.slice none 0 0) (.slice none 0 0) (.slice none 0 0) (.slice none 0 0)) := R1.out.below BA.out R1.out.lt
  have B2 : Hid (Below w.heap.size w (w1.alloc (.cells #[.int .i64 4, .int .i64 2, .slice p1 8 q1, .slice p2 8 q2] 25))) := B1.out.trans (BA.out.mono B1.out.size)
  generalize (w1.alloc (.cells #[.int .i64 4, .int .i64 2, .slice p1 8 q1, .slice p2 8 q2] 25)) = w2 at *
  clear BA B1 R1 RO
  have N2 : Hid (w.heap.size < w2.heap.size) := by have := R2.out.lt; exact this
  go_cut [5, 6] (fun v5 v6 V => v6 = .nilIface ∧ SmI w S0 v5 V)
  case first =>
    refine wp_region_float 6 [(true, 1), (false, 0), (false, 2), (true, 3), (true, 4), (true, 5)] [(false, 7)] [(false, 8)] (fun V => Bx V w1.heap.size 4 2 (.slice p1 8 q1) (.slice p2 8 q2)) (by kernel_rfl) (by kernel_rfl) (by kernel_rfl) (by decide +kernel) (by decide +kernel) (X2.out.below (Below.refl _ _).drew X2.out.lt) ?_
    have X3 : Hid (Bx { w2 with drawn := w2.drawn + 1 } w1.heap.size 4 2 (.slice p1 8 q1) (.slice p2 8 q2)) := X2.out.below (Below.refl _ _).drew X2.out.lt
    have F3 : Hid (Fl { w2 with drawn := w2.drawn + 1 } (.agg #[.int .i64 4, .int .i64 2, .slice p1 8 q1, .slice p2 8 q2]) 4 2 SG SO) := FL.out.below (Below.refl _ _).drew
    have R3 : Hid (Wx { w2 with drawn := w2.drawn + 1 } w.heap.size (.int .i64 0) (.int .i64 0) (.int .i64 0) (.int .i64 0) (.slice none 0 0) (.slice none 0 0) (.slice none 0 0) (.slice none 0 0) (.slice none 0 0)) := R2.out
    have B3 : Hid (Below w.heap.size w { w2 with drawn := w2.drawn + 1 }) := B2.out.drew
    generalize ({ w2 with drawn := w2.drawn + 1 } : World) = w3 at *
    clear X2 FL R2 B2
    refine headA_read rfl (.agg #[.int .i64 4, .int .i64 2, .slice p1 8 q1, .slice p2 8 q2]) (by go_simp) (fun V hV => by obtain ⟨f0, f1, f2, f3⟩ := hV; go_simp) ?_
    go_simp
    refine headA_call rfl 6 #[] (by go_simp) (by go_simp) ?_ rfl (.pointer (some ⟨w3.heap.size, 0, none⟩)) (w3.alloc (.cells #[.int .i64 0, .int .i64 0, .int .i64 0, .int .i64 0, .slice none 0 0, .slice none 0 0, .slice none 0 0, .slice none 0 0, .slice none 0 0] 29)) (by go_simp) (by go_simp) (X3.out.below ((Below.refl _ _).alloc (Nat.le_refl _) _) X3.out.lt) ?_
    · refine (sorts_any w3).mono ?_
      rintro e w4 ⟨ku, rfl, hk, hb⟩
      have K4 : Hid (Kl w4 ku SK) := hk
      have X4 : Hid (Bx w4 w1.heap.size 4 2 (.slice p1 8 q1) (.slice p2 8 q2)) := X3.out.below hb X3.out.lt
      have F4 : Hid (Fl w4 (.agg #[.int .i64 4, .int .i64 2, .slice p1 8 q1, .slice p2 8 q2]) 4 2 SG SO) := F3.out.below hb
      have R4 : Hid (Wx w4 w.heap.size (.int .i64 0) (.int .i64 0) (.int .i64 0) (.int .i64 0) (.slice none 0 0) (.slice none 0 0) (.slice none 0 0) (.slice none 0 0) (.slice none 0 0)) := R3.out.below hb R3.out.lt
      have B4 : Hid (Below w.heap.size w w4) := B3.out.trans (hb.mono B3.out.size)
      clear hk hb X3 F3 R3 B3
      refine ⟨_, rfl, X4.out, ?_⟩
      go_simp
      refine headA_call rfl 10 #[ku, .agg #[.int .i64 4, .int .i64 2, .slice p1 8 q1, .slice p2 8 q2], .int .i64 2, .int .i64 100] (by go_simp) (by go_simp) ?_ rfl (.pointer (some ⟨w4.heap.size, 0, none⟩)) (w4.alloc (.cells #[.int .i64 0, .int .i64 0, .int .i64 0, .int .i64 0, .slice none 0 0, .slice none 0 0, .slice none 0 0, .slice none 0 0, .slice none 0 0] 29)) (by go_simp) (by go_simp) (X4.out.below ((Below.refl _ _).alloc (Nat.le_refl _) _) X4.out.lt) ?_
      · refine (new_any ku _ SK 4 2 SG SO 2 100 w4 K4.out sm_names F4.out).mono ?_
        rintro e w5 ⟨u, r, rfl, hr, ho, hb⟩
        rw [sm_f0] at hr
        rw [sm_0] at ho
        obtain rfl := er_zero hr
        have X5 : Hid (Bx w5 w1.heap.size 4 2 (.slice p1 8 q1) (.slice p2 8 q2)) := X4.out.below hb X4.out.lt
        have R5 : Hid (Wx w5 w.heap.size (.int .i64 0) (.int .i64 0) (.int .i64 0) (.int .i64 0) (.slice none 0 0) (.slice none 0 0) (.slice none 0 0) (.slice none 0 0) (.slice none 0 0)) := R4.out.below hb R4.out.lt
        have B5 : Hid (Below w.heap.size w w5) := B4.out.trans (hb.mono B4.out.size)
        obtain ⟨v1, v2, v3, v4, v5, rfl, o1, o2, o3, o4, o5⟩ := ho
        obtain ⟨a1, b1, rfl⟩ := o1.len
        obtain ⟨a2, b2, rfl⟩ := o2.len
        obtain ⟨a3, b3, rfl⟩ := o3.len
        obtain ⟨a4, b4, rfl⟩ := o4.len
        obtain ⟨a5, b5, rfl⟩ := o5.len
        obtain ⟨g1, g2, g3, g4, g5, g6, g7, g8, g9⟩ := s0_eqs
        simp only [g5] at o1
        simp only [g6] at o2
        simp only [g7] at o3
        simp only [g8] at o4
        simp only [g9] at o5
        simp only [g1, g2, g3, g4, g5, g6, g7, g8, g9]
        clear g1 g2 g3 g4 g5 g6 g7 g8 g9
        have O5 : Hid (Ow w5 (w.heap.size + 1) (.slice a1 8 b1) S0.gs ∧ Ow w5 (w.heap.size + 1) (.slice a2 8 b2) S0.os ∧ Ow w5 (w.heap.size + 1) (.slice a3 2 b3) S0.gold ∧ Uno w5 (w.heap.size + 1) (.slice a4 0 b4) S0.us ∧ Jbo w5 (w.heap.size + 1) (.slice a5 0 b5) S0.qs) := ⟨o1.mono R4.out.lt, o2.mono R4.out.lt, o3.mono R4.out.lt, o4.mono R4.out.lt, o5.mono R4.out.lt⟩
        clear hr hb o1 o2 o3 o4 o5 K4 X4 F4 R4 B4
        refine ⟨_, rfl, X5.out, ?_⟩
        go_simp
        refine headA_read rfl (.tuple #[.agg #[.int .i64 0, .int .i64 1, .int .i64 4, .int .i64 2, .slice a1 8 b1, .slice a2 8 b2, .slice a3 2 b3, .slice a4 0 b4, .slice a5 0 b5], .nilIface]) (by go_simp) (fun V hV => by go_simp) ?_
        go_simp
        refine headA_read rfl (.agg #[.int .i64 0, .int .i64 1, .int .i64 4, .int .i64 2, .slice a1 8 b1, .slice a2 8 b2, .slice a3 2 b3, .slice a4 0 b4, .slice a5 0 b5]) (by go_simp) (fun V hV => by go_simp) ?_
        go_simp
        refine headA_read rfl .nilIface (by go_simp) (fun V hV => by go_simp) ?_
        go_simp
        have NZ : Hid (Nz w5.heap.size (.slice a1 8 b1) ∧ Nz w5.heap.size (.slice a2 8 b2) ∧ Nz w5.heap.size (.slice a3 2 b3) ∧ Nz w5.heap.size (.slice a4 0 b4) ∧ Nz w5.heap.size (.slice a5 0 b5)) := ⟨fun b hb => by have := (O5.out.1.block b hb).2; omega, fun b hb => by have := (O5.out.2.1.block b hb).2; omega, fun b hb => by have := (O5.out.2.2.1.block b hb).2; omega, fun b hb => by have := (O5.out.2.2.2.1.block b hb).2; omega, fun b hb => by have := (O5.out.2.2.2.2.block b hb).2; omega⟩
        have BQ : Hid (Below w5.heap.size w5 (w5.alloc (.cells #[.int .i64 0, .int .i64 0, .int .i64 0, .int .i64 0, .slice none 0 0, .slice none 0 0, .slice none 0 0, .slice none 0 0, .slice none 0 0] 29))) := (Below.refl _ _).alloc (Nat.le_refl _) _
        have Z6 : Hid (Wx (w5.alloc (.cells #[.int .i64 0, .int .i64 0, .int .i64 0, .int .i64 0, .slice none 0 0, .slice none 0 0, .slice none 0 0, .slice none 0 0, .slice none 0 0] 29)) w5.heap.size (.int .i64 0) (.int .i64 0) (.int .i64 0) (.int .i64 0) (.slice none 0 0) (.slice none 0 0) (.slice none 0 0) (.slice none 0 0) (.slice none 0 0)) := Wx.new _ _ _ _ _ _ _ _ _ rfl
        refine headA_last rfl (.pointer (some ⟨w5.heap.size, 0, none⟩)) (w5.alloc (.cells #[.int .i64 0, .int .i64 0, .int .i64 0, .int .i64 0, .slice none 0 0, .slice none 0 0, .slice none 0 0, .slice none 0 0, .slice none 0 0] 29)) (by go_simp) (by go_simp) (X5.out.below BQ.out X5.out.lt) ?_
        obtain ⟨z, hz⟩ : ∃ z, w5.heap.size = z := ⟨_, rfl⟩
        have HZ : Hid (w.heap.size < z) := by rw [← hz]; exact R5.out.lt
        rw [hz] at NZ Z6 BQ ⊢
        go_simp
        generalize (w5.alloc (.cells #[.int .i64 0, .int .i64 0, .int .i64 0, .int .i64 0, .slice none 0 0, .slice none 0 0, .slice none 0 0, .slice none 0 0, .slice none 0 0] 29)) = w6 at *
        have X6 : Hid (Bx w6 w1.heap.size 4 2 (.slice p1 8 q1) (.slice p2 8 q2)) := X5.out.below BQ.out (by have := X5.out.lt; omega)
        have R6 : Hid (Wx w6 w.heap.size (.int .i64 0) (.int .i64 0) (.int .i64 0) (.int .i64 0) (.slice none 0 0) (.slice none 0 0) (.slice none 0 0) (.slice none 0 0) (.slice none 0 0)) := R5.out.below BQ.out HZ.out
        have B6 : Hid (Below w.heap.size w w6) := B5.out.trans (BQ.out.mono (by have := HZ.out; omega))
        have O6 : Hid (Ow w6 (w.heap.size + 1) (.slice a1 8 b1) S0.gs ∧ Ow w6 (w.heap.size + 1) (.slice a2 8 b2) S0.os ∧ Ow w6 (w.heap.size + 1) (.slice a3 2 b3) S0.gold ∧ Uno w6 (w.heap.size + 1) (.slice a4 0 b4) S0.us ∧ Jbo w6 (w.heap.size + 1) (.slice a5 0 b5) S0.qs) := ⟨O5.out.1.below (by rw [hz]; exact BQ.out), O5.out.2.1.below (by rw [hz]; exact BQ.out), O5.out.2.2.1.below (by rw [hz]; exact BQ.out), O5.out.2.2.2.1.below (by rw [hz]; exact BQ.out), O5.out.2.2.2.2.below (by rw [hz]; exact BQ.out)⟩
        have XZ : Hid (w1.heap.size ≠ z) := by have := X5.out.lt; unfold Hid; omega
        clear X5 R5 B5 O5 BQ hz
        have KW : Hid (Kp z w6 (((((((((w6.setCell ⟨z, 0, none⟩ (.int .i64 0)).setCell ⟨z, 1, none⟩ (.int .i64 1)).setCell ⟨z, 2, none⟩ (.int .i64 4)).setCell ⟨z, 3, none⟩ (.int .i64 2)).setCell ⟨z, 4, none⟩ (.slice a1 8 b1)).setCell ⟨z, 5, none⟩ (.slice a2 8 b2)).setCell ⟨z, 6, none⟩ (.slice a3 2 b3)).setCell ⟨z, 7, none⟩ (.slice a4 0 b4)).setCell ⟨z, 8, none⟩ (.slice a5 0 b5))) := put_kp _ _ _ _ _ _ _ _ _ _ _
        have FIN : Hid (SmI w S0 (.pointer (some ⟨z, 0, none⟩)) (((((((((w6.setCell ⟨z, 0, none⟩ (.int .i64 0)).setCell ⟨z, 1, none⟩ (.int .i64 1)).setCell ⟨z, 2, none⟩ (.int .i64 4)).setCell ⟨z, 3, none⟩ (.int .i64 2)).setCell ⟨z, 4, none⟩ (.slice a1 8 b1)).setCell ⟨z, 5, none⟩ (.slice a2 8 b2)).setCell ⟨z, 6, none⟩ (.slice a3 2 b3)).setCell ⟨z, 7, none⟩ (.slice a4 0 b4)).setCell ⟨z, 8, none⟩ (.slice a5 0 b5))) := smi_put HZ.out B6.out R6.out Z6.out O6.out NZ.out
        obtain ⟨x0, x1, x2, x3, x4, x5, x6, x7, x8⟩ := Z6.out.cells
        obtain ⟨t0, t1, t2, t3, t4, t5, t6, t7, t8⟩ := Z6.out.thaws
        refine headT_skip rfl (((((((((w6.setCell ⟨z, 0, none⟩ (.int .i64 0)).setCell ⟨z, 1, none⟩ (.int .i64 1)).setCell ⟨z, 2, none⟩ (.int .i64 4)).setCell ⟨z, 3, none⟩ (.int .i64 2)).setCell ⟨z, 4, none⟩ (.slice a1 8 b1)).setCell ⟨z, 5, none⟩ (.slice a2 8 b2)).setCell ⟨z, 6, none⟩ (.slice a3 2 b3)).setCell ⟨z, 7, none⟩ (.slice a4 0 b4)).setCell ⟨z, 8, none⟩ (.slice a5 0 b5)) (by go_simp) (by go_simp) (bx_kp X6.out KW.out XZ.out) ?_
        go_simp
        clear x0 x1 x2 x3 x4 x5 x6 x7 x8 t0 t1 t2 t3 t4 t5 t6 t7 t8
        generalize (((((((((w6.setCell ⟨z, 0, none⟩ (.int .i64 0)).setCell ⟨z, 1, none⟩ (.int .i64 1)).setCell ⟨z, 2, none⟩ (.int .i64 4)).setCell ⟨z, 3, none⟩ (.int .i64 2)).setCell ⟨z, 4, none⟩ (.slice a1 8 b1)).setCell ⟨z, 5, none⟩ (.slice a2 8 b2)).setCell ⟨z, 6, none⟩ (.slice a3 2 b3)).setCell ⟨z, 7, none⟩ (.slice a4 0 b4)).setCell ⟨z, 8, none⟩ (.slice a5 0 b5)) = w7 at *
        unfold wpHeadT
        refine sched_value rfl .nilIface w7 (by go_simp) (by go_simp) trivial ?_
        go_simp
        unfold wpSched
        go_wp2_with fail
        go_meet
        case rel => exact ⟨rfl, FIN.out⟩
      · -- the memory is made behind the kinds
        have BQ : Hid (Below w4.heap.size w4 (w4.alloc (.cells #[.int .i64 0, .int .i64 0, .int .i64 0, .int .i64 0, .slice none 0 0, .slice none 0 0, .slice none 0 0, .slice none 0 0, .slice none 0 0] 29))) := (Below.refl _ _).alloc (Nat.le_refl _) _
        have ZQ : Hid (Wx (w4.alloc (.cells #[.int .i64 0, .int .i64 0, .int .i64 0, .int .i64 0, .slice none 0 0, .slice none 0 0, .slice none 0 0, .slice none 0 0, .slice none 0 0] 29)) w4.heap.size (.int .i64 0) (.int .i64 0) (.int .i64 0) (.int .i64 0) (.slice none 0 0) (.slice none 0 0) (.slice none 0 0) (.slice none 0 0) (.slice none 0 0)) := Wx.new _ _ _ _ _ _ _ _ _ rfl
        obtain ⟨z, hz⟩ : ∃ z, w4.heap.size = z := ⟨_, rfl⟩
        have HZ : Hid (w.heap.size < z) := by rw [← hz]; exact R4.out.lt
        have XZ : Hid (w1.heap.size ≠ z) := by have := X4.out.lt; unfold Hid; omega
        rw [hz] at ZQ ⊢
        go_simp
        generalize (w4.alloc (.cells #[.int .i64 0, .int .i64 0, .int .i64 0, .int .i64 0, .slice none 0 0, .slice none 0 0, .slice none 0 0, .slice none 0 0, .slice none 0 0] 29)) = w4' at *
        have K4' : Hid (Kl w4' ku SK) := K4.out.below BQ.out
        have X4' : Hid (Bx w4' w1.heap.size 4 2 (.slice p1 8 q1) (.slice p2 8 q2)) := X4.out.below BQ.out X4.out.lt
        have F4' : Hid (Fl w4' (.agg #[.int .i64 4, .int .i64 2, .slice p1 8 q1, .slice p2 8 q2]) 4 2 SG SO) := F4.out.below BQ.out
        have R4' : Hid (Wx w4' w.heap.size (.int .i64 0) (.int .i64 0) (.int .i64 0) (.int .i64 0) (.slice none 0 0) (.slice none 0 0) (.slice none 0 0) (.slice none 0 0) (.slice none 0 0)) := R4.out.below BQ.out R4.out.lt
        have B4' : Hid (Below w.heap.size w w4') := B4.out.trans (BQ.out.mono B4.out.size)
        clear K4 X4 F4 R4 B4 BQ hz
        refine headT_call rfl 10 #[ku, .agg #[.int .i64 4, .int .i64 2, .slice p1 8 q1, .slice p2 8 q2], .int .i64 2, .int .i64 100] (by go_simp) (by go_simp) ?_
        refine (new_any ku _ SK 4 2 SG SO 2 100 w4' K4'.out sm_names F4'.out).mono ?_
        rintro e w5 ⟨u, r, rfl, hr, ho, hb⟩
        rw [sm_f0] at hr
        rw [sm_0] at ho
        obtain rfl := er_zero hr
        have X5 : Hid (Bx w5 w1.heap.size 4 2 (.slice p1 8 q1) (.slice p2 8 q2)) := X4'.out.below hb X4'.out.lt
        have R5 : Hid (Wx w5 w.heap.size (.int .i64 0) (.int .i64 0) (.int .i64 0) (.int .i64 0) (.slice none 0 0) (.slice none 0 0) (.slice none 0 0) (.slice none 0 0) (.slice none 0 0)) := R4'.out.below hb R4'.out.lt
        have B5 : Hid (Below w.heap.size w w5) := B4'.out.trans (hb.mono B4'.out.size)
        have Z5 : Hid (Wx w5 z (.int .i64 0) (.int .i64 0) (.int .i64 0) (.int .i64 0) (.slice none 0 0) (.slice none 0 0) (.slice none 0 0) (.slice none 0 0) (.slice none 0 0)) := ZQ.out.below hb ZQ.out.lt
        have ZL : Hid (z < w4'.heap.size) := ZQ.out.lt
        obtain ⟨v1, v2, v3, v4, v5, rfl, o1, o2, o3, o4, o5⟩ := ho
        obtain ⟨a1, b1, rfl⟩ := o1.len
        obtain ⟨a2, b2, rfl⟩ := o2.len
        obtain ⟨a3, b3, rfl⟩ := o3.len
        obtain ⟨a4, b4, rfl⟩ := o4.len
        obtain ⟨a5, b5, rfl⟩ := o5.len
        obtain ⟨g1, g2, g3, g4, g5, g6, g7, g8, g9⟩ := s0_eqs
        simp only [g5] at o1
        simp only [g6] at o2
        simp only [g7] at o3
        simp only [g8] at o4
        simp only [g9] at o5
        simp only [g1, g2, g3, g4, g5, g6, g7, g8, g9]
        clear g1 g2 g3 g4 g5 g6 g7 g8 g9
        have NZ : Hid (Nz z (.slice a1 8 b1) ∧ Nz z (.slice a2 8 b2) ∧ Nz z (.slice a3 2 b3) ∧ Nz z (.slice a4 0 b4) ∧ Nz z (.slice a5 0 b5)) := ⟨fun b hb => by have := (o1.block b hb).1; have := ZL.out; omega, fun b hb => by have := (o2.block b hb).1; have := ZL.out; omega, fun b hb => by have := (o3.block b hb).1; have := ZL.out; omega, fun b hb => by have := (o4.block b hb).1; have := ZL.out; omega, fun b hb => by have := (o5.block b hb).1; have := ZL.out; omega⟩
        have O5 : Hid (Ow w5 (w.heap.size + 1) (.slice a1 8 b1) S0.gs ∧ Ow w5 (w.heap.size + 1) (.slice a2 8 b2) S0.os ∧ Ow w5 (w.heap.size + 1) (.slice a3 2 b3) S0.gold ∧ Uno w5 (w.heap.size + 1) (.slice a4 0 b4) S0.us ∧ Jbo w5 (w.heap.size + 1) (.slice a5 0 b5) S0.qs) := ⟨o1.mono R4'.out.lt, o2.mono R4'.out.lt, o3.mono R4'.out.lt, o4.mono R4'.out.lt, o5.mono R4'.out.lt⟩
        clear hr hb o1 o2 o3 o4 o5 K4' X4' F4' R4' B4' ZQ ZL
        refine ⟨_, rfl, X5.out, ?_⟩
        go_simp
        refine headT_read rfl (.tuple #[.agg #[.int .i64 0, .int .i64 1, .int .i64 4, .int .i64 2, .slice a1 8 b1, .slice a2 8 b2, .slice a3 2 b3, .slice a4 0 b4, .slice a5 0 b5], .nilIface]) (by go_simp) (fun V hV => by go_simp) ?_
        go_simp
        generalize w5 = w6 at *
        have X6 := X5
        have R6 := R5
        have B6 := B5
        have O6 := O5
        have Z6 := Z5
        clear X5 R5 B5 O5 Z5
        refine headT_read rfl (.agg #[.int .i64 0, .int .i64 1, .int .i64 4, .int .i64 2, .slice a1 8 b1, .slice a2 8 b2, .slice a3 2 b3, .slice a4 0 b4, .slice a5 0 b5]) (by go_simp) (fun V hV => by go_simp) ?_
        go_simp
        refine headT_read rfl .nilIface (by go_simp) (fun V hV => by go_simp) ?_
        go_simp
        have KW : Hid (Kp z w6 (((((((((w6.setCell ⟨z, 0, none⟩ (.int .i64 0)).setCell ⟨z, 1, none⟩ (.int .i64 1)).setCell ⟨z, 2, none⟩ (.int .i64 4)).setCell ⟨z, 3, none⟩ (.int .i64 2)).setCell ⟨z, 4, none⟩ (.slice a1 8 b1)).setCell ⟨z, 5, none⟩ (.slice a2 8 b2)).setCell ⟨z, 6, none⟩ (.slice a3 2 b3)).setCell ⟨z, 7, none⟩ (.slice a4 0 b4)).setCell ⟨z, 8, none⟩ (.slice a5 0 b5))) := put_kp _ _ _ _ _ _ _ _ _ _ _
        have FIN : Hid (SmI w S0 (.pointer (some ⟨z, 0, none⟩)) (((((((((w6.setCell ⟨z, 0, none⟩ (.int .i64 0)).setCell ⟨z, 1, none⟩ (.int .i64 1)).setCell ⟨z, 2, none⟩ (.int .i64 4)).setCell ⟨z, 3, none⟩ (.int .i64 2)).setCell ⟨z, 4, none⟩ (.slice a1 8 b1)).setCell ⟨z, 5, none⟩ (.slice a2 8 b2)).setCell ⟨z, 6, none⟩ (.slice a3 2 b3)).setCell ⟨z, 7, none⟩ (.slice a4 0 b4)).setCell ⟨z, 8, none⟩ (.slice a5 0 b5))) := smi_put HZ.out B6.out R6.out Z6.out O6.out NZ.out
        obtain ⟨x0, x1, x2, x3, x4, x5, x6, x7, x8⟩ := Z6.out.cells
        obtain ⟨t0, t1, t2, t3, t4, t5, t6, t7, t8⟩ := Z6.out.thaws
        refine headT_skip rfl (((((((((w6.setCell ⟨z, 0, none⟩ (.int .i64 0)).setCell ⟨z, 1, none⟩ (.int .i64 1)).setCell ⟨z, 2, none⟩ (.int .i64 4)).setCell ⟨z, 3, none⟩ (.int .i64 2)).setCell ⟨z, 4, none⟩ (.slice a1 8 b1)).setCell ⟨z, 5, none⟩ (.slice a2 8 b2)).setCell ⟨z, 6, none⟩ (.slice a3 2 b3)).setCell ⟨z, 7, none⟩ (.slice a4 0 b4)).setCell ⟨z, 8, none⟩ (.slice a5 0 b5)) (by go_simp) (by go_simp) (bx_kp X6.out KW.out XZ.out) ?_
        go_simp
        clear x0 x1 x2 x3 x4 x5 x6 x7 x8 t0 t1 t2 t3 t4 t5 t6 t7 t8
        generalize (((((((((w6.setCell ⟨z, 0, none⟩ (.int .i64 0)).setCell ⟨z, 1, none⟩ (.int .i64 1)).setCell ⟨z, 2, none⟩ (.int .i64 4)).setCell ⟨z, 3, none⟩ (.int .i64 2)).setCell ⟨z, 4, none⟩ (.slice a1 8 b1)).setCell ⟨z, 5, none⟩ (.slice a2 8 b2)).setCell ⟨z, 6, none⟩ (.slice a3 2 b3)).setCell ⟨z, 7, none⟩ (.slice a4 0 b4)).setCell ⟨z, 8, none⟩ (.slice a5 0 b5)) = w7 at *
        unfold wpHeadT
        refine sched_value rfl .nilIface w7 (by go_simp) (by go_simp) trivial ?_
        go_simp
        unfold wpSched
        go_wp2_with fail
        go_meet
        case rel => exact ⟨rfl, FIN.out⟩
    · -- the memory is made first
      have BQ : Hid (Below w3.heap.size w3 (w3.alloc (.cells #[.int .i64 0, .int .i64 0, .int .i64 0, .int .i64 0, .slice none 0 0, .slice none 0 0, .slice none 0 0, .slice none 0 0, .slice none 0 0] 29))) := (Below.refl _ _).alloc (Nat.le_refl _) _
      have ZQ : Hid (Wx (w3.alloc (.cells #[.int .i64 0, .int .i64 0, .int .i64 0, .int .i64 0, .slice none 0 0, .slice none 0 0, .slice none 0 0, .slice none 0 0, .slice none 0 0] 29)) w3.heap.size (.int .i64 0) (.int .i64 0) (.int .i64 0) (.int .i64 0) (.slice none 0 0) (.slice none 0 0) (.slice none 0 0) (.slice none 0 0) (.slice none 0 0)) := Wx.new _ _ _ _ _ _ _ _ _ rfl
      obtain ⟨z, hz⟩ : ∃ z, w3.heap.size = z := ⟨_, rfl⟩
      have HZ : Hid (w.heap.size < z) := by rw [← hz]; exact R3.out.lt
      have XZ : Hid (w1.heap.size ≠ z) := by have := X3.out.lt; unfold Hid; omega
      rw [hz] at ZQ ⊢
      go_simp
      generalize (w3.alloc (.cells #[.int .i64 0, .int .i64 0, .int .i64 0, .int .i64 0, .slice none 0 0, .slice none 0 0, .slice none 0 0, .slice none 0 0, .slice none 0 0] 29)) = w3' at *
      have X3' : Hid (Bx w3' w1.heap.size 4 2 (.slice p1 8 q1) (.slice p2 8 q2)) := X3.out.below BQ.out X3.out.lt
      have F3' : Hid (Fl w3' (.agg #[.int .i64 4, .int .i64 2, .slice p1 8 q1, .slice p2 8 q2]) 4 2 SG SO) := F3.out.below BQ.out
      have R3' : Hid (Wx w3' w.heap.size (.int .i64 0) (.int .i64 0) (.int .i64 0) (.int .i64 0) (.slice none 0 0) (.slice none 0 0) (.slice none 0 0) (.slice none 0 0) (.slice none 0 0)) := R3.out.below BQ.out R3.out.lt
      have B3' : Hid (Below w.heap.size w w3') := B3.out.trans (BQ.out.mono B3.out.size)
      clear X3 F3 R3 B3 BQ hz
      refine headT_call rfl 6 #[] (by go_simp) (by go_simp) ?_
      refine (sorts_any w3').mono ?_
      rintro e w4' ⟨ku, rfl, hk, hb⟩
      have K4' : Hid (Kl w4' ku SK) := hk
      have X4' : Hid (Bx w4' w1.heap.size 4 2 (.slice p1 8 q1) (.slice p2 8 q2)) := X3'.out.below hb X3'.out.lt
      have F4' : Hid (Fl w4' (.agg #[.int .i64 4, .int .i64 2, .slice p1 8 q1, .slice p2 8 q2]) 4 2 SG SO) := F3'.out.below hb
      have R4' : Hid (Wx w4' w.heap.size (.int .i64 0) (.int .i64 0) (.int .i64 0) (.int .i64 0) (.slice none 0 0) (.slice none 0 0) (.slice none 0 0) (.slice none 0 0) (.slice none 0 0)) := R3'.out.below hb R3'.out.lt
      have B4' : Hid (Below w.heap.size w w4') := B3'.out.trans (hb.mono B3'.out.size)
      have ZQ' : Hid (Wx w4' z (.int .i64 0) (.int .i64 0) (.int .i64 0) (.int .i64 0) (.slice none 0 0) (.slice none 0 0) (.slice none 0 0) (.slice none 0 0) (.slice none 0 0)) := ZQ.out.below hb ZQ.out.lt
      clear hk hb X3' F3' R3' B3' ZQ
      have ZQ := ZQ'
      clear ZQ'
      refine ⟨_, rfl, X4'.out, ?_⟩
      go_simp
      refine headT_call rfl 10 #[ku, .agg #[.int .i64 4, .int .i64 2, .slice p1 8 q1, .slice p2 8 q2], .int .i64 2, .int .i64 100] (by go_simp) (by go_simp) ?_
      refine (new_any ku _ SK 4 2 SG SO 2 100 w4' K4'.out sm_names F4'.out).mono ?_
      rintro e w5 ⟨u, r, rfl, hr, ho, hb⟩
      rw [sm_f0] at hr
      rw [sm_0] at ho
      obtain rfl := er_zero hr
      have X5 : Hid (Bx w5 w1.heap.size 4 2 (.slice p1 8 q1) (.slice p2 8 q2)) := X4'.out.below hb X4'.out.lt
      have R5 : Hid (Wx w5 w.heap.size (.int .i64 0) (.int .i64 0) (.int .i64 0) (.int .i64 0) (.slice none 0 0) (.slice none 0 0) (.slice none 0 0) (.slice none 0 0) (.slice none 0 0)) := R4'.out.below hb R4'.out.lt
      have B5 : Hid (Below w.heap.size w w5) := B4'.out.trans (hb.mono B4'.out.size)
      have Z5 : Hid (Wx w5 z (.int .i64 0) (.int .i64 0) (.int .i64 0) (.int .i64 0) (.slice none 0 0) (.slice none 0 0) (.slice none 0 0) (.slice none 0 0) (.slice none 0 0)) := ZQ.out.below hb ZQ.out.lt
      have ZL : Hid (z < w4'.heap.size) := ZQ.out.lt
      obtain ⟨v1, v2, v3, v4, v5, rfl, o1, o2, o3, o4, o5⟩ := ho
      obtain ⟨a1, b1, rfl⟩ := o1.len
      obtain ⟨a2, b2, rfl⟩ := o2.len
      obtain ⟨a3, b3, rfl⟩ := o3.len
      obtain ⟨a4, b4, rfl⟩ := o4.len
      obtain ⟨a5, b5, rfl⟩ := o5.len
      obtain ⟨g1, g2, g3, g4, g5, g6, g7, g8, g9⟩ := s0_eqs
      simp only [g5] at o1
      simp only [g6] at o2
      simp only [g7] at o3
      simp only [g8] at o4
      simp only [g9] at o5
      simp only [g1, g2, g3, g4, g5, g6, g7, g8, g9]
      clear g1 g2 g3 g4 g5 g6 g7 g8 g9
      have NZ : Hid (Nz z (.slice a1 8 b1) ∧ Nz z (.slice a2 8 b2) ∧ Nz z (.slice a3 2 b3) ∧ Nz z (.slice a4 0 b4) ∧ Nz z (.slice a5 0 b5)) := ⟨fun b hb => by have := (o1.block b hb).1; have := ZL.out; omega, fun b hb => by have := (o2.block b hb).1; have := ZL.out; omega, fun b hb => by have := (o3.block b hb).1; have := ZL.out; omega, fun b hb => by have := (o4.block b hb).1; have := ZL.out; omega, fun b hb => by have := (o5.block b hb).1; have := ZL.out; omega⟩
      have O5 : Hid (Ow w5 (w.heap.size + 1) (.slice a1 8 b1) S0.gs ∧ Ow w5 (w.heap.size + 1) (.slice a2 8 b2) S0.os ∧ Ow w5 (w.heap.size + 1) (.slice a3 2 b3) S0.gold ∧ Uno w5 (w.heap.size + 1) (.slice a4 0 b4) S0.us ∧ Jbo w5 (w.heap.size + 1) (.slice a5 0 b5) S0.qs) := ⟨o1.mono R4'.out.lt, o2.mono R4'.out.lt, o3.mono R4'.out.lt, o4.mono R4'.out.lt, o5.mono R4'.out.lt⟩
      clear hr hb o1 o2 o3 o4 o5 K4' X4' F4' R4' B4' ZQ ZL
      refine ⟨_, rfl, X5.out, ?_⟩
      go_simp
      refine headT_read rfl (.tuple #[.agg #[.int .i64 0, .int .i64 1, .int .i64 4, .int .i64 2, .slice a1 8 b1, .slice a2 8 b2, .slice a3 2 b3, .slice a4 0 b4, .slice a5 0 b5], .nilIface]) (by go_simp) (fun V hV => by go_simp) ?_
      go_simp
      generalize w5 = w6 at *
      have X6 := X5
      have R6 := R5
      have B6 := B5
      have O6 := O5
      have Z6 := Z5
      clear X5 R5 B5 O5 Z5
      refine headT_read rfl (.agg #[.int .i64 0, .int .i64 1, .int .i64 4, .int .i64 2, .slice a1 8 b1, .slice a2 8 b2, .slice a3 2 b3, .slice a4 0 b4, .slice a5 0 b5]) (by go_simp) (fun V hV => by go_simp) ?_
      go_simp
      refine headT_read rfl .nilIface (by go_simp) (fun V hV => by go_simp) ?_
      go_simp
      have KW : Hid (Kp z w6 (((((((((w6.setCell ⟨z, 0, none⟩ (.int .i64 0)).setCell ⟨z, 1, none⟩ (.int .i64 1)).setCell ⟨z, 2, none⟩ (.int .i64 4)).setCell ⟨z, 3, none⟩ (.int .i64 2)).setCell ⟨z, 4, none⟩ (.slice a1 8 b1)).setCell ⟨z, 5, none⟩ (.slice a2 8 b2)).setCell ⟨z, 6, none⟩ (.slice a3 2 b3)).setCell ⟨z, 7, none⟩ (.slice a4 0 b4)).setCell ⟨z, 8, none⟩ (.slice a5 0 b5))) := put_kp _ _ _ _ _ _ _ _ _ _ _
      have FIN : Hid (SmI w S0 (.pointer (some ⟨z, 0, none⟩)) (((((((((w6.setCell ⟨z, 0, none⟩ (.int .i64 0)).setCell ⟨z, 1, none⟩ (.int .i64 1)).setCell ⟨z, 2, none⟩ (.int .i64 4)).setCell ⟨z, 3, none⟩ (.int .i64 2)).setCell ⟨z, 4, none⟩ (.slice a1 8 b1)).setCell ⟨z, 5, none⟩ (.slice a2 8 b2)).setCell ⟨z, 6, none⟩ (.slice a3 2 b3)).setCell ⟨z, 7, none⟩ (.slice a4 0 b4)).setCell ⟨z, 8, none⟩ (.slice a5 0 b5))) := smi_put HZ.out B6.out R6.out Z6.out O6.out NZ.out
      obtain ⟨x0, x1, x2, x3, x4, x5, x6, x7, x8⟩ := Z6.out.cells
      obtain ⟨t0, t1, t2, t3, t4, t5, t6, t7, t8⟩ := Z6.out.thaws
      refine headT_skip rfl (((((((((w6.setCell ⟨z, 0, none⟩ (.int .i64 0)).setCell ⟨z, 1, none⟩ (.int .i64 1)).setCell ⟨z, 2, none⟩ (.int .i64 4)).setCell ⟨z, 3, none⟩ (.int .i64 2)).setCell ⟨z, 4, none⟩ (.slice a1 8 b1)).setCell ⟨z, 5, none⟩ (.slice a2 8 b2)).setCell ⟨z, 6, none⟩ (.slice a3 2 b3)).setCell ⟨z, 7, none⟩ (.slice a4 0 b4)).setCell ⟨z, 8, none⟩ (.slice a5 0 b5)) (by go_simp) (by go_simp) (bx_kp X6.out KW.out XZ.out) ?_
      go_simp
      clear x0 x1 x2 x3 x4 x5 x6 x7 x8 t0 t1 t2 t3 t4 t5 t6 t7 t8
      generalize (((((((((w6.setCell ⟨z, 0, none⟩ (.int .i64 0)).setCell ⟨z, 1, none⟩ (.int .i64 1)).setCell ⟨z, 2, none⟩ (.int .i64 4)).setCell ⟨z, 3, none⟩ (.int .i64 2)).setCell ⟨z, 4, none⟩ (.slice a1 8 b1)).setCell ⟨z, 5, none⟩ (.slice a2 8 b2)).setCell ⟨z, 6, none⟩ (.slice a3 2 b3)).setCell ⟨z, 7, none⟩ (.slice a4 0 b4)).setCell ⟨z, 8, none⟩ (.slice a5 0 b5)) = w7 at *
      unfold wpHeadT
      refine sched_value rfl .nilIface w7 (by go_simp) (by go_simp) trivial ?_
      go_simp
      unfold wpSched
      go_wp2_with fail
      go_meet
      case rel => exact ⟨rfl, FIN.out⟩
  case rest =>
    obtain ⟨rfl, hS⟩ := hcut
    obtain ⟨z, c1, c2, c3, c4, c5, rfl, hz, hB, hR, hX, hO, hN⟩ := hS
    have HZ : Hid (w.heap.size < z) := hz
    have BA0 : Hid (Below w.heap.size w wc) := hB
    have RA0 : Hid (Wx wc w.heap.size (.int .i64 0) (.int .i64 0) (.int .i64 0) (.int .i64 0) (.slice none 0 0) (.slice none 0 0) (.slice none 0 0) (.slice none 0 0) (.slice none 0 0)) := hR
    have XA0 : Hid (Wx wc z (.int .i64 S0.turn) (.int .i64 S0.next) (.int .i64 S0.wide) (.int .i64 S0.high) c1 c2 c3 c4 c5) := hX
    have OA0 : Hid (Ow wc (w.heap.size + 1) c1 S0.gs ∧ Ow wc (w.heap.size + 1) c2 S0.os ∧ Ow wc (w.heap.size + 1) c3 S0.gold ∧ Uno wc (w.heap.size + 1) c4 S0.us ∧ Jbo wc (w.heap.size + 1) c5 S0.qs) := hO
    clear hz hB hR hX hO hN X2 FL R2 B2 N2
    generalize wc = s0 at *
    go_upto_region 3 with fail
    refine wp_region_two [(true, 1), (false, 0), (false, 2), (true, 3)] [(true, 4), (true, 5), (false, 6), (false, 7)] (fun V => Wx V z (.int .i64 S0.turn) (.int .i64 S0.next) (.int .i64 S0.wide) (.int .i64 S0.high) c1 c2 c3 c4 c5) (by kernel_rfl) (by kernel_rfl) (by kernel_rfl) (by decide +kernel) (by decide +kernel) XA0.out.drew ?_
    have X1 : Hid (Wx { s0 with drawn := s0.drawn + 1 } z (.int .i64 S0.turn) (.int .i64 S0.next) (.int .i64 S0.wide) (.int .i64 S0.high) c1 c2 c3 c4 c5) := XA0.out
    have R1 : Hid (Wx { s0 with drawn := s0.drawn + 1 } w.heap.size (.int .i64 0) (.int .i64 0) (.int .i64 0) (.int .i64 0) (.slice none 0 0) (.slice none 0 0) (.slice none 0 0) (.slice none 0 0) (.slice none 0 0)) := RA0.out
    have B1 : Hid (Below w.heap.size w { s0 with drawn := s0.drawn + 1 }) := BA0.out.drew
    have D1 : Hid (Below s0.heap.size s0 { s0 with drawn := s0.drawn + 1 }) := (Below.refl _ _).drew
    generalize ({ s0 with drawn := s0.drawn + 1 } : World) = v3 at *
    have L1 : Hid (Wl v3 (.agg #[.int .i64 S0.turn, .int .i64 S0.next, .int .i64 S0.wide, .int .i64 S0.high, c1, c2, c3, c4, c5]) S0) := ⟨_, _, _, _, _, rfl, (OA0.out.1.below D1.out).ro, (OA0.out.2.1.below D1.out).ro, (OA0.out.2.2.1.below D1.out).ro, (OA0.out.2.2.2.1.below D1.out).l, (OA0.out.2.2.2.2.below D1.out).l⟩
    clear XA0 RA0 BA0 OA0 D1
    refine headT_read rfl (.agg #[.int .i64 S0.turn, .int .i64 S0.next, .int .i64 S0.wide, .int .i64 S0.high, c1, c2, c3, c4, c5]) (by go_simp) (fun V hV => by obtain ⟨x0, x1, x2, x3, x4, x5, x6, x7, x8⟩ := hV.cells; go_simp) ?_
    go_simp
    refine headT_call rfl 6 #[] (by go_simp) (by go_simp) ?_
    refine (sorts_any v3).mono ?_
    rintro e v4 ⟨ku, rfl, hk, hb⟩
    have K4 : Hid (Kl v4 ku SK) := hk
    have X4 : Hid (Wx v4 z (.int .i64 S0.turn) (.int .i64 S0.next) (.int .i64 S0.wide) (.int .i64 S0.high) c1 c2 c3 c4 c5) := X1.out.below hb X1.out.lt
    have R4 : Hid (Wx v4 w.heap.size (.int .i64 0) (.int .i64 0) (.int .i64 0) (.int .i64 0) (.slice none 0 0) (.slice none 0 0) (.slice none 0 0) (.slice none 0 0) (.slice none 0 0)) := R1.out.below hb R1.out.lt
    have B4 : Hid (Below w.heap.size w v4) := B1.out.trans (hb.mono B1.out.size)
    have L4 : Hid (Wl v4 (.agg #[.int .i64 S0.turn, .int .i64 S0.next, .int .i64 S0.wide, .int .i64 S0.high, c1, c2, c3, c4, c5]) S0) := L1.out.below hb
    clear hk hb X1 R1 B1 L1
    refine ⟨_, rfl, X4.out, ?_⟩
    go_simp
    refine headT_call rfl 11 #[ku, .agg #[.int .i64 S0.turn, .int .i64 S0.next, .int .i64 S0.wide, .int .i64 S0.high, c1, c2, c3, c4, c5], .int .i64 0, .int .i64 0, .int .i64 0] (by go_simp) (by go_simp) ?_
    refine (place_any ku _ SK S0 0 0 0 v4 K4.out sm_names L4.out).mono ?_
    rintro e v5 ⟨u, r, rfl, hr, ho, hb⟩
    rw [sm_f1] at hr
    rw [sm_1] at ho
    obtain rfl := er_zero hr
    have X5 : Hid (Wx v5 z (.int .i64 S0.turn) (.int .i64 S0.next) (.int .i64 S0.wide) (.int .i64 S0.high) c1 c2 c3 c4 c5) := X4.out.below hb X4.out.lt
    have R5 : Hid (Wx v5 w.heap.size (.int .i64 0) (.int .i64 0) (.int .i64 0) (.int .i64 0) (.slice none 0 0) (.slice none 0 0) (.slice none 0 0) (.slice none 0 0) (.slice none 0 0)) := R4.out.below hb R4.out.lt
    have B5 : Hid (Below w.heap.size w v5) := B4.out.trans (hb.mono B4.out.size)
    have ZL : Hid (z < v4.heap.size) := X4.out.lt
    obtain ⟨y1, y2, y3, y4, y5, rfl, o1, o2, o3, o4, o5⟩ := ho
    obtain ⟨m11, n11, rfl⟩ := o1.len
    obtain ⟨m12, n12, rfl⟩ := o2.len
    obtain ⟨m13, n13, rfl⟩ := o3.len
    obtain ⟨m14, n14, rfl⟩ := o4.len
    obtain ⟨m15, n15, rfl⟩ := o5.len
    obtain ⟨g1, g2, g3, g4, g5, g6, g7, g8, g9⟩ := s1_eqs
    simp only [g5] at o1
    simp only [g6] at o2
    simp only [g7] at o3
    simp only [g8] at o4
    simp only [g9] at o5
    simp only [g1, g2, g3, g4, g5, g6, g7, g8, g9]
    clear g1 g2 g3 g4 g5 g6 g7 g8 g9
    have NZ : Hid (Nz z (.slice m11 8 n11) ∧ Nz z (.slice m12 8 n12) ∧ Nz z (.slice m13 2 n13) ∧ Nz z (.slice m14 1 n14) ∧ Nz z (.slice m15 0 n15)) := ⟨fun b hb => by have := (o1.block b hb).1; have := ZL.out; omega, fun b hb => by have := (o2.block b hb).1; have := ZL.out; omega, fun b hb => by have := (o3.block b hb).1; have := ZL.out; omega, fun b hb => by have := (o4.block b hb).1; have := ZL.out; omega, fun b hb => by have := (o5.block b hb).1; have := ZL.out; omega⟩
    have O5 : Hid (Ow v5 (w.heap.size + 1) (.slice m11 8 n11) S1.gs ∧ Ow v5 (w.heap.size + 1) (.slice m12 8 n12) S1.os ∧ Ow v5 (w.heap.size + 1) (.slice m13 2 n13) S1.gold ∧ Uno v5 (w.heap.size + 1) (.slice m14 1 n14) S1.us ∧ Jbo v5 (w.heap.size + 1) (.slice m15 0 n15) S1.qs) := ⟨o1.mono R4.out.lt, o2.mono R4.out.lt, o3.mono R4.out.lt, o4.mono R4.out.lt, o5.mono R4.out.lt⟩
    clear hr hb o1 o2 o3 o4 o5 K4 X4 R4 B4 L4 ZL
    refine ⟨_, rfl, X5.out, ?_⟩
    go_simp
    refine headT_read rfl (.tuple #[.agg #[.int .i64 0, .int .i64 2, .int .i64 4, .int .i64 2, .slice m11 8 n11, .slice m12 8 n12, .slice m13 2 n13, .slice m14 1 n14, .slice m15 0 n15], .nilIface]) (by go_simp) (fun V hV => by go_simp) ?_
    go_simp
    unfold wpHeadT
    have KW : Hid (Kp z v5 (((((((((v5.setCell ⟨z, 0, none⟩ (.int .i64 0)).setCell ⟨z, 1, none⟩ (.int .i64 2)).setCell ⟨z, 2, none⟩ (.int .i64 4)).setCell ⟨z, 3, none⟩ (.int .i64 2)).setCell ⟨z, 4, none⟩ (.slice m11 8 n11)).setCell ⟨z, 5, none⟩ (.slice m12 8 n12)).setCell ⟨z, 6, none⟩ (.slice m13 2 n13)).setCell ⟨z, 7, none⟩ (.slice m14 1 n14)).setCell ⟨z, 8, none⟩ (.slice m15 0 n15))) := put_kp _ _ _ _ _ _ _ _ _ _ _
    have XA1 : Hid (Wx (((((((((v5.setCell ⟨z, 0, none⟩ (.int .i64 0)).setCell ⟨z, 1, none⟩ (.int .i64 2)).setCell ⟨z, 2, none⟩ (.int .i64 4)).setCell ⟨z, 3, none⟩ (.int .i64 2)).setCell ⟨z, 4, none⟩ (.slice m11 8 n11)).setCell ⟨z, 5, none⟩ (.slice m12 8 n12)).setCell ⟨z, 6, none⟩ (.slice m13 2 n13)).setCell ⟨z, 7, none⟩ (.slice m14 1 n14)).setCell ⟨z, 8, none⟩ (.slice m15 0 n15)) z (.int .i64 0) (.int .i64 2) (.int .i64 4) (.int .i64 2) (.slice m11 8 n11) (.slice m12 8 n12) (.slice m13 2 n13) (.slice m14 1 n14) (.slice m15 0 n15)) := X5.out.put (.int .i64 0) (.int .i64 2) (.int .i64 4) (.int .i64 2) (.slice m11 8 n11) (.slice m12 8 n12) (.slice m13 2 n13) (.slice m14 1 n14) (.slice m15 0 n15)
    obtain ⟨x0, x1, x2, x3, x4, x5, x6, x7, x8⟩ := X5.out.cells
    obtain ⟨t0, t1, t2, t3, t4, t5, t6, t7, t8⟩ := X5.out.thaws
    refine sched_read rfl (.agg #[.int .i64 0, .int .i64 2, .int .i64 4, .int .i64 2, .slice m11 8 n11, .slice m12 8 n12, .slice m13 2 n13, .slice m14 1 n14, .slice m15 0 n15]) (by go_simp) (fun V hV => by go_simp) ?_
    go_simp
    refine sched_read rfl .nilIface (by go_simp) (fun V hV => by go_simp) ?_
    go_simp
    refine sched_skip rfl (((((((((v5.setCell ⟨z, 0, none⟩ (.int .i64 0)).setCell ⟨z, 1, none⟩ (.int .i64 2)).setCell ⟨z, 2, none⟩ (.int .i64 4)).setCell ⟨z, 3, none⟩ (.int .i64 2)).setCell ⟨z, 4, none⟩ (.slice m11 8 n11)).setCell ⟨z, 5, none⟩ (.slice m12 8 n12)).setCell ⟨z, 6, none⟩ (.slice m13 2 n13)).setCell ⟨z, 7, none⟩ (.slice m14 1 n14)).setCell ⟨z, 8, none⟩ (.slice m15 0 n15)) (by go_simp) (by go_simp) trivial ?_
    go_simp
    clear x0 x1 x2 x3 x4 x5 x6 x7 x8 t0 t1 t2 t3 t4 t5 t6 t7 t8
    generalize (((((((((v5.setCell ⟨z, 0, none⟩ (.int .i64 0)).setCell ⟨z, 1, none⟩ (.int .i64 2)).setCell ⟨z, 2, none⟩ (.int .i64 4)).setCell ⟨z, 3, none⟩ (.int .i64 2)).setCell ⟨z, 4, none⟩ (.slice m11 8 n11)).setCell ⟨z, 5, none⟩ (.slice m12 8 n12)).setCell ⟨z, 6, none⟩ (.slice m13 2 n13)).setCell ⟨z, 7, none⟩ (.slice m14 1 n14)).setCell ⟨z, 8, none⟩ (.slice m15 0 n15)) = s1 at *
    have BA1 : Hid (Below w.heap.size w s1) := KW.out.below B5.out B5.out.size (Nat.le_of_lt HZ.out)
    have RA1 : Hid (Wx s1 w.heap.size (.int .i64 0) (.int .i64 0) (.int .i64 0) (.int .i64 0) (.slice none 0 0) (.slice none 0 0) (.slice none 0 0) (.slice none 0 0) (.slice none 0 0)) := R5.out.kp KW.out (Nat.ne_of_lt HZ.out)
    have OA1 : Hid (Ow s1 (w.heap.size + 1) (.slice m11 8 n11) S1.gs ∧ Ow s1 (w.heap.size + 1) (.slice m12 8 n12) S1.os ∧ Ow s1 (w.heap.size + 1) (.slice m13 2 n13) S1.gold ∧ Uno s1 (w.heap.size + 1) (.slice m14 1 n14) S1.us ∧ Jbo s1 (w.heap.size + 1) (.slice m15 0 n15) S1.qs) := ⟨owns_nz O5.out.1 KW.out NZ.out.1, owns_nz O5.out.2.1 KW.out NZ.out.2.1, owns_nz O5.out.2.2.1 KW.out NZ.out.2.2.1, owns_nz O5.out.2.2.2.1 KW.out NZ.out.2.2.2.1, owns_nz O5.out.2.2.2.2 KW.out NZ.out.2.2.2.2⟩
    clear X5 R5 B5 O5 NZ KW
    refine sched_value rfl .nilIface s1 (by go_simp) (by go_simp) trivial ?_
    go_simp
    unfold wpSched
    go_upto_region 4 with fail
    refine wp_region_two [(true, 1), (false, 0), (false, 2), (true, 3)] [(true, 4), (true, 5), (false, 6), (false, 7)] (fun V => Wx V z (.int .i64 S1.turn) (.int .i64 S1.next) (.int .i64 S1.wide) (.int .i64 S1.high) (.slice m11 8 n11) (.slice m12 8 n12) (.slice m13 2 n13) (.slice m14 1 n14) (.slice m15 0 n15)) (by kernel_rfl) (by kernel_rfl) (by kernel_rfl) (by decide +kernel) (by decide +kernel) XA1.out.drew ?_
    have X1 : Hid (Wx { s1 with drawn := s1.drawn + 1 } z (.int .i64 S1.turn) (.int .i64 S1.next) (.int .i64 S1.wide) (.int .i64 S1.high) (.slice m11 8 n11) (.slice m12 8 n12) (.slice m13 2 n13) (.slice m14 1 n14) (.slice m15 0 n15)) := XA1.out
    have R1 : Hid (Wx { s1 with drawn := s1.drawn + 1 } w.heap.size (.int .i64 0) (.int .i64 0) (.int .i64 0) (.int .i64 0) (.slice none 0 0) (.slice none 0 0) (.slice none 0 0) (.slice none 0 0) (.slice none 0 0)) := RA1.out
    have B1 : Hid (Below w.heap.size w { s1 with drawn := s1.drawn + 1 }) := BA1.out.drew
    have D1 : Hid (Below s1.heap.size s1 { s1 with drawn := s1.drawn + 1 }) := (Below.refl _ _).drew
    generalize ({ s1 with drawn := s1.drawn + 1 } : World) = v3 at *
    have L1 : Hid (Wl v3 (.agg #[.int .i64 S1.turn, .int .i64 S1.next, .int .i64 S1.wide, .int .i64 S1.high, .slice m11 8 n11, .slice m12 8 n12, .slice m13 2 n13, .slice m14 1 n14, .slice m15 0 n15]) S1) := ⟨_, _, _, _, _, rfl, (OA1.out.1.below D1.out).ro, (OA1.out.2.1.below D1.out).ro, (OA1.out.2.2.1.below D1.out).ro, (OA1.out.2.2.2.1.below D1.out).l, (OA1.out.2.2.2.2.below D1.out).l⟩
    clear XA1 RA1 BA1 OA1 D1
    refine headT_read rfl (.agg #[.int .i64 S1.turn, .int .i64 S1.next, .int .i64 S1.wide, .int .i64 S1.high, .slice m11 8 n11, .slice m12 8 n12, .slice m13 2 n13, .slice m14 1 n14, .slice m15 0 n15]) (by go_simp) (fun V hV => by obtain ⟨x0, x1, x2, x3, x4, x5, x6, x7, x8⟩ := hV.cells; go_simp) ?_
    go_simp
    refine headT_call rfl 6 #[] (by go_simp) (by go_simp) ?_
    refine (sorts_any v3).mono ?_
    rintro e v4 ⟨ku, rfl, hk, hb⟩
    have K4 : Hid (Kl v4 ku SK) := hk
    have X4 : Hid (Wx v4 z (.int .i64 S1.turn) (.int .i64 S1.next) (.int .i64 S1.wide) (.int .i64 S1.high) (.slice m11 8 n11) (.slice m12 8 n12) (.slice m13 2 n13) (.slice m14 1 n14) (.slice m15 0 n15)) := X1.out.below hb X1.out.lt
    have R4 : Hid (Wx v4 w.heap.size (.int .i64 0) (.int .i64 0) (.int .i64 0) (.int .i64 0) (.slice none 0 0) (.slice none 0 0) (.slice none 0 0) (.slice none 0 0) (.slice none 0 0)) := R1.out.below hb R1.out.lt
    have B4 : Hid (Below w.heap.size w v4) := B1.out.trans (hb.mono B1.out.size)
    have L4 : Hid (Wl v4 (.agg #[.int .i64 S1.turn, .int .i64 S1.next, .int .i64 S1.wide, .int .i64 S1.high, .slice m11 8 n11, .slice m12 8 n12, .slice m13 2 n13, .slice m14 1 n14, .slice m15 0 n15]) S1) := L1.out.below hb
    clear hk hb X1 R1 B1 L1
    refine ⟨_, rfl, X4.out, ?_⟩
    go_simp
    refine headT_call rfl 11 #[ku, .agg #[.int .i64 S1.turn, .int .i64 S1.next, .int .i64 S1.wide, .int .i64 S1.high, .slice m11 8 n11, .slice m12 8 n12, .slice m13 2 n13, .slice m14 1 n14, .slice m15 0 n15], .int .i64 0, .int .i64 1, .int .i64 1] (by go_simp) (by go_simp) ?_
    refine (place_any ku _ SK S1 0 1 1 v4 K4.out sm_names L4.out).mono ?_
    rintro e v5 ⟨u, r, rfl, hr, ho, hb⟩
    rw [sm_f2] at hr
    rw [sm_2] at ho
    obtain rfl := er_zero hr
    have X5 : Hid (Wx v5 z (.int .i64 S1.turn) (.int .i64 S1.next) (.int .i64 S1.wide) (.int .i64 S1.high) (.slice m11 8 n11) (.slice m12 8 n12) (.slice m13 2 n13) (.slice m14 1 n14) (.slice m15 0 n15)) := X4.out.below hb X4.out.lt
    have R5 : Hid (Wx v5 w.heap.size (.int .i64 0) (.int .i64 0) (.int .i64 0) (.int .i64 0) (.slice none 0 0) (.slice none 0 0) (.slice none 0 0) (.slice none 0 0) (.slice none 0 0)) := R4.out.below hb R4.out.lt
    have B5 : Hid (Below w.heap.size w v5) := B4.out.trans (hb.mono B4.out.size)
    have ZL : Hid (z < v4.heap.size) := X4.out.lt
    obtain ⟨y1, y2, y3, y4, y5, rfl, o1, o2, o3, o4, o5⟩ := ho
    obtain ⟨m21, n21, rfl⟩ := o1.len
    obtain ⟨m22, n22, rfl⟩ := o2.len
    obtain ⟨m23, n23, rfl⟩ := o3.len
    obtain ⟨m24, n24, rfl⟩ := o4.len
    obtain ⟨m25, n25, rfl⟩ := o5.len
    obtain ⟨g1, g2, g3, g4, g5, g6, g7, g8, g9⟩ := s2_eqs
    simp only [g5] at o1
    simp only [g6] at o2
    simp only [g7] at o3
    simp only [g8] at o4
    simp only [g9] at o5
    simp only [g1, g2, g3, g4, g5, g6, g7, g8, g9]
    clear g1 g2 g3 g4 g5 g6 g7 g8 g9
    have NZ : Hid (Nz z (.slice m21 8 n21) ∧ Nz z (.slice m22 8 n22) ∧ Nz z (.slice m23 2 n23) ∧ Nz z (.slice m24 2 n24) ∧ Nz z (.slice m25 0 n25)) := ⟨fun b hb => by have := (o1.block b hb).1; have := ZL.out; omega, fun b hb => by have := (o2.block b hb).1; have := ZL.out; omega, fun b hb => by have := (o3.block b hb).1; have := ZL.out; omega, fun b hb => by have := (o4.block b hb).1; have := ZL.out; omega, fun b hb => by have := (o5.block b hb).1; have := ZL.out; omega⟩
    have O5 : Hid (Ow v5 (w.heap.size + 1) (.slice m21 8 n21) S2.gs ∧ Ow v5 (w.heap.size + 1) (.slice m22 8 n22) S2.os ∧ Ow v5 (w.heap.size + 1) (.slice m23 2 n23) S2.gold ∧ Uno v5 (w.heap.size + 1) (.slice m24 2 n24) S2.us ∧ Jbo v5 (w.heap.size + 1) (.slice m25 0 n25) S2.qs) := ⟨o1.mono R4.out.lt, o2.mono R4.out.lt, o3.mono R4.out.lt, o4.mono R4.out.lt, o5.mono R4.out.lt⟩
    clear hr hb o1 o2 o3 o4 o5 K4 X4 R4 B4 L4 ZL
    refine ⟨_, rfl, X5.out, ?_⟩
    go_simp
    refine headT_read rfl (.tuple #[.agg #[.int .i64 0, .int .i64 3, .int .i64 4, .int .i64 2, .slice m21 8 n21, .slice m22 8 n22, .slice m23 2 n23, .slice m24 2 n24, .slice m25 0 n25], .nilIface]) (by go_simp) (fun V hV => by go_simp) ?_
    go_simp
    unfold wpHeadT
    have KW : Hid (Kp z v5 (((((((((v5.setCell ⟨z, 0, none⟩ (.int .i64 0)).setCell ⟨z, 1, none⟩ (.int .i64 3)).setCell ⟨z, 2, none⟩ (.int .i64 4)).setCell ⟨z, 3, none⟩ (.int .i64 2)).setCell ⟨z, 4, none⟩ (.slice m21 8 n21)).setCell ⟨z, 5, none⟩ (.slice m22 8 n22)).setCell ⟨z, 6, none⟩ (.slice m23 2 n23)).setCell ⟨z, 7, none⟩ (.slice m24 2 n24)).setCell ⟨z, 8, none⟩ (.slice m25 0 n25))) := put_kp _ _ _ _ _ _ _ _ _ _ _
    have XA2 : Hid (Wx (((((((((v5.setCell ⟨z, 0, none⟩ (.int .i64 0)).setCell ⟨z, 1, none⟩ (.int .i64 3)).setCell ⟨z, 2, none⟩ (.int .i64 4)).setCell ⟨z, 3, none⟩ (.int .i64 2)).setCell ⟨z, 4, none⟩ (.slice m21 8 n21)).setCell ⟨z, 5, none⟩ (.slice m22 8 n22)).setCell ⟨z, 6, none⟩ (.slice m23 2 n23)).setCell ⟨z, 7, none⟩ (.slice m24 2 n24)).setCell ⟨z, 8, none⟩ (.slice m25 0 n25)) z (.int .i64 0) (.int .i64 3) (.int .i64 4) (.int .i64 2) (.slice m21 8 n21) (.slice m22 8 n22) (.slice m23 2 n23) (.slice m24 2 n24) (.slice m25 0 n25)) := X5.out.put (.int .i64 0) (.int .i64 3) (.int .i64 4) (.int .i64 2) (.slice m21 8 n21) (.slice m22 8 n22) (.slice m23 2 n23) (.slice m24 2 n24) (.slice m25 0 n25)
    obtain ⟨x0, x1, x2, x3, x4, x5, x6, x7, x8⟩ := X5.out.cells
    obtain ⟨t0, t1, t2, t3, t4, t5, t6, t7, t8⟩ := X5.out.thaws
    refine sched_read rfl (.agg #[.int .i64 0, .int .i64 3, .int .i64 4, .int .i64 2, .slice m21 8 n21, .slice m22 8 n22, .slice m23 2 n23, .slice m24 2 n24, .slice m25 0 n25]) (by go_simp) (fun V hV => by go_simp) ?_
    go_simp
    refine sched_read rfl .nilIface (by go_simp) (fun V hV => by go_simp) ?_
    go_simp
    refine sched_skip rfl (((((((((v5.setCell ⟨z, 0, none⟩ (.int .i64 0)).setCell ⟨z, 1, none⟩ (.int .i64 3)).setCell ⟨z, 2, none⟩ (.int .i64 4)).setCell ⟨z, 3, none⟩ (.int .i64 2)).setCell ⟨z, 4, none⟩ (.slice m21 8 n21)).setCell ⟨z, 5, none⟩ (.slice m22 8 n22)).setCell ⟨z, 6, none⟩ (.slice m23 2 n23)).setCell ⟨z, 7, none⟩ (.slice m24 2 n24)).setCell ⟨z, 8, none⟩ (.slice m25 0 n25)) (by go_simp) (by go_simp) trivial ?_
    go_simp
    clear x0 x1 x2 x3 x4 x5 x6 x7 x8 t0 t1 t2 t3 t4 t5 t6 t7 t8
    generalize (((((((((v5.setCell ⟨z, 0, none⟩ (.int .i64 0)).setCell ⟨z, 1, none⟩ (.int .i64 3)).setCell ⟨z, 2, none⟩ (.int .i64 4)).setCell ⟨z, 3, none⟩ (.int .i64 2)).setCell ⟨z, 4, none⟩ (.slice m21 8 n21)).setCell ⟨z, 5, none⟩ (.slice m22 8 n22)).setCell ⟨z, 6, none⟩ (.slice m23 2 n23)).setCell ⟨z, 7, none⟩ (.slice m24 2 n24)).setCell ⟨z, 8, none⟩ (.slice m25 0 n25)) = s2 at *
    have BA2 : Hid (Below w.heap.size w s2) := KW.out.below B5.out B5.out.size (Nat.le_of_lt HZ.out)
    have RA2 : Hid (Wx s2 w.heap.size (.int .i64 0) (.int .i64 0) (.int .i64 0) (.int .i64 0) (.slice none 0 0) (.slice none 0 0) (.slice none 0 0) (.slice none 0 0) (.slice none 0 0)) := R5.out.kp KW.out (Nat.ne_of_lt HZ.out)
    have OA2 : Hid (Ow s2 (w.heap.size + 1) (.slice m21 8 n21) S2.gs ∧ Ow s2 (w.heap.size + 1) (.slice m22 8 n22) S2.os ∧ Ow s2 (w.heap.size + 1) (.slice m23 2 n23) S2.gold ∧ Uno s2 (w.heap.size + 1) (.slice m24 2 n24) S2.us ∧ Jbo s2 (w.heap.size + 1) (.slice m25 0 n25) S2.qs) := ⟨owns_nz O5.out.1 KW.out NZ.out.1, owns_nz O5.out.2.1 KW.out NZ.out.2.1, owns_nz O5.out.2.2.1 KW.out NZ.out.2.2.1, owns_nz O5.out.2.2.2.1 KW.out NZ.out.2.2.2.1, owns_nz O5.out.2.2.2.2 KW.out NZ.out.2.2.2.2⟩
    clear X5 R5 B5 O5 NZ KW
    refine sched_value rfl .nilIface s2 (by go_simp) (by go_simp) trivial ?_
    go_simp
    unfold wpSched
    go_upto_region 5 with fail
    refine wp_region_two [(true, 1), (false, 0), (false, 2), (true, 3)] [(true, 4), (true, 5), (false, 6), (false, 7)] (fun V => Wx V z (.int .i64 S2.turn) (.int .i64 S2.next) (.int .i64 S2.wide) (.int .i64 S2.high) (.slice m21 8 n21) (.slice m22 8 n22) (.slice m23 2 n23) (.slice m24 2 n24) (.slice m25 0 n25)) (by kernel_rfl) (by kernel_rfl) (by kernel_rfl) (by decide +kernel) (by decide +kernel) XA2.out.drew ?_
    have X1 : Hid (Wx { s2 with drawn := s2.drawn + 1 } z (.int .i64 S2.turn) (.int .i64 S2.next) (.int .i64 S2.wide) (.int .i64 S2.high) (.slice m21 8 n21) (.slice m22 8 n22) (.slice m23 2 n23) (.slice m24 2 n24) (.slice m25 0 n25)) := XA2.out
    have R1 : Hid (Wx { s2 with drawn := s2.drawn + 1 } w.heap.size (.int .i64 0) (.int .i64 0) (.int .i64 0) (.int .i64 0) (.slice none 0 0) (.slice none 0 0) (.slice none 0 0) (.slice none 0 0) (.slice none 0 0)) := RA2.out
    have B1 : Hid (Below w.heap.size w { s2 with drawn := s2.drawn + 1 }) := BA2.out.drew
    have D1 : Hid (Below s2.heap.size s2 { s2 with drawn := s2.drawn + 1 }) := (Below.refl _ _).drew
    generalize ({ s2 with drawn := s2.drawn + 1 } : World) = v3 at *
    have L1 : Hid (Wl v3 (.agg #[.int .i64 S2.turn, .int .i64 S2.next, .int .i64 S2.wide, .int .i64 S2.high, .slice m21 8 n21, .slice m22 8 n22, .slice m23 2 n23, .slice m24 2 n24, .slice m25 0 n25]) S2) := ⟨_, _, _, _, _, rfl, (OA2.out.1.below D1.out).ro, (OA2.out.2.1.below D1.out).ro, (OA2.out.2.2.1.below D1.out).ro, (OA2.out.2.2.2.1.below D1.out).l, (OA2.out.2.2.2.2.below D1.out).l⟩
    clear XA2 RA2 BA2 OA2 D1
    refine headT_read rfl (.agg #[.int .i64 S2.turn, .int .i64 S2.next, .int .i64 S2.wide, .int .i64 S2.high, .slice m21 8 n21, .slice m22 8 n22, .slice m23 2 n23, .slice m24 2 n24, .slice m25 0 n25]) (by go_simp) (fun V hV => by obtain ⟨x0, x1, x2, x3, x4, x5, x6, x7, x8⟩ := hV.cells; go_simp) ?_
    go_simp
    refine headT_call rfl 6 #[] (by go_simp) (by go_simp) ?_
    refine (sorts_any v3).mono ?_
    rintro e v4 ⟨ku, rfl, hk, hb⟩
    have K4 : Hid (Kl v4 ku SK) := hk
    have X4 : Hid (Wx v4 z (.int .i64 S2.turn) (.int .i64 S2.next) (.int .i64 S2.wide) (.int .i64 S2.high) (.slice m21 8 n21) (.slice m22 8 n22) (.slice m23 2 n23) (.slice m24 2 n24) (.slice m25 0 n25)) := X1.out.below hb X1.out.lt
    have R4 : Hid (Wx v4 w.heap.size (.int .i64 0) (.int .i64 0) (.int .i64 0) (.int .i64 0) (.slice none 0 0) (.slice none 0 0) (.slice none 0 0) (.slice none 0 0) (.slice none 0 0)) := R1.out.below hb R1.out.lt
    have B4 : Hid (Below w.heap.size w v4) := B1.out.trans (hb.mono B1.out.size)
    have L4 : Hid (Wl v4 (.agg #[.int .i64 S2.turn, .int .i64 S2.next, .int .i64 S2.wide, .int .i64 S2.high, .slice m21 8 n21, .slice m22 8 n22, .slice m23 2 n23, .slice m24 2 n24, .slice m25 0 n25]) S2) := L1.out.below hb
    clear hk hb X1 R1 B1 L1
    refine ⟨_, rfl, X4.out, ?_⟩
    go_simp
    refine headT_call rfl 11 #[ku, .agg #[.int .i64 S2.turn, .int .i64 S2.next, .int .i64 S2.wide, .int .i64 S2.high, .slice m21 8 n21, .slice m22 8 n22, .slice m23 2 n23, .slice m24 2 n24, .slice m25 0 n25], .int .i64 1, .int .i64 2, .int .i64 3] (by go_simp) (by go_simp) ?_
    refine (place_any ku _ SK S2 1 2 3 v4 K4.out sm_names L4.out).mono ?_
    rintro e v5 ⟨u, r, rfl, hr, ho, hb⟩
    rw [sm_f3] at hr
    rw [sm_3] at ho
    obtain rfl := er_zero hr
    have X5 : Hid (Wx v5 z (.int .i64 S2.turn) (.int .i64 S2.next) (.int .i64 S2.wide) (.int .i64 S2.high) (.slice m21 8 n21) (.slice m22 8 n22) (.slice m23 2 n23) (.slice m24 2 n24) (.slice m25 0 n25)) := X4.out.below hb X4.out.lt
    have R5 : Hid (Wx v5 w.heap.size (.int .i64 0) (.int .i64 0) (.int .i64 0) (.int .i64 0) (.slice none 0 0) (.slice none 0 0) (.slice none 0 0) (.slice none 0 0) (.slice none 0 0)) := R4.out.below hb R4.out.lt
    have B5 : Hid (Below w.heap.size w v5) := B4.out.trans (hb.mono B4.out.size)
    have ZL : Hid (z < v4.heap.size) := X4.out.lt
    obtain ⟨y1, y2, y3, y4, y5, rfl, o1, o2, o3, o4, o5⟩ := ho
    obtain ⟨m31, n31, rfl⟩ := o1.len
    obtain ⟨m32, n32, rfl⟩ := o2.len
    obtain ⟨m33, n33, rfl⟩ := o3.len
    obtain ⟨m34, n34, rfl⟩ := o4.len
    obtain ⟨m35, n35, rfl⟩ := o5.len
    obtain ⟨g1, g2, g3, g4, g5, g6, g7, g8, g9⟩ := s3_eqs
    simp only [g5] at o1
    simp only [g6] at o2
    simp only [g7] at o3
    simp only [g8] at o4
    simp only [g9] at o5
    simp only [g1, g2, g3, g4, g5, g6, g7, g8, g9]
    clear g1 g2 g3 g4 g5 g6 g7 g8 g9
    have NZ : Hid (Nz z (.slice m31 8 n31) ∧ Nz z (.slice m32 8 n32) ∧ Nz z (.slice m33 2 n33) ∧ Nz z (.slice m34 3 n34) ∧ Nz z (.slice m35 0 n35)) := ⟨fun b hb => by have := (o1.block b hb).1; have := ZL.out; omega, fun b hb => by have := (o2.block b hb).1; have := ZL.out; omega, fun b hb => by have := (o3.block b hb).1; have := ZL.out; omega, fun b hb => by have := (o4.block b hb).1; have := ZL.out; omega, fun b hb => by have := (o5.block b hb).1; have := ZL.out; omega⟩
    have O5 : Hid (Ow v5 (w.heap.size + 1) (.slice m31 8 n31) S3.gs ∧ Ow v5 (w.heap.size + 1) (.slice m32 8 n32) S3.os ∧ Ow v5 (w.heap.size + 1) (.slice m33 2 n33) S3.gold ∧ Uno v5 (w.heap.size + 1) (.slice m34 3 n34) S3.us ∧ Jbo v5 (w.heap.size + 1) (.slice m35 0 n35) S3.qs) := ⟨o1.mono R4.out.lt, o2.mono R4.out.lt, o3.mono R4.out.lt, o4.mono R4.out.lt, o5.mono R4.out.lt⟩
    clear hr hb o1 o2 o3 o4 o5 K4 X4 R4 B4 L4 ZL
    refine ⟨_, rfl, X5.out, ?_⟩
    go_simp
    refine headT_read rfl (.tuple #[.agg #[.int .i64 0, .int .i64 4, .int .i64 4, .int .i64 2, .slice m31 8 n31, .slice m32 8 n32, .slice m33 2 n33, .slice m34 3 n34, .slice m35 0 n35], .nilIface]) (by go_simp) (fun V hV => by go_simp) ?_
    go_simp
    unfold wpHeadT
    have KW : Hid (Kp z v5 (((((((((v5.setCell ⟨z, 0, none⟩ (.int .i64 0)).setCell ⟨z, 1, none⟩ (.int .i64 4)).setCell ⟨z, 2, none⟩ (.int .i64 4)).setCell ⟨z, 3, none⟩ (.int .i64 2)).setCell ⟨z, 4, none⟩ (.slice m31 8 n31)).setCell ⟨z, 5, none⟩ (.slice m32 8 n32)).setCell ⟨z, 6, none⟩ (.slice m33 2 n33)).setCell ⟨z, 7, none⟩ (.slice m34 3 n34)).setCell ⟨z, 8, none⟩ (.slice m35 0 n35))) := put_kp _ _ _ _ _ _ _ _ _ _ _
    have XA3 : Hid (Wx (((((((((v5.setCell ⟨z, 0, none⟩ (.int .i64 0)).setCell ⟨z, 1, none⟩ (.int .i64 4)).setCell ⟨z, 2, none⟩ (.int .i64 4)).setCell ⟨z, 3, none⟩ (.int .i64 2)).setCell ⟨z, 4, none⟩ (.slice m31 8 n31)).setCell ⟨z, 5, none⟩ (.slice m32 8 n32)).setCell ⟨z, 6, none⟩ (.slice m33 2 n33)).setCell ⟨z, 7, none⟩ (.slice m34 3 n34)).setCell ⟨z, 8, none⟩ (.slice m35 0 n35)) z (.int .i64 0) (.int .i64 4) (.int .i64 4) (.int .i64 2) (.slice m31 8 n31) (.slice m32 8 n32) (.slice m33 2 n33) (.slice m34 3 n34) (.slice m35 0 n35)) := X5.out.put (.int .i64 0) (.int .i64 4) (.int .i64 4) (.int .i64 2) (.slice m31 8 n31) (.slice m32 8 n32) (.slice m33 2 n33) (.slice m34 3 n34) (.slice m35 0 n35)
    obtain ⟨x0, x1, x2, x3, x4, x5, x6, x7, x8⟩ := X5.out.cells
    obtain ⟨t0, t1, t2, t3, t4, t5, t6, t7, t8⟩ := X5.out.thaws
    refine sched_read rfl (.agg #[.int .i64 0, .int .i64 4, .int .i64 4, .int .i64 2, .slice m31 8 n31, .slice m32 8 n32, .slice m33 2 n33, .slice m34 3 n34, .slice m35 0 n35]) (by go_simp) (fun V hV => by go_simp) ?_
    go_simp
    refine sched_read rfl .nilIface (by go_simp) (fun V hV => by go_simp) ?_
    go_simp
    refine sched_skip rfl (((((((((v5.setCell ⟨z, 0, none⟩ (.int .i64 0)).setCell ⟨z, 1, none⟩ (.int .i64 4)).setCell ⟨z, 2, none⟩ (.int .i64 4)).setCell ⟨z, 3, none⟩ (.int .i64 2)).setCell ⟨z, 4, none⟩ (.slice m31 8 n31)).setCell ⟨z, 5, none⟩ (.slice m32 8 n32)).setCell ⟨z, 6, none⟩ (.slice m33 2 n33)).setCell ⟨z, 7, none⟩ (.slice m34 3 n34)).setCell ⟨z, 8, none⟩ (.slice m35 0 n35)) (by go_simp) (by go_simp) trivial ?_
    go_simp
    clear x0 x1 x2 x3 x4 x5 x6 x7 x8 t0 t1 t2 t3 t4 t5 t6 t7 t8
    generalize (((((((((v5.setCell ⟨z, 0, none⟩ (.int .i64 0)).setCell ⟨z, 1, none⟩ (.int .i64 4)).setCell ⟨z, 2, none⟩ (.int .i64 4)).setCell ⟨z, 3, none⟩ (.int .i64 2)).setCell ⟨z, 4, none⟩ (.slice m31 8 n31)).setCell ⟨z, 5, none⟩ (.slice m32 8 n32)).setCell ⟨z, 6, none⟩ (.slice m33 2 n33)).setCell ⟨z, 7, none⟩ (.slice m34 3 n34)).setCell ⟨z, 8, none⟩ (.slice m35 0 n35)) = s3 at *
    have BA3 : Hid (Below w.heap.size w s3) := KW.out.below B5.out B5.out.size (Nat.le_of_lt HZ.out)
    have RA3 : Hid (Wx s3 w.heap.size (.int .i64 0) (.int .i64 0) (.int .i64 0) (.int .i64 0) (.slice none 0 0) (.slice none 0 0) (.slice none 0 0) (.slice none 0 0) (.slice none 0 0)) := R5.out.kp KW.out (Nat.ne_of_lt HZ.out)
    have OA3 : Hid (Ow s3 (w.heap.size + 1) (.slice m31 8 n31) S3.gs ∧ Ow s3 (w.heap.size + 1) (.slice m32 8 n32) S3.os ∧ Ow s3 (w.heap.size + 1) (.slice m33 2 n33) S3.gold ∧ Uno s3 (w.heap.size + 1) (.slice m34 3 n34) S3.us ∧ Jbo s3 (w.heap.size + 1) (.slice m35 0 n35) S3.qs) := ⟨owns_nz O5.out.1 KW.out NZ.out.1, owns_nz O5.out.2.1 KW.out NZ.out.2.1, owns_nz O5.out.2.2.1 KW.out NZ.out.2.2.1, owns_nz O5.out.2.2.2.1 KW.out NZ.out.2.2.2.1, owns_nz O5.out.2.2.2.2 KW.out NZ.out.2.2.2.2⟩
    clear X5 R5 B5 O5 NZ KW
    refine sched_value rfl .nilIface s3 (by go_simp) (by go_simp) trivial ?_
    go_simp
    unfold wpSched
    go_upto_region 6 with fail
    refine wp_region_two [(true, 0), (true, 1), (true, 2), (true, 3), (true, 4), (true, 5), (true, 6), (true, 7), (true, 8), (true, 9), (true, 10), (true, 11), (true, 12), (true, 13), (true, 14), (true, 15), (true, 16), (true, 17), (true, 18), (true, 19), (true, 20), (true, 21), (true, 22), (true, 23), (true, 24), (true, 25), (true, 26), (true, 27), (true, 28), (true, 29), (true, 30), (false, 31)] [(false, 32)] (fun V => Wx V z (.int .i64 0) (.int .i64 4) (.int .i64 4) (.int .i64 2) (.slice m31 8 n31) (.slice m32 8 n32) (.slice m33 2 n33) (.slice m34 3 n34) (.slice m35 0 n35)) (by kernel_rfl) (by kernel_rfl) (by kernel_rfl) (by decide +kernel) (by decide +kernel) XA3.out.drew ?_
    have X1 : Hid (Wx { s3 with drawn := s3.drawn + 1 } z (.int .i64 0) (.int .i64 4) (.int .i64 4) (.int .i64 2) (.slice m31 8 n31) (.slice m32 8 n32) (.slice m33 2 n33) (.slice m34 3 n34) (.slice m35 0 n35)) := XA3.out
    have R1 : Hid (Wx { s3 with drawn := s3.drawn + 1 } w.heap.size (.int .i64 0) (.int .i64 0) (.int .i64 0) (.int .i64 0) (.slice none 0 0) (.slice none 0 0) (.slice none 0 0) (.slice none 0 0) (.slice none 0 0)) := RA3.out
    have B1 : Hid (Below w.heap.size w { s3 with drawn := s3.drawn + 1 }) := BA3.out.drew
    have D1 : Hid (Below s3.heap.size s3 { s3 with drawn := s3.drawn + 1 }) := (Below.refl _ _).drew
    generalize ({ s3 with drawn := s3.drawn + 1 } : World) = v3 at *
    have O1 : Hid (Ow v3 (w.heap.size + 1) (.slice m31 8 n31) S3.gs ∧ Ow v3 (w.heap.size + 1) (.slice m32 8 n32) S3.os ∧ Ow v3 (w.heap.size + 1) (.slice m33 2 n33) S3.gold ∧ Uno v3 (w.heap.size + 1) (.slice m34 3 n34) S3.us ∧ Jbo v3 (w.heap.size + 1) (.slice m35 0 n35) S3.qs) := ⟨OA3.out.1.below D1.out, OA3.out.2.1.below D1.out, OA3.out.2.2.1.below D1.out, OA3.out.2.2.2.1.below D1.out, OA3.out.2.2.2.2.below D1.out⟩
    clear XA3 RA3 BA3 OA3 D1
    refine headT_read rfl (.agg #[.int .i64 0, .int .i64 4, .int .i64 4, .int .i64 2, .slice m31 8 n31, .slice m32 8 n32, .slice m33 2 n33, .slice m34 3 n34, .slice m35 0 n35]) (by go_simp) (fun V hV => by obtain ⟨x0, x1, x2, x3, x4, x5, x6, x7, x8⟩ := hV.cells; go_simp) ?_
    go_simp
    refine headT_read rfl (.nilIface) (by go_simp) (fun V hV => by go_simp) ?_
    go_simp
    refine headT_read rfl (.bool true) (by go_simp) (fun V hV => by go_simp) ?_
    go_simp
    refine headT_read rfl (.bool true) (by go_simp) (fun V hV => by go_simp) ?_
    go_simp
    refine headT_read rfl (.nilIface) (by go_simp) (fun V hV => by go_simp) ?_
    go_simp
    refine headT_read rfl (.bool true) (by go_simp) (fun V hV => by go_simp) ?_
    go_simp
    refine headT_read rfl (.bool true) (by go_simp) (fun V hV => by go_simp) ?_
    go_simp
    refine headT_read rfl (.bool true) (by go_simp) (fun V hV => by go_simp) ?_
    go_simp
    refine headT_read rfl (.nilIface) (by go_simp) (fun V hV => by go_simp) ?_
    go_simp
    refine headT_read rfl (.bool true) (by go_simp) (fun V hV => by go_simp) ?_
    go_simp
    refine headT_read rfl (.bool true) (by go_simp) (fun V hV => by go_simp) ?_
    go_simp
    refine headT_read rfl (.bool true) (by go_simp) (fun V hV => by go_simp) ?_
    go_simp
    refine headT_read rfl (.nilIface) (by go_simp) (fun V hV => by go_simp) ?_
    go_simp
    refine headT_read rfl (.bool true) (by go_simp) (fun V hV => by go_simp) ?_
    go_simp
    refine headT_read rfl (.bool true) (by go_simp) (fun V hV => by go_simp) ?_
    go_simp
    refine headT_read rfl (.bool true) (by go_simp) (fun V hV => by go_simp) ?_
    go_simp
    refine headT_read rfl (.nilIface) (by go_simp) (fun V hV => by go_simp) ?_
    go_simp
    refine headT_read rfl (.bool true) (by go_simp) (fun V hV => by go_simp) ?_
    go_simp
    refine headT_read rfl (.bool true) (by go_simp) (fun V hV => by go_simp) ?_
    go_simp
    refine headT_read rfl (.bool true) (by go_simp) (fun V hV => by go_simp) ?_
    go_simp
    refine headT_read rfl (.pointer (some ⟨z, 7, none⟩)) (by go_simp) (fun V hV => by go_simp) ?_
    go_simp
    refine headT_read rfl (.slice m34 3 n34) (by go_simp) (fun V hV => by obtain ⟨x0, x1, x2, x3, x4, x5, x6, x7, x8⟩ := hV.cells; go_simp) ?_
    go_simp
    refine headT_read rfl (.int .i64 3) (by go_simp) (fun V hV => by go_simp) ?_
    go_simp
    refine headT_read rfl (.bool true) (by go_simp) (fun V hV => by go_simp) ?_
    go_simp
    refine headT_read rfl (.bool true) (by go_simp) (fun V hV => by go_simp) ?_
    go_simp
    refine headT_read rfl (.bool true) (by go_simp) (fun V hV => by go_simp) ?_
    go_simp
    refine headT_read rfl (.pointer (some ⟨z, 6, none⟩)) (by go_simp) (fun V hV => by go_simp) ?_
    go_simp
    refine headT_read rfl (.slice m33 2 n33) (by go_simp) (fun V hV => by obtain ⟨x0, x1, x2, x3, x4, x5, x6, x7, x8⟩ := hV.cells; go_simp) ?_
    go_simp
    refine headT_read rfl (.int .i64 2) (by go_simp) (fun V hV => by go_simp) ?_
    go_simp
    refine headT_read rfl (.bool true) (by go_simp) (fun V hV => by go_simp) ?_
    go_simp
    refine headT_read rfl (.bool true) (by go_simp) (fun V hV => by go_simp) ?_
    go_simp
    have KW : Hid (Kp w.heap.size v3 (((((((((v3.setCell ⟨w.heap.size, 0, none⟩ (.int .i64 0)).setCell ⟨w.heap.size, 1, none⟩ (.int .i64 4)).setCell ⟨w.heap.size, 2, none⟩ (.int .i64 4)).setCell ⟨w.heap.size, 3, none⟩ (.int .i64 2)).setCell ⟨w.heap.size, 4, none⟩ (.slice m31 8 n31)).setCell ⟨w.heap.size, 5, none⟩ (.slice m32 8 n32)).setCell ⟨w.heap.size, 6, none⟩ (.slice m33 2 n33)).setCell ⟨w.heap.size, 7, none⟩ (.slice m34 3 n34)).setCell ⟨w.heap.size, 8, none⟩ (.slice m35 0 n35))) := put_kp _ _ _ _ _ _ _ _ _ _ _
    have XF : Hid (Wx (((((((((v3.setCell ⟨w.heap.size, 0, none⟩ (.int .i64 0)).setCell ⟨w.heap.size, 1, none⟩ (.int .i64 4)).setCell ⟨w.heap.size, 2, none⟩ (.int .i64 4)).setCell ⟨w.heap.size, 3, none⟩ (.int .i64 2)).setCell ⟨w.heap.size, 4, none⟩ (.slice m31 8 n31)).setCell ⟨w.heap.size, 5, none⟩ (.slice m32 8 n32)).setCell ⟨w.heap.size, 6, none⟩ (.slice m33 2 n33)).setCell ⟨w.heap.size, 7, none⟩ (.slice m34 3 n34)).setCell ⟨w.heap.size, 8, none⟩ (.slice m35 0 n35)) w.heap.size (.int .i64 0) (.int .i64 4) (.int .i64 4) (.int .i64 2) (.slice m31 8 n31) (.slice m32 8 n32) (.slice m33 2 n33) (.slice m34 3 n34) (.slice m35 0 n35)) := R1.out.put (.int .i64 0) (.int .i64 4) (.int .i64 4) (.int .i64 2) (.slice m31 8 n31) (.slice m32 8 n32) (.slice m33 2 n33) (.slice m34 3 n34) (.slice m35 0 n35)
    obtain ⟨x0, x1, x2, x3, x4, x5, x6, x7, x8⟩ := R1.out.cells
    obtain ⟨t0, t1, t2, t3, t4, t5, t6, t7, t8⟩ := R1.out.thaws
    refine headT_skip rfl (((((((((v3.setCell ⟨w.heap.size, 0, none⟩ (.int .i64 0)).setCell ⟨w.heap.size, 1, none⟩ (.int .i64 4)).setCell ⟨w.heap.size, 2, none⟩ (.int .i64 4)).setCell ⟨w.heap.size, 3, none⟩ (.int .i64 2)).setCell ⟨w.heap.size, 4, none⟩ (.slice m31 8 n31)).setCell ⟨w.heap.size, 5, none⟩ (.slice m32 8 n32)).setCell ⟨w.heap.size, 6, none⟩ (.slice m33 2 n33)).setCell ⟨w.heap.size, 7, none⟩ (.slice m34 3 n34)).setCell ⟨w.heap.size, 8, none⟩ (.slice m35 0 n35)) (by go_simp) (by go_simp) (X1.out.kp KW.out (Nat.ne_of_gt HZ.out)) ?_
    go_simp
    clear x0 x1 x2 x3 x4 x5 x6 x7 x8 t0 t1 t2 t3 t4 t5 t6 t7 t8
    generalize (((((((((v3.setCell ⟨w.heap.size, 0, none⟩ (.int .i64 0)).setCell ⟨w.heap.size, 1, none⟩ (.int .i64 4)).setCell ⟨w.heap.size, 2, none⟩ (.int .i64 4)).setCell ⟨w.heap.size, 3, none⟩ (.int .i64 2)).setCell ⟨w.heap.size, 4, none⟩ (.slice m31 8 n31)).setCell ⟨w.heap.size, 5, none⟩ (.slice m32 8 n32)).setCell ⟨w.heap.size, 6, none⟩ (.slice m33 2 n33)).setCell ⟨w.heap.size, 7, none⟩ (.slice m34 3 n34)).setCell ⟨w.heap.size, 8, none⟩ (.slice m35 0 n35)) = v4 at *
    unfold wpHeadT
    refine sched_value rfl (.bool true) v4 (by go_simp) (by go_simp) trivial ?_
    go_simp
    unfold wpSched
    obtain ⟨y0, y1, y2, y3, y4, y5, y6, y7, y8⟩ := XF.out.cells
    go_wp2
    refine bodyPost_ret (v := .tuple #[.agg #[.int .i64 0, .int .i64 4, .int .i64 4, .int .i64 2, .slice m31 8 n31, .slice m32 8 n32, .slice m33 2 n33, .slice m34 3 n34, .slice m35 0 n35], .bool true]) (by simp [results, Try.results4, go_sem, y0, y1, y2, y3, y4, y5, y6, y7, y8]) rfl ⟨_, rfl, ⟨_, _, _, _, _, rfl, Ow.mono (owns_kp O1.out.1 KW.out (by omega)) (by omega), Ow.mono (owns_kp O1.out.2.1 KW.out (by omega)) (by omega), Ow.mono (owns_kp O1.out.2.2.1 KW.out (by omega)) (by omega), Uno.mono (owns_kp O1.out.2.2.2.1 KW.out (by omega)) (by omega), Jbo.mono (owns_kp O1.out.2.2.2.2 KW.out (by omega)) (by omega)⟩, KW.out.below B1.out B1.out.size (Nat.le_refl _)⟩
end Go.Proofs.Ytghkchnfcfnejaa

namespace Go.Proofs.Ytghkchnfcfnejaa
open Go.ChangeShapes Go.WideShapes Go.ChangeAt Go.RowKit
set_option linter.unusedVariables false

theorem or_fields : ∃ f0 f1 f2 f3 : Field, Try.prog.underlying 39 = some (.struct #[f0, f1, f2, f3]) ∧
    f0.offset = 0 ∧ f0.type = 3 ∧ f1.offset = 1 ∧ f1.type = 3 ∧ f2.offset = 2 ∧ f2.type = 3 ∧ f3.offset = 3 ∧ f3.type = 3 := ⟨_, _, _, _, Try.underlying39, rfl, rfl, rfl, rfl, rfl, rfl, rfl, rfl⟩

set_option maxRecDepth 100000 in
theorem open_or {H : Type} {enc : TypeId × Value → H} {W : World} {base : Nat} {held : Bool} {fuel : Nat} {cs : List Value} {y : DataW H × List MemPlace} (h : DataW.trod enc Try.prog W base (fun _ => true) held fuel 39 cs = some y) :
    ∃ k : OrV, cs = [.int .i64 k.player, .int .i64 k.unit, .int .i64 k.what, .int .i64 k.arg] ∧ True := by
  obtain ⟨f0, f1, f2, f3, he, o0, t0, o1, t1, o2, t2, o3, t3⟩ := or_fields
  obtain ⟨xs, m, -, -, hlen, hxl, hf⟩ := DataW.trod_struct he h
  have csi : Try.prog.cellsOf 3 = 1 := by kernel_rfl
  have csk : Try.prog.cellsOf 39 = 4 := by kernel_rfl
  rw [csk] at hlen
  match cs, hlen with
  | [v0, v1, v2, v3], _ =>
    have hx : xs.length = 4 := hxl
    match xs, hx with
    | [x0, x1, x2, x3], _ =>
      have g0 := hf 0 f0 rfl
      rw [o0, t0, csi] at g0
      have g1 := hf 1 f1 rfl
      rw [o1, t1, csi] at g1
      have g2 := hf 2 f2 rfl
      rw [o2, t2, csi] at g2
      have g3 := hf 3 f3 rfl
      rw [o3, t3, csi] at g3
      obtain ⟨m0, e0, -, -⟩ := DataW.trod_int Try.underlying3 g0
      obtain ⟨m1, e1, -, -⟩ := DataW.trod_int Try.underlying3 g1
      obtain ⟨m2, e2, -, -⟩ := DataW.trod_int Try.underlying3 g2
      obtain ⟨m3, e3, -, -⟩ := DataW.trod_int Try.underlying3 g3
      simp at e0 e1 e2 e3
      subst e0 e1 e2 e3
      exact ⟨⟨m0, m1, m2, m3⟩, rfl, trivial⟩

theorem open_ors {H : Type} {enc : TypeId × Value → H} {W : World} {base : Nat} {held : Bool} {fuel : Nat} {v : Value} {y : DataW H × List MemPlace} (h : DataW.trod enc Try.prog W base (fun _ => true) held fuel 30 [v] = some y) :
    ∃ ks : List OrV, Orl W v ks ∧ ∀ k ∈ ks, True := by
  have csk : Try.prog.cellsOf 39 = 4 := by kernel_rfl
  rcases Go.Deep.open_slice Try.underlying30 h with ⟨hcs, -⟩ | ⟨a, len, cap, m, q, D, Pl, hcs, hb, hl, hm, hmm, -, hx⟩
  · simp at hcs
    subst hcs
    exact ⟨[], ⟨none, 0, rfl, Nat.le_refl _, by omega, fun h => absurd rfl h⟩, by simp⟩
  · simp at hcs
    subst hcs
    have hlm : len ≤ m := by rw [hmm]; simp; exact hl
    have each : ∀ i, i < len → ∃ k : OrV, Orc W (a.add (i * 4)) k ∧ (True) := by
      intro i hi
      obtain ⟨cs', h1, h2⟩ := hx i (by omega)
      obtain ⟨k, rfl, hk⟩ := open_or h2
      rw [csk] at h1
      obtain ⟨-, -, hcell⟩ := World.cells?_some h1
      refine ⟨k, ?_, hk⟩
      generalize a.add (i * 4) = y at *
      exact ⟨hcell 0 (by decide), hcell 1 (by decide), hcell 2 (by decide), hcell 3 (by decide)⟩
    have inh : Inhabited OrV := ⟨⟨0, 0, 0, 0⟩⟩
    obtain ⟨q, hq⟩ := Go.Deep.choose_lt each
    refine ⟨(List.range len).map q, ⟨some a, cap, by simp, by simpa using hl, by unfold maxLen at hm; omega, fun hn => ⟨a, rfl, ?_, fun i k hk => ?_⟩⟩, ?_⟩
    · have h0 : 0 < len := by
        rcases Nat.eq_zero_or_pos len with h | h
        · subst h; simp at hn
        · exact h
      have := (hq 0 h0).1.lt
      rwa [add_block] at this
    · have hi : i < len := by
        have := (List.getElem?_eq_some_iff.1 hk).1
        simpa using this
      rw [List.getElem?_map, List.getElem?_range hi] at hk
      injection hk with hk
      subst hk
      exact (hq i hi).1
    · intro k hk
      obtain ⟨i, hi, rfl⟩ := List.mem_map.1 hk
      exact (hq i (List.mem_range.1 hi)).2
set_option maxRecDepth 100000 in
theorem ors_in {H : Type} {enc : TypeId × Value → H} {W : World} {base b0 : Nat} {held : Bool} {v : Value} {d : DataW H} {p : List MemPlace} (hv : Value.okWide Try.prog W .any b0 30 v) (h : DataW.Trod enc Try.prog W base (fun _ => true) held 30 v d p) :
    ∃ ks : List OrV, Orl W v ks ∧ ∀ k ∈ ks, True := by
  obtain ⟨a, len, cap, rfl⟩ := okWide_slice Try.underlying30 hv
  obtain ⟨fuel, hf⟩ := h
  exact open_ors hf
end Go.Proofs.Ytghkchnfcfnejaa

namespace Go.Proofs.Ytghkchnfcfnejaa
open Go Go.RowKit
set_option linter.unusedVariables false

inductive Tr where
  | leaf : Tr
  | read : Nat → Tr → Tr
  | one : Nat → Tr → Tr
  | two : Nat → Tr → Nat → Tr → Tr
  | three : Nat → Tr → Nat → Tr → Nat → Tr → Tr
section
variable {P : Program} {ops : Array Oper} {md : Region.Mode} {C : World → Prop} {Q : Exit → Act → World → Prop}
def wpTr (P : Program) (ops : Array Oper) (C : World → Prop) (K : Act → World → Prop) : Tr → Act → World → Prop
  | .leaf, a, W => K a W
  | .read i t, a, W => ∃ o v, ops[i]? = some o ∧ YieldsS P ops C o v a ∧ wpTr P ops C K t (a.put o.dst v) W
  | .one i t, a, W => ∃ o, ops[i]? = some o ∧ StepS P ops C o (wpTr P ops C K t) a W
  | .two i t j u, a, W => (∃ o, ops[i]? = some o ∧ StepS P ops C o (wpTr P ops C K t) a W) ∧ (∃ o, ops[j]? = some o ∧ StepS P ops C o (wpTr P ops C K u) a W)
  | .three i t j u k v, a, W => (∃ o, ops[i]? = some o ∧ StepS P ops C o (wpTr P ops C K t) a W) ∧ (∃ o, ops[j]? = some o ∧ StepS P ops C o (wpTr P ops C K u) a W) ∧ (∃ o, ops[k]? = some o ∧ StepS P ops C o (wpTr P ops C K v) a W)
def trB (md : Region.Mode) (ops : Array Oper) (H0 : Array Bool) : Nat → Tr → Array Bool → Bool
  | 0, .leaf, listed => decide (listed = H0)
  | n + 1, .read i t, listed => (Region.ready md ops listed).contains i && (Region.free md ops listed i && ((waits md ops H0 i || decide (Region.ready md ops (H0.setIfInBounds i false) = [i])) && trB md ops H0 n t (listed.setIfInBounds i true)))
  | n + 1, .one i t, listed => (Region.ready md ops listed).contains i && ((Region.ready md ops listed).all (fun x => decide (x = i)) && trB md ops H0 n t (listed.setIfInBounds i true))
  | n + 1, .two i t j u, listed => (Region.ready md ops listed).contains i && ((Region.ready md ops listed).contains j && ((Region.ready md ops listed).all (fun x => decide (x = i) || decide (x = j)) && (trB md ops H0 n t (listed.setIfInBounds i true) && trB md ops H0 n u (listed.setIfInBounds j true))))
  | n + 1, .three i t j u k v, listed => (Region.ready md ops listed).contains i && ((Region.ready md ops listed).contains j && ((Region.ready md ops listed).contains k && ((Region.ready md ops listed).all (fun x => decide (x = i) || (decide (x = j) || decide (x = k))) && (trB md ops H0 n t (listed.setIfInBounds i true) && (trB md ops H0 n u (listed.setIfInBounds j true) && trB md ops H0 n v (listed.setIfInBounds k true))))))
  | _, _, _ => false
theorem wpAnyT_of_tr {K : Act → World → Prop} {H0 : Array Bool} (hsel : Region.noSelect ops = true) : ∀ (n : Nat) (t : Tr) (listed : Array Bool) (a : Act) (W : World), Clos md ops listed → trB md ops H0 n t listed = true → C W → wpTr P ops C K t a W → wpAnyT P md ops C (fun l a W => l = H0 ∧ K a W) n listed a W
  | 0, .leaf, listed, a, W, inv, hB, hC, h => by
    simp only [trB, decide_eq_true_eq] at hB
    exact ⟨hB, h⟩
  | n + 1, .read i t, listed, a, W, inv, hB, hC, h => by
    simp only [trB, Bool.and_eq_true, Bool.or_eq_true, decide_eq_true_eq] at hB
    obtain ⟨hr, hf, hH, hB⟩ := hB
    obtain ⟨o, v, ho, hy, hk⟩ := h
    have hr' : i ∈ Region.ready md ops listed := by simpa using hr
    exact wpAnyT_first ho (Region.noSelect_spec hsel) hH (fun _ _ _ h => h.1) n listed a W inv (Region.free_spec ho hf) hr' hy hC (wpAnyT_of_tr hsel n t _ _ _ (inv.set hr') hB hC hk)
  | n + 1, .one i t, listed, a, W, inv, hB, hC, h => by
    simp only [trB, Bool.and_eq_true] at hB
    obtain ⟨hr, hall, hB⟩ := hB
    have hr' : i ∈ Region.ready md ops listed := by simpa using hr
    obtain ⟨o, ho, hs⟩ := h
    refine ⟨fun h => (by rw [h] at hr'; cases hr'), fun x hx => ?_⟩
    have hx' := List.all_eq_true.1 hall x hx
    simp only [decide_eq_true_eq] at hx'
    subst hx'
    exact ⟨o, ho, hs.mono fun a' W' hC' hk => wpAnyT_of_tr hsel n t _ _ _ (inv.set hr') hB hC' hk⟩
  | n + 1, .two i t j u, listed, a, W, inv, hB, hC, h => by
    simp only [trB, Bool.and_eq_true] at hB
    obtain ⟨hi, hj, hall, hB1, hB2⟩ := hB
    have hi' : i ∈ Region.ready md ops listed := by simpa using hi
    have hj' : j ∈ Region.ready md ops listed := by simpa using hj
    obtain ⟨⟨o, ho, hs⟩, ⟨o2, ho2, hs2⟩⟩ := h
    refine ⟨fun h => (by rw [h] at hi'; cases hi'), fun x hx => ?_⟩
    have hx' := List.all_eq_true.1 hall x hx
    simp only [Bool.or_eq_true, decide_eq_true_eq] at hx'
    rcases hx' with e | e
    · subst e; exact ⟨o, ho, hs.mono fun a' W' hC' hk => wpAnyT_of_tr hsel n t _ _ _ (inv.set hi') hB1 hC' hk⟩
    · subst e; exact ⟨o2, ho2, hs2.mono fun a' W' hC' hk => wpAnyT_of_tr hsel n u _ _ _ (inv.set hj') hB2 hC' hk⟩
  | n + 1, .three i t j u k v, listed, a, W, inv, hB, hC, h => by
    simp only [trB, Bool.and_eq_true] at hB
    obtain ⟨hi, hj, hk, hall, hB1, hB2, hB3⟩ := hB
    have hi' : i ∈ Region.ready md ops listed := by simpa using hi
    have hj' : j ∈ Region.ready md ops listed := by simpa using hj
    have hk' : k ∈ Region.ready md ops listed := by simpa using hk
    obtain ⟨⟨o, ho, hs⟩, ⟨o2, ho2, hs2⟩, ⟨o3, ho3, hs3⟩⟩ := h
    refine ⟨fun h => (by rw [h] at hi'; cases hi'), fun x hx => ?_⟩
    have hx' := List.all_eq_true.1 hall x hx
    simp only [Bool.or_eq_true, decide_eq_true_eq] at hx'
    rcases hx' with e | e | e
    · subst e; exact ⟨o, ho, hs.mono fun a' W' hC' hk => wpAnyT_of_tr hsel n t _ _ _ (inv.set hi') hB1 hC' hk⟩
    · subst e; exact ⟨o2, ho2, hs2.mono fun a' W' hC' hk => wpAnyT_of_tr hsel n u _ _ _ (inv.set hj') hB2 hC' hk⟩
    · subst e; exact ⟨o3, ho3, hs3.mono fun a' W' hC' hk => wpAnyT_of_tr hsel n v _ _ _ (inv.set hk') hB3 hC' hk⟩
  | 0, .read _ _, _, _, _, _, hB, _, _ => by simp [trB] at hB
  | 0, .one _ _, _, _, _, _, hB, _, _ => by simp [trB] at hB
  | 0, .two _ _ _ _, _, _, _, _, hB, _, _ => by simp [trB] at hB
  | 0, .three _ _ _ _ _ _, _, _, _, _, hB, _, _ => by simp [trB] at hB
  | _ + 1, .leaf, _, _, _, _, hB, _, _ => by simp [trB] at hB
/-- the region: along the tree, in the worlds C; then its tail. s: what the tree holds, in any order. -/
theorem wp_region_tree {id : Nat} {a : Act} {w : World} (T : Tr) (s t : List (Bool × Nat)) (C : World → Prop) (hm : P.follows .mixedOrders = true) (hs : Region.noSelect ops = true) (hl : s.length + t.length = ops.size)
    (hB : trB .any ops (listedBy ops.size s) s.length T (Array.replicate ops.size false) = true)
    (hT : schedB .any ops t (listedBy ops.size s) = true)
    (hC : C { w with drawn := w.drawn + 1 }) (h : wpTr P ops C (wpSched P ops (fun _ => True) Q t) T a { w with drawn := w.drawn + 1 }) : (Code.region id ops true).wp P Q a w := by
  refine wp_region_any hm ?_
  rw [← hl]
  refine wpAny_of_T (g := t.length) (fun listed a W hh => ?_) _ _ _ _ (wpAnyT_of_tr (H0 := listedBy ops.size s) hs s.length T _ a _ (fun j oj _ hj => by rw [getD_replicate_false] at hj; cases hj) (by rw [hl]; exact hB) hC h)
  obtain ⟨rfl, hk⟩ := hh
  exact wpAny_of_S _ _ _ _ (wpAnyS_of_sched hs t _ a W hT trivial hk)
theorem tr_read {K : Act → World → Prop} {i : Nat} {t : Tr} {o : Oper} {a : Act} {W : World} (ho : ops[i]? = some o) (v : Value) (hw : Region.wanted o (yielded ops a.tmps) = true) (hr : ∀ W, C W → (execOp a.eval o).run P W = .ok (.value v) W) (h : wpTr P ops C K t (a.put o.dst v) W) : wpTr P ops C K (.read i t) a W :=
  ⟨o, v, ho, ⟨hw, hr⟩, h⟩
theorem tr_one {K : Act → World → Prop} {i : Nat} {t : Tr} {a : Act} {W : World} (h : ∃ o, ops[i]? = some o ∧ StepS P ops C o (wpTr P ops C K t) a W) : wpTr P ops C K (.one i t) a W := h
theorem tr_two {K : Act → World → Prop} {i j : Nat} {t u : Tr} {a : Act} {W : World} (h : ∃ o, ops[i]? = some o ∧ StepS P ops C o (wpTr P ops C K t) a W) (h2 : ∃ o, ops[j]? = some o ∧ StepS P ops C o (wpTr P ops C K u) a W) : wpTr P ops C K (.two i t j u) a W := ⟨h, h2⟩
theorem tr_three {K : Act → World → Prop} {i j k : Nat} {t u v : Tr} {a : Act} {W : World} (h : ∃ o, ops[i]? = some o ∧ StepS P ops C o (wpTr P ops C K t) a W) (h2 : ∃ o, ops[j]? = some o ∧ StepS P ops C o (wpTr P ops C K u) a W) (h3 : ∃ o, ops[k]? = some o ∧ StepS P ops C o (wpTr P ops C K v) a W) : wpTr P ops C K (.three i t j u k v) a W := ⟨h, h2, h3⟩
theorem st_call {K : Act → World → Prop} {i : Nat} {o : Oper} {a : Act} {W : World} (ho : ops[i]? = some o) (f : FuncId) (args : Array Value) (hw : Region.wanted o (yielded ops a.tmps) = true) (hr : (execOp a.eval o).run P W = .ok (.enter f args) W)
    (hc : Calls P f args W (fun e w' => ∃ v, e = .returned v ∧ C w' ∧ K (a.put o.dst v) w')) : ∃ o, ops[i]? = some o ∧ StepS P ops C o K a W :=
  ⟨o, ho, hw, .inr (.inr ⟨f, args, hr, hc⟩)⟩
theorem st_value {K : Act → World → Prop} {i : Nat} {o : Oper} {a : Act} {W : World} (ho : ops[i]? = some o) (v : Value) (W' : World) (hw : Region.wanted o (yielded ops a.tmps) = true) (hr : (execOp a.eval o).run P W = .ok (.value v) W') (hC : C W') (h : K (a.put o.dst v) W') : ∃ o, ops[i]? = some o ∧ StepS P ops C o K a W :=
  ⟨o, ho, hw, .inl ⟨v, W', hr, hC, h⟩⟩
theorem st_skip {K : Act → World → Prop} {i : Nat} {o : Oper} {a : Act} {W : World} (ho : ops[i]? = some o) (W' : World) (hw : Region.wanted o (yielded ops a.tmps) = true) (hr : (execOp a.eval o).run P W = .ok .skip W') (hC : C W') (h : K (a.put o.dst undef) W') : ∃ o, ops[i]? = some o ∧ StepS P ops C o K a W :=
  ⟨o, ho, hw, .inr (.inl ⟨W', hr, hC, h⟩)⟩
end
end Go.Proofs.Ytghkchnfcfnejaa

namespace Go.Proofs.Ytghkchnfcfnejaa
open Go.RowKit Go.Proofs.Ytghkchnfcfnejaa.So
set_option linter.unusedVariables false

def go1 : OrV := ⟨1, 1, 0, 0⟩
theorem or_lit1 (w : World) : Orl (w.alloc (Obj.cells #[.int .i64 1, .int .i64 1, .int .i64 0, .int .i64 0] 39)) (.slice (some ⟨w.heap.size, 0, none⟩) 1 1) [go1] := by
  refine ⟨_, _, rfl, by decide, by decide, fun _ => ⟨⟨w.heap.size, 0, none⟩, rfl, by simp, fun i k hk => ?_⟩⟩
  have hn := heap_alloc_new w (Obj.cells #[.int .i64 1, .int .i64 1, .int .i64 0, .int .i64 0] 39)
  match i, hk with
  | 0, hk => simp [go1] at hk; subst hk; refine ⟨?_, ?_, ?_, ?_⟩ <;> (simp only [World.cell?, Addr.add_lit, hn]; rfl)
  | i + 1, hk => simp at hk
theorem sg_fault : Od.faults [go1] = 0 := Od.faults_of (by decide) (by intro o ho; simp at ho; subst ho; unfold Od.bad go1; simp only; omega)
theorem s3_right : Wd.wfault SK S3 = 0 := by decide +kernel
theorem sg_zero : gfault SK S3 [go1] = 0 := by unfold gfault; rw [if_pos s3_right]; exact sg_fault
theorem sg_any : S3.us.any (askU go1) = false := by decide +kernel
theorem sg_last {out : List OrV} (h : LastSays [go1] out) : out = [go1] := h.one (lo_last (by simp))
theorem sg_gv : gv SK S3 [go1] 1 = (S3, [0]) := by
  have h : given1 SK S3 go1 = none := by unfold given1; rw [ask_none sg_any]
  exact gv_no (ks := SK) (Y := S3) (out := [go1]) (q := 0) (o := go1) rfl h
/-- what the fact's Give tells. -/
theorem sm_given {w w' : World} {v ur : Value} (h : GivenSays SK S3 [go1] w w' v ur) : ∃ f1 h1 f2 h2 f3 h3 f4 h4 f5 h5 gf cf, v = .agg #[.int .i64 0, .int .i64 4, .int .i64 4, .int .i64 2, .slice f1 8 h1, .slice f2 8 h2, .slice f3 2 h3, .slice f4 3 h4, .slice f5 0 h5] ∧ ur = .slice (some ⟨gf, 0, none⟩) 1 cf ∧ w.heap.size ≤ gf ∧ 1 ≤ cf ∧ w'.cell? ⟨gf, 0, none⟩ = some (.int .i64 0) := by
  rcases h with ⟨h, -⟩ | ⟨-, -, -, out, hl, hw, ho⟩
  · exact absurd sg_zero h
  · obtain rfl := sg_last hl
    rw [show [go1].length = 1 from rfl, sg_gv] at hw ho
    obtain ⟨u1, u2, u3, u4, u5, rfl, o1, o2, o3, o4, o5⟩ := hw
    obtain ⟨f1, h1, e1⟩ := o1.len
    obtain ⟨f2, h2, e2⟩ := o2.len
    obtain ⟨f3, h3, e3⟩ := o3.len
    obtain ⟨f4, h4, e4⟩ := o4.len
    obtain ⟨f5, h5, e5⟩ := o5.len
    rcases ho.bk with ⟨-, h⟩ | ⟨g, cap, rest, e, hg, hl, -, -, hb⟩
    · cases h
    · refine ⟨f1, h1, f2, h2, f3, h3, f4, h4, f5, h5, g, cap, ?_, e, hg, hl, hb.cell rfl⟩
      rw [e1, e2, e3, e4, e5]
      rfl
theorem ro_at {w : World} {a : Option Addr} {n c i : Nat} {xs : List Int} {x : Int} (h : Ro w (.slice a n c) xs) (hx : xs[i]? = some x) : ∃ y, a = some y ∧ w.cell? (y.add i) = some (.int .i64 x) := by
  obtain ⟨a', c', e, -, -, hc⟩ := h
  injection e with e1 e2 e3
  subst e1
  obtain ⟨y, e, -, hy⟩ := hc (by rintro rfl; simp at hx)
  exact ⟨y, e, hy i x hx⟩
/-- what stays while the fact is asked. -/
def Fx (w : World) (X : WV) (s1 s2 s3 s4 s5 : Value) (z : Nat) (u1 u2 u3 u4 u5 : Value) (A : World) : Prop := Below w.heap.size w A ∧ Bw A w.heap.size X s1 s2 s3 s4 s5 ∧ Wx A z (.int .i64 0) (.int .i64 4) (.int .i64 4) (.int .i64 2) u1 u2 u3 u4 u5 ∧ Wl A (.agg #[.int .i64 0, .int .i64 4, .int .i64 4, .int .i64 2, u1, u2, u3, u4, u5]) S3
theorem Fx.below {w : World} {X : WV} {s1 s2 s3 s4 s5 : Value} {z : Nat} {u1 u2 u3 u4 u5 : Value} {A B : World} (h : Fx w X s1 s2 s3 s4 s5 z u1 u2 u3 u4 u5 A) (hb : Below A.heap.size A B) : Fx w X s1 s2 s3 s4 s5 z u1 u2 u3 u4 u5 B :=
  ⟨h.1.trans (hb.mono h.1.size), h.2.1.below hb h.2.1.lt, h.2.2.1.below hb h.2.2.1.lt, h.2.2.2.below hb⟩
end Go.Proofs.Ytghkchnfcfnejaa

namespace Go.Proofs.Ytghkchnfcfnejaa
open Go.RowKit

set_option maxHeartbeats 400000 in
theorem ints_any (u v : Value) (xs ys : List Int) (w : World) (hu : Ro w u xs) (hv : Ro w v ys) :
    Calls Try.prog 20 #[u, v] w fun e w' => e = .returned (.bool (decide (xs = ys))) ∧ ∃ n, w' = w.drewN n := by
  obtain ⟨a, c, rfl, hc1, hc2, ha⟩ := hu
  obtain ⟨b, d, rfl, hd1, hd2, hb⟩ := hv
  have Ha : Hid (Cells w a xs) := ha
  have Hb : Hid (Cells w b ys) := hb
  clear ha hb
  by_cases hl : xs.length = ys.length
  · have Hl : Hid (xs.length = ys.length) := hl
    rw [← hl] at hd1 ⊢
    clear hl
    go_enter Try.func20, Try.ntmps20
    go_wp2_with fail
    go_loopw [5] (fun i W => ∃ (k q : Nat), k ≤ xs.length ∧ i = .int .i64 (k : Nat) ∧ xs.take k = ys.take k ∧ W = w.drewN q) (fun i _ => xs.length - (intOf i).toNat)
    case atStart => exact ⟨0, 0, Nat.zero_le _, rfl, by simp, rfl⟩
    case round =>
      obtain ⟨k, q, hk, rfl, ht, rfl⟩ := hrel
      have Ht : Hid (xs.take k = ys.take k) := ht
      clear ht
      by_cases h0 : k = xs.length
      · subst h0
        go_wp2
        go_ret
        refine ⟨?_, q, rfl⟩
        have e := Ht.out
        rw [List.take_of_length_le (Nat.le_refl _), Hl.out, List.take_of_length_le (Nat.le_refl _)] at e
        simp [e]
      · have hkx : k < xs.length := by omega
        have hky : k < ys.length := by rw [← Hl.out]; exact hkx
        obtain ⟨x, rfl, -, hx⟩ := Ha.out (by intro h; rw [h] at hkx; simp at hkx)
        obtain ⟨y, rfl, -, hy⟩ := Hb.out (by intro h; rw [h] at hky; simp at hky)
        have cx := hx k xs[k] (List.getElem?_eq_getElem hkx)
        have cy := hy k ys[k] (List.getElem?_eq_getElem hky)
        have Te : Hid (xs.take (k + 1) = ys.take (k + 1) ↔ xs[k] = ys[k]) := by
          unfold Hid
          rw [List.take_succ_eq_append_getElem hkx, List.take_succ_eq_append_getElem hky, Ht.out]
          exact ⟨fun h => (List.cons.inj (List.append_cancel_left h)).1, fun h => by rw [h]⟩
        generalize xs[k] = p at *
        generalize ys[k] = r at *
        clear hx hy
        by_cases hpr : p = r
        · subst hpr
          go_wp2
          go_quiet (fail)
          go_wp2
          go_round
          case rel => exact ⟨k + 1, q + nq, by omega, by go_num, by first | exact Te.out.2 rfl | exact Te.out.2 trivial, rfl⟩
          case measure => simp [intOf]; omega
        · go_wp2
          go_quiet (fail)
          go_wp2
          go_ret
          refine ⟨?_, q + nq, by rw [World.drewN_drewN]⟩
          have : xs ≠ ys := fun h => hpr (Te.out.1 (by rw [h]))
          simp [this]
  · go_enter Try.func20, Try.ntmps20
    go_wp2
    go_ret
    refine ⟨?_, 0, rfl⟩
    have : xs ≠ ys := fun h => hl (by rw [h])
    simp [this]
end Go.Proofs.Ytghkchnfcfnejaa

namespace Go.Proofs.Ytghkchnfcfnejaa
open Go.RowKit
set_option linter.unusedVariables false

set_option maxHeartbeats 1000000 in
theorem same_field (u v : Value) (W H : Int) (gs os : List Int) (w : World) (hu : Fl w u W H gs os) (hv : Fl w v W H gs os) :
    Calls Try.prog 19 #[u, v] w fun e w' => e = .returned (.bool true) ∧ Below w.heap.size w w' := by
  obtain ⟨a1, a2, rfl, ha1, ha2⟩ := hu
  obtain ⟨b1, b2, rfl, hb1, hb2⟩ := hv
  have A1 : Hid (Ro w a1 gs) := ha1
  have A2 : Hid (Ro w a2 os) := ha2
  have B1 : Hid (Ro w b1 gs) := hb1
  have B2 : Hid (Ro w b2 os) := hb2
  clear ha1 ha2 hb1 hb2
  go_enter Try.func19, Try.ntmps19
  go_wp2_with fail
  have K0 : Below w.heap.size w ((w.alloc (Obj.cells #[.int .i64 W, .int .i64 H, a1, a2] 25)).alloc (Obj.cells #[.int .i64 W, .int .i64 H, b1, b2] 25)) := ((Below.refl _ _).alloc (Nat.le_refl _) _).alloc (by simp) _
  have X0 := (Bf.mk' (w := w) W H a1 a2 rfl).below ((Below.refl _ _).alloc (Nat.le_refl _) (Obj.cells #[.int .i64 W, .int .i64 H, b1, b2] 25)) (by simp)
  have Y0 := Bf.mk' (w := w.alloc (Obj.cells #[.int .i64 W, .int .i64 H, a1, a2] 25)) (z := w.heap.size + 1) W H b1 b2 (by simp)
  generalize (w.alloc (Obj.cells #[.int .i64 W, .int .i64 H, a1, a2] 25)).alloc (Obj.cells #[.int .i64 W, .int .i64 H, b1, b2] 25) = w0 at *
  refine (ints_any _ _ gs gs _ (A1.out.below K0) (B1.out.below K0)).mono ?_
  rintro e w1 ⟨rfl, q1, hq1⟩
  rw [decide_eq_true rfl]
  have k1 : Below w0.heap.size w0 w1 := by rw [hq1]; exact _root_.Go.below_drewN (Below.refl _ _) _
  have K1 : Below w.heap.size w w1 := K0.trans (k1.mono K0.size)
  have X1 : Hid (Bf w1 w.heap.size W H a1 a2) := X0.below k1 X0.lt
  have Y1 : Hid (Bf w1 (w.heap.size + 1) W H b1 b2) := Y0.below k1 Y0.lt
  clear hq1 k1 X0 Y0 K0
  obtain ⟨x0, x1, x2, x3⟩ := X1.out
  obtain ⟨y0, y1, y2, y3⟩ := Y1.out
  have K1' : Hid (Below w.heap.size w w1) := K1
  clear K1
  go_wp2_with fail
  refine (ints_any _ _ os os _ (A2.out.below K1'.out) (B2.out.below K1'.out)).mono ?_
  rintro e w2 ⟨rfl, q2, hq2⟩
  rw [decide_eq_true rfl]
  have k2 : Below w1.heap.size w1 w2 := by rw [hq2]; exact _root_.Go.below_drewN (Below.refl _ _) _
  have K2 : Hid (Below w.heap.size w w2) := K1'.out.trans (k2.mono K1'.out.size)
  have X2 : Hid (Bf w2 w.heap.size W H a1 a2) := X1.out.below k2 X1.out.lt
  have Y2 : Hid (Bf w2 (w.heap.size + 1) W H b1 b2) := Y1.out.below k2 Y1.out.lt
  clear hq2 k2 x0 x1 x2 x3 y0 y1 y2 y3 X1 Y1 K1'
  obtain ⟨x0, x1, x2, x3⟩ := X2.out
  obtain ⟨y0, y1, y2, y3⟩ := Y2.out
  go_wp2
  go_ret
  exact ⟨rfl, K2⟩
end Go.Proofs.Ytghkchnfcfnejaa

namespace Go.Proofs.Ytghkchnfcfnejaa
open Go.RowKit
set_option linter.unusedVariables false

theorem ints_like (u v : Value) (xs : List Int) (w : World) (hu : Ro w u xs) (hv : Ro w v xs) :
    Calls Try.prog 20 #[u, v] w fun e w' => e = .returned (.bool true) ∧ Below w.heap.size w w' :=
  (ints_any u v xs xs w hu hv).mono fun e w' ⟨h1, q, h2⟩ => ⟨by rw [h1, decide_eq_true rfl], by rw [h2]; exact _root_.Go.below_drewN (Below.refl _ _) _⟩
set_option maxRecDepth 100000 in
set_option maxHeartbeats 4000000 in
theorem worlds_like (u v : Value) (W : WV) (w : World) (hu : Wl w u W) (hv : Wl w v W) :
    Calls Try.prog 8 #[u, v] w fun e w' => e = .returned (.bool true) ∧ Below w.heap.size w w' := by
  obtain ⟨u1, u2, u3, u4, u5, rfl, g1, g2, g3, g4, g5⟩ := hu
  obtain ⟨v1, v2, v3, v4, v5, rfl, k1, k2, k3, k4, k5⟩ := hv
  obtain ⟨a4, c4, rfl, gl4, gc4, ga4⟩ := g4
  obtain ⟨b4, d4, rfl, kl4, kc4, ka4⟩ := k4
  obtain ⟨a5, c5, rfl, gl5, gc5, ga5⟩ := g5
  obtain ⟨b5, d5, rfl, kl5, kc5, ka5⟩ := k5
  have R : Hid (Ro w u1 W.gs ∧ Ro w u2 W.os ∧ Ro w u3 W.gold ∧ Ro w v1 W.gs ∧ Ro w v2 W.os ∧ Ro w v3 W.gold) := ⟨g1, g2, g3, k1, k2, k3⟩
  have GU : Hid (W.us ≠ [] → ∃ x, a4 = some x ∧ x.block < w.heap.size ∧ ∀ (i : Nat) k, W.us[i]? = some k → Unc w (x.add (i * 8)) k) := ga4
  have KU : Hid (W.us ≠ [] → ∃ x, b4 = some x ∧ x.block < w.heap.size ∧ ∀ (i : Nat) k, W.us[i]? = some k → Unc w (x.add (i * 8)) k) := ka4
  have GJ : Hid (W.qs ≠ [] → ∃ x, a5 = some x ∧ x.block < w.heap.size ∧ ∀ (i : Nat) k, W.qs[i]? = some k → Jbc w (x.add (i * 4)) k) := ga5
  have KJ : Hid (W.qs ≠ [] → ∃ x, b5 = some x ∧ x.block < w.heap.size ∧ ∀ (i : Nat) k, W.qs[i]? = some k → Jbc w (x.add (i * 4)) k) := ka5
  have hul : W.us.length ≤ 9223372036854775807 := by omega
  have hql : W.qs.length ≤ 9223372036854775807 := by omega
  clear g1 g2 g3 k1 k2 k3 ga4 ka4 ga5 ka5 gl4 gc4 kl4 kc4 gl5 gc5 kl5 kc5
  go_enter Try.func8, Try.ntmps8
  go_wp2_with fail
  have K0 : Below w.heap.size w ((w.alloc (Obj.cells #[.int .i64 W.turn, .int .i64 W.next, .int .i64 W.wide, .int .i64 W.high, u1, u2, u3, .slice a4 W.us.length c4, .slice a5 W.qs.length c5] 29)).alloc (Obj.cells #[.int .i64 W.turn, .int .i64 W.next, .int .i64 W.wide, .int .i64 W.high, v1, v2, v3, .slice b4 W.us.length d4, .slice b5 W.qs.length d5] 29)) := ((Below.refl _ _).alloc (Nat.le_refl _) _).alloc (by simp) _
  have X0 := (Bw.mk' (w := w) W u1 u2 u3 (.slice a4 W.us.length c4) (.slice a5 W.qs.length c5) rfl).below ((Below.refl _ _).alloc (Nat.le_refl _) (Obj.cells #[.int .i64 W.turn, .int .i64 W.next, .int .i64 W.wide, .int .i64 W.high, v1, v2, v3, .slice b4 W.us.length d4, .slice b5 W.qs.length d5] 29)) (by simp)
  have Y0 := Bw.mk' (w := w.alloc (Obj.cells #[.int .i64 W.turn, .int .i64 W.next, .int .i64 W.wide, .int .i64 W.high, u1, u2, u3, .slice a4 W.us.length c4, .slice a5 W.qs.length c5] 29)) (z := w.heap.size + 1) W v1 v2 v3 (.slice b4 W.us.length d4) (.slice b5 W.qs.length d5) (by simp)
  generalize ((w.alloc (Obj.cells #[.int .i64 W.turn, .int .i64 W.next, .int .i64 W.wide, .int .i64 W.high, u1, u2, u3, .slice a4 W.us.length c4, .slice a5 W.qs.length c5] 29)).alloc (Obj.cells #[.int .i64 W.turn, .int .i64 W.next, .int .i64 W.wide, .int .i64 W.high, v1, v2, v3, .slice b4 W.us.length d4, .slice b5 W.qs.length d5] 29)) = w0 at *
  refine (same_field _ _ W.wide W.high W.gs W.os w0 ⟨_, _, rfl, R.out.1.below K0, R.out.2.1.below K0⟩ ⟨_, _, rfl, R.out.2.2.2.1.below K0, R.out.2.2.2.2.1.below K0⟩).mono ?_
  rintro e w1 ⟨rfl, hb1⟩
  have K1 : Hid (Below w.heap.size w w1) := K0.trans (hb1.mono K0.size)
  have X1 : Hid (Bw w1 w.heap.size W u1 u2 u3 (.slice a4 W.us.length c4) (.slice a5 W.qs.length c5)) := X0.below hb1 X0.lt
  have Y1 : Hid (Bw w1 (w.heap.size + 1) W v1 v2 v3 (.slice b4 W.us.length d4) (.slice b5 W.qs.length d5)) := Y0.below hb1 Y0.lt
  clear K0 X0 Y0 hb1
  obtain ⟨x0, x1, x2, x3, x4, x5, x6, x7, x8⟩ := X1.out
  obtain ⟨y0, y1, y2, y3, y4, y5, y6, y7, y8⟩ := Y1.out
  go_wp2_with fail
  refine (ints_like _ _ W.gold w1 (R.out.2.2.1.below K1.out) (R.out.2.2.2.2.2.below K1.out)).mono ?_
  rintro e w2 ⟨rfl, hb2⟩
  have K2' : Hid (Below w.heap.size w w2) := K1.out.trans (hb2.mono K1.out.size)
  have X2 : Hid (Bw w2 w.heap.size W u1 u2 u3 (.slice a4 W.us.length c4) (.slice a5 W.qs.length c5)) := X1.out.below hb2 X1.out.lt
  have Y2 : Hid (Bw w2 (w.heap.size + 1) W v1 v2 v3 (.slice b4 W.us.length d4) (.slice b5 W.qs.length d5)) := Y1.out.below hb2 Y1.out.lt
  clear hb2 x0 x1 x2 x3 x4 x5 x6 x7 x8 y0 y1 y2 y3 y4 y5 y6 y7 y8 X1 Y1 K1
  obtain ⟨x0, x1, x2, x3, x4, x5, x6, x7, x8⟩ := X2.out
  obtain ⟨y0, y1, y2, y3, y4, y5, y6, y7, y8⟩ := Y2.out
  go_wp2
  clear x0 x1 x2 x3 x4 x5 x6 x7 x8 y0 y1 y2 y3 y4 y5 y6 y7 y8
  go_loopw [7] (fun i W' => ∃ k : Nat, k ≤ W.us.length ∧ i = .int .i64 (k : Nat) ∧ Bw W' w.heap.size W u1 u2 u3 (.slice a4 W.us.length c4) (.slice a5 W.qs.length c5) ∧ Bw W' (w.heap.size + 1) W v1 v2 v3 (.slice b4 W.us.length d4) (.slice b5 W.qs.length d5) ∧ Below w.heap.size w W') (fun i _ => W.us.length - (intOf i).toNat)
  case atStart => exact ⟨0, Nat.zero_le _, rfl, X2.out, Y2.out, K2'.out⟩
  case round =>
    obtain ⟨k, hk, rfl, hX, hY, hB⟩ := hrel
    have XB : Hid (Bw wr w.heap.size W u1 u2 u3 (.slice a4 W.us.length c4) (.slice a5 W.qs.length c5)) := hX
    have YB : Hid (Bw wr (w.heap.size + 1) W v1 v2 v3 (.slice b4 W.us.length d4) (.slice b5 W.qs.length d5)) := hY
    have B : Hid (Below w.heap.size w wr) := hB
    clear hX hY hB X2 Y2 K2'
    by_cases h0 : k = W.us.length
    · subst h0
      have x7 := XB.out.c7
      clear hk
      go_wp2
      clear x7
      go_loopw [8] (fun i W' => ∃ k : Nat, k ≤ W.qs.length ∧ i = .int .i64 (k : Nat) ∧ Bw W' w.heap.size W u1 u2 u3 (.slice a4 W.us.length c4) (.slice a5 W.qs.length c5) ∧ Bw W' (w.heap.size + 1) W v1 v2 v3 (.slice b4 W.us.length d4) (.slice b5 W.qs.length d5) ∧ Below w.heap.size w W') (fun i _ => W.qs.length - (intOf i).toNat)
      case atStart => exact ⟨0, Nat.zero_le _, rfl, XB.out, YB.out, B.out⟩
      case round =>
        obtain ⟨k, hk, rfl, hX, hY, hB⟩ := hrel
        have XB : Hid (Bw wr w.heap.size W u1 u2 u3 (.slice a4 W.us.length c4) (.slice a5 W.qs.length c5)) := hX
        have YB : Hid (Bw wr (w.heap.size + 1) W v1 v2 v3 (.slice b4 W.us.length d4) (.slice b5 W.qs.length d5)) := hY
        have B : Hid (Below w.heap.size w wr) := hB
        clear hX hY hB
        by_cases h0 : k = W.qs.length
        · subst h0
          have x8 := XB.out.c8
          clear hk
          go_wp2
          go_ret
          exact ⟨rfl, B.out⟩
        · have hlt : k < W.qs.length := by omega
          have hlti : ((k : Nat) : Int) < (W.qs.length : Nat) := by omega
          obtain ⟨o, ho⟩ : ∃ o, W.qs[k]? = some o := ⟨_, List.getElem?_eq_getElem hlt⟩
          have hne : W.qs ≠ [] := by intro e; rw [e] at hlt; simp at hlt
          obtain ⟨x, rfl, hx, hxc⟩ := GJ.out hne
          obtain ⟨y, rfl, hy, hyc⟩ := KJ.out hne
          obtain ⟨q0, q1, q2, q3⟩ := (hxc k o ho).below B.out (by rw [add_block]; exact hx)
          obtain ⟨r0, r1, r2, r3⟩ := (hyc k o ho).below B.out (by rw [add_block]; exact hy)
          have x8 := XB.out.c8
          have y8 := YB.out.c8
          clear hxc hyc hne ho hx hy
          go_wp2
          go_quiet (fail)
          go_wp2
          go_round
          case rel => exact ⟨k + 1, by omega, by go_num, XB.out.below (_root_.Go.below_drewN (Below.refl _ _) _) XB.out.lt, YB.out.below (_root_.Go.below_drewN (Below.refl _ _) _) YB.out.lt, _root_.Go.below_drewN B.out _⟩
          case measure => simp [intOf]; omega
    · have hlt : k < W.us.length := by omega
      have hlti : ((k : Nat) : Int) < (W.us.length : Nat) := by omega
      obtain ⟨o, ho⟩ : ∃ o, W.us[k]? = some o := ⟨_, List.getElem?_eq_getElem hlt⟩
      have hne : W.us ≠ [] := by intro e; rw [e] at hlt; simp at hlt
      obtain ⟨x, rfl, hx, hxc⟩ := GU.out hne
      obtain ⟨y, rfl, hy, hyc⟩ := KU.out hne
      obtain ⟨q0, q1, q2, q3, q4, q5, q6, q7⟩ := (hxc k o ho).below B.out (by rw [add_block]; exact hx)
      obtain ⟨r0, r1, r2, r3, r4, r5, r6, r7⟩ := (hyc k o ho).below B.out (by rw [add_block]; exact hy)
      have x7 := XB.out.c7
      have y7 := YB.out.c7
      clear hxc hyc hne ho hx hy
      go_wp2
      go_quiet (fail)
      go_wp2
      go_round
      case rel => exact ⟨k + 1, by omega, by go_num, XB.out.below (_root_.Go.below_drewN (Below.refl _ _) _) XB.out.lt, YB.out.below (_root_.Go.below_drewN (Below.refl _ _) _) YB.out.lt, _root_.Go.below_drewN B.out _⟩
      case measure => simp [intOf]; omega
end Go.Proofs.Ytghkchnfcfnejaa

namespace Go.Proofs.Ytghkchnfcfnejaa
open Go.ChangeShapes Go.WideShapes Go.ChangeAt Go.RowKit
set_option linter.unusedVariables false

theorem in64_of_wf {n : Int} (h : (Lit.int .i64 n).wf = true) : Wd.In64 n := by
  unfold Wd.In64
  simp only [Lit.wf, Bool.and_eq_true, decide_eq_true_eq] at h
  have h1 : IntKind.i64.min = -9223372036854775808 := by decide
  have h2 : IntKind.i64.max = 9223372036854775807 := by decide
  omega
theorem byte_of_wf {n : Int} (h : (Lit.int .u8 n).wf = true) : 0 ≤ n ∧ n < 256 := by
  simp only [Lit.wf, Bool.and_eq_true, decide_eq_true_eq] at h
  have h1 : IntKind.u8.min = 0 := by decide
  have h2 : IntKind.u8.max = 255 := by decide
  omega
theorem bulk_pos {H : Type} : ∀ d : DataW H, 1 ≤ Rows.uptoBulk d
  | .lit (.string bytes) => by simp [Rows.uptoBulk]
  | .lit (.int _ _) => by simp [Rows.uptoBulk]
  | .lit (.bool _) => by simp [Rows.uptoBulk]
  | .lit (.float .f32 _) => by simp [Rows.uptoBulk]
  | .lit (.float .f64 _) => by simp [Rows.uptoBulk]
  | .lit .nil => by simp [Rows.uptoBulk]
  | .nil => by simp [Rows.uptoBulk]
  | .ptr d => by simp [Rows.uptoBulk]
  | .slice _ _ => by simp [Rows.uptoBulk]
  | .agg _ => by simp [Rows.uptoBulk]
  | .iface _ _ => by simp [Rows.uptoBulk]
  | .map _ => by simp [Rows.uptoBulk]
  | .held _ => by simp [Rows.uptoBulk]
theorem bulk_len {H : Type} : ∀ ds : List (DataW H), ds.length ≤ Rows.uptoBulkAll ds
  | [] => by simp
  | d :: ds => by
    have h1 := bulk_pos d
    have h2 := bulk_len ds
    simp only [Rows.uptoBulkAll, List.length_cons]
    omega
theorem bulk_slice {H : Type} (es sp : List (DataW H)) : es.length ≤ Rows.uptoBulk (.slice es sp) := by
  have := bulk_len es
  simp only [Rows.uptoBulk]
  omega

set_option maxRecDepth 100000 in
theorem open_row64 {H : Type} {enc : TypeId × Value → H} {W : World} {base : Nat} {held : Bool} {fuel : Nat} {v : Value} {y : DataW H × List MemPlace} (h : DataW.trod enc Try.prog W base (fun _ => true) held fuel 23 [v] = some y) :
    ∃ zs, Ro W v zs ∧ (∀ n ∈ zs, Wd.In64 n) ∧ zs.length ≤ Rows.uptoBulk y.1 := by
  rcases open_ints Try.underlying23 Try.underlying3 (by kernel_rfl) h with ⟨hcs, rfl⟩ | ⟨x, l, c, zs, hcs, _, hl, hm, hz, rfl, hcell, hwz⟩
  · simp at hcs
    subst hcs
    exact ⟨_, IsRow.ro (.inl ⟨rfl, rfl, rfl, rfl⟩), by simp, by simp⟩
  · simp at hcs
    subst hcs
    refine ⟨_, IsRow.ro (zs := zs) (.inr ⟨_, rfl, hl, hm, by simpa using hz, hcell, hwz⟩), fun n hn => in64_of_wf (hwz n (List.mem_of_mem_take hn)), ?_⟩
    have := bulk_slice (H := H) (lits .i64 (zs.take l)) (lits .i64 (zs.drop l))
    simpa [lits] using this
theorem un_flds : ∃ f0 f1 f2 f3 f4 f5 f6 f7 : Field, Try.prog.underlying 44 = some (.struct #[f0, f1, f2, f3, f4, f5, f6, f7]) ∧ f0.offset = 0 ∧ f0.type = 3 ∧ f1.offset = 1 ∧ f1.type = 3 ∧ f2.offset = 2 ∧ f2.type = 3 ∧ f3.offset = 3 ∧ f3.type = 3 ∧ f4.offset = 4 ∧ f4.type = 3 ∧ f5.offset = 5 ∧ f5.type = 3 ∧ f6.offset = 6 ∧ f6.type = 3 ∧ f7.offset = 7 ∧ f7.type = 3 := ⟨_, _, _, _, _, _, _, _, Try.underlying44, rfl, rfl, rfl, rfl, rfl, rfl, rfl, rfl, rfl, rfl, rfl, rfl, rfl, rfl, rfl, rfl⟩
set_option maxRecDepth 100000 in
theorem open_un64 {H : Type} {enc : TypeId × Value → H} {W : World} {base : Nat} {held : Bool} {fuel : Nat} {cs : List Value} {y : DataW H × List MemPlace} (h : DataW.trod enc Try.prog W base (fun _ => true) held fuel 44 cs = some y) :
    ∃ k : UnV, cs = [.int .i64 k.id, .int .i64 k.player, .int .i64 k.kind, .int .i64 k.at_, .int .i64 k.life, .int .i64 k.load, .int .i64 k.task, .int .i64 k.goal] ∧ ∀ n ∈ Wd.unums k, Wd.In64 n := by
  obtain ⟨f0, f1, f2, f3, f4, f5, f6, f7, he, o0, t0, o1, t1, o2, t2, o3, t3, o4, t4, o5, t5, o6, t6, o7, t7⟩ := un_flds
  obtain ⟨xs, m, -, -, hlen, hxl, hf⟩ := DataW.trod_struct he h
  have csi : Try.prog.cellsOf 3 = 1 := by kernel_rfl
  have csk : Try.prog.cellsOf 44 = 8 := by kernel_rfl
  rw [csk] at hlen
  match cs, hlen with
  | [v0, v1, v2, v3, v4, v5, v6, v7], _ =>
    have hx : xs.length = 8 := hxl
    match xs, hx with
    | [x0, x1, x2, x3, x4, x5, x6, x7], _ =>
      have g0 := hf 0 f0 rfl
      rw [o0, t0, csi] at g0
      have g1 := hf 1 f1 rfl
      rw [o1, t1, csi] at g1
      have g2 := hf 2 f2 rfl
      rw [o2, t2, csi] at g2
      have g3 := hf 3 f3 rfl
      rw [o3, t3, csi] at g3
      have g4 := hf 4 f4 rfl
      rw [o4, t4, csi] at g4
      have g5 := hf 5 f5 rfl
      rw [o5, t5, csi] at g5
      have g6 := hf 6 f6 rfl
      rw [o6, t6, csi] at g6
      have g7 := hf 7 f7 rfl
      rw [o7, t7, csi] at g7
      obtain ⟨m0, e0, -, w0⟩ := DataW.trod_int Try.underlying3 g0
      obtain ⟨m1, e1, -, w1⟩ := DataW.trod_int Try.underlying3 g1
      obtain ⟨m2, e2, -, w2⟩ := DataW.trod_int Try.underlying3 g2
      obtain ⟨m3, e3, -, w3⟩ := DataW.trod_int Try.underlying3 g3
      obtain ⟨m4, e4, -, w4⟩ := DataW.trod_int Try.underlying3 g4
      obtain ⟨m5, e5, -, w5⟩ := DataW.trod_int Try.underlying3 g5
      obtain ⟨m6, e6, -, w6⟩ := DataW.trod_int Try.underlying3 g6
      obtain ⟨m7, e7, -, w7⟩ := DataW.trod_int Try.underlying3 g7
      simp at e0 e1 e2 e3 e4 e5 e6 e7
      subst e0 e1 e2 e3 e4 e5 e6 e7
      refine ⟨⟨m0, m1, m2, m3, m4, m5, m6, m7⟩, rfl, ?_⟩
      intro n hn
      simp only [Wd.unums, List.mem_cons, List.not_mem_nil, or_false] at hn
      rcases hn with rfl | rfl | rfl | rfl | rfl | rfl | rfl | rfl
      · exact in64_of_wf w0
      · exact in64_of_wf w1
      · exact in64_of_wf w2
      · exact in64_of_wf w3
      · exact in64_of_wf w4
      · exact in64_of_wf w5
      · exact in64_of_wf w6
      · exact in64_of_wf w7
theorem open_uns64 {H : Type} {enc : TypeId × Value → H} {W : World} {base : Nat} {held : Bool} {fuel : Nat} {v : Value} {y : DataW H × List MemPlace} (h : DataW.trod enc Try.prog W base (fun _ => true) held fuel 26 [v] = some y) :
    ∃ ks : List UnV, Unl W v ks ∧ (∀ k ∈ ks, ∀ n ∈ Wd.unums k, Wd.In64 n) ∧ ks.length ≤ Rows.uptoBulk y.1 := by
  have csk : Try.prog.cellsOf 44 = 8 := by kernel_rfl
  rcases Go.Deep.open_slice Try.underlying26 h with ⟨hcs, -⟩ | ⟨a, len, cap, m, q, D, Pl, hcs, hb, hl, hm, hmm, rfl, hx⟩
  · simp at hcs
    subst hcs
    exact ⟨[], ⟨none, 0, rfl, Nat.le_refl _, by omega, fun h => absurd rfl h⟩, by simp, by simp⟩
  · simp at hcs
    subst hcs
    have hlm : len ≤ m := by rw [hmm]; simp; exact hl
    have each : ∀ i, i < len → ∃ k : UnV, Unc W (a.add (i * 8)) k ∧ (∀ n ∈ Wd.unums k, Wd.In64 n) := by
      intro i hi
      obtain ⟨cs', h1, h2⟩ := hx i (by omega)
      obtain ⟨k, rfl, hk⟩ := open_un64 h2
      rw [csk] at h1
      obtain ⟨-, -, hcell⟩ := World.cells?_some h1
      refine ⟨k, ?_, hk⟩
      generalize a.add (i * 8) = y at *
      exact ⟨hcell 0 (by decide), hcell 1 (by decide), hcell 2 (by decide), hcell 3 (by decide), hcell 4 (by decide), hcell 5 (by decide), hcell 6 (by decide), hcell 7 (by decide)⟩
    have inh : Inhabited UnV := ⟨⟨0, 0, 0, 0, 0, 0, 0, 0⟩⟩
    obtain ⟨q, hq⟩ := Go.Deep.choose_lt each
    refine ⟨(List.range len).map q, ⟨some a, cap, by simp, by simpa using hl, by unfold maxLen at hm; omega, fun hn => ⟨a, rfl, ?_, fun i k hk => ?_⟩⟩, ?_, ?_⟩
    · have h0 : 0 < len := by
        rcases Nat.eq_zero_or_pos len with h | h
        · subst h; simp at hn
        · exact h
      have := (hq 0 h0).1.lt
      rwa [add_block] at this
    · have hi : i < len := by
        have := (List.getElem?_eq_some_iff.1 hk).1
        simpa using this
      rw [List.getElem?_map, List.getElem?_range hi] at hk
      injection hk with hk
      subst hk
      exact (hq i hi).1
    · intro k hk
      obtain ⟨i, hi, rfl⟩ := List.mem_map.1 hk
      exact (hq i (List.mem_range.1 hi)).2
    · have := bulk_slice ((List.range len).map D) ((List.range (m - len)).map fun j => D (len + j))
      simpa using this
theorem jb_flds : ∃ f0 f1 f2 f3 : Field, Try.prog.underlying 65 = some (.struct #[f0, f1, f2, f3]) ∧ f0.offset = 0 ∧ f0.type = 3 ∧ f1.offset = 1 ∧ f1.type = 3 ∧ f2.offset = 2 ∧ f2.type = 3 ∧ f3.offset = 3 ∧ f3.type = 3 := ⟨_, _, _, _, Try.underlying65, rfl, rfl, rfl, rfl, rfl, rfl, rfl, rfl⟩
set_option maxRecDepth 100000 in
theorem open_jb64 {H : Type} {enc : TypeId × Value → H} {W : World} {base : Nat} {held : Bool} {fuel : Nat} {cs : List Value} {y : DataW H × List MemPlace} (h : DataW.trod enc Try.prog W base (fun _ => true) held fuel 65 cs = some y) :
    ∃ k : JbV, cs = [.int .i64 k.player, .int .i64 k.unit, .int .i64 k.kind, .int .i64 k.left] ∧ ∀ n ∈ Wd.jnums k, Wd.In64 n := by
  obtain ⟨f0, f1, f2, f3, he, o0, t0, o1, t1, o2, t2, o3, t3⟩ := jb_flds
  obtain ⟨xs, m, -, -, hlen, hxl, hf⟩ := DataW.trod_struct he h
  have csi : Try.prog.cellsOf 3 = 1 := by kernel_rfl
  have csk : Try.prog.cellsOf 65 = 4 := by kernel_rfl
  rw [csk] at hlen
  match cs, hlen with
  | [v0, v1, v2, v3], _ =>
    have hx : xs.length = 4 := hxl
    match xs, hx with
    | [x0, x1, x2, x3], _ =>
      have g0 := hf 0 f0 rfl
      rw [o0, t0, csi] at g0
      have g1 := hf 1 f1 rfl
      rw [o1, t1, csi] at g1
      have g2 := hf 2 f2 rfl
      rw [o2, t2, csi] at g2
      have g3 := hf 3 f3 rfl
      rw [o3, t3, csi] at g3
      obtain ⟨m0, e0, -, w0⟩ := DataW.trod_int Try.underlying3 g0
      obtain ⟨m1, e1, -, w1⟩ := DataW.trod_int Try.underlying3 g1
      obtain ⟨m2, e2, -, w2⟩ := DataW.trod_int Try.underlying3 g2
      obtain ⟨m3, e3, -, w3⟩ := DataW.trod_int Try.underlying3 g3
      simp at e0 e1 e2 e3
      subst e0 e1 e2 e3
      refine ⟨⟨m0, m1, m2, m3⟩, rfl, ?_⟩
      intro n hn
      simp only [Wd.jnums, List.mem_cons, List.not_mem_nil, or_false] at hn
      rcases hn with rfl | rfl | rfl | rfl
      · exact in64_of_wf w0
      · exact in64_of_wf w1
      · exact in64_of_wf w2
      · exact in64_of_wf w3
theorem open_jbs64 {H : Type} {enc : TypeId × Value → H} {W : World} {base : Nat} {held : Bool} {fuel : Nat} {v : Value} {y : DataW H × List MemPlace} (h : DataW.trod enc Try.prog W base (fun _ => true) held fuel 27 [v] = some y) :
    ∃ ks : List JbV, Jbl W v ks ∧ (∀ k ∈ ks, ∀ n ∈ Wd.jnums k, Wd.In64 n) ∧ ks.length ≤ Rows.uptoBulk y.1 := by
  have csk : Try.prog.cellsOf 65 = 4 := by kernel_rfl
  rcases Go.Deep.open_slice Try.underlying27 h with ⟨hcs, -⟩ | ⟨a, len, cap, m, q, D, Pl, hcs, hb, hl, hm, hmm, rfl, hx⟩
  · simp at hcs
    subst hcs
    exact ⟨[], ⟨none, 0, rfl, Nat.le_refl _, by omega, fun h => absurd rfl h⟩, by simp, by simp⟩
  · simp at hcs
    subst hcs
    have hlm : len ≤ m := by rw [hmm]; simp; exact hl
    have each : ∀ i, i < len → ∃ k : JbV, Jbc W (a.add (i * 4)) k ∧ (∀ n ∈ Wd.jnums k, Wd.In64 n) := by
      intro i hi
      obtain ⟨cs', h1, h2⟩ := hx i (by omega)
      obtain ⟨k, rfl, hk⟩ := open_jb64 h2
      rw [csk] at h1
      obtain ⟨-, -, hcell⟩ := World.cells?_some h1
      refine ⟨k, ?_, hk⟩
      generalize a.add (i * 4) = y at *
      exact ⟨hcell 0 (by decide), hcell 1 (by decide), hcell 2 (by decide), hcell 3 (by decide)⟩
    have inh : Inhabited JbV := ⟨⟨0, 0, 0, 0⟩⟩
    obtain ⟨q, hq⟩ := Go.Deep.choose_lt each
    refine ⟨(List.range len).map q, ⟨some a, cap, by simp, by simpa using hl, by unfold maxLen at hm; omega, fun hn => ⟨a, rfl, ?_, fun i k hk => ?_⟩⟩, ?_, ?_⟩
    · have h0 : 0 < len := by
        rcases Nat.eq_zero_or_pos len with h | h
        · subst h; simp at hn
        · exact h
      have := (hq 0 h0).1.lt
      rwa [add_block] at this
    · have hi : i < len := by
        have := (List.getElem?_eq_some_iff.1 hk).1
        simpa using this
      rw [List.getElem?_map, List.getElem?_range hi] at hk
      injection hk with hk
      subst hk
      exact (hq i hi).1
    · intro k hk
      obtain ⟨i, hi, rfl⟩ := List.mem_map.1 hk
      exact (hq i (List.mem_range.1 hi)).2
    · have := bulk_slice ((List.range len).map D) ((List.range (m - len)).map fun j => D (len + j))
      simpa using this
theorem world_flds : ∃ f0 f1 f2 f3 f4 f5 : Field, Try.prog.underlying 29 = some (.struct #[f0, f1, f2, f3, f4, f5]) ∧ f0.offset = 0 ∧ f0.type = 3 ∧ f1.offset = 1 ∧ f1.type = 3 ∧ f2.offset = 2 ∧ f2.type = 25 ∧ f3.offset = 6 ∧ f3.type = 23 ∧ f4.offset = 7 ∧ f4.type = 26 ∧ f5.offset = 8 ∧ f5.type = 27 := ⟨_, _, _, _, _, _, Try.underlying29, rfl, rfl, rfl, rfl, rfl, rfl, rfl, rfl, rfl, rfl, rfl, rfl⟩
theorem field_flds : ∃ f0 f1 f2 f3 : Field, Try.prog.underlying 25 = some (.struct #[f0, f1, f2, f3]) ∧ f0.offset = 0 ∧ f0.type = 3 ∧ f1.offset = 1 ∧ f1.type = 3 ∧ f2.offset = 2 ∧ f2.type = 23 ∧ f3.offset = 3 ∧ f3.type = 23 := ⟨_, _, _, _, Try.underlying25, rfl, rfl, rfl, rfl, rfl, rfl, rfl, rfl⟩
theorem ro_len {w : World} {v : Value} {xs : List Int} (h : Ro w v xs) : Wd.In64 (xs.length : Int) := by
  obtain ⟨a, c, -, h1, h2, -⟩ := h
  unfold Wd.In64; omega
set_option maxRecDepth 100000 in
theorem open_world64 {H : Type} {enc : TypeId × Value → H} {W : World} {base : Nat} {held : Bool} {fuel : Nat} {cs : List Value} {y : DataW H × List MemPlace} (h : DataW.trod enc Try.prog W base (fun _ => true) held fuel 29 cs = some y) :
    ∃ X : WV, Wl W (.agg cs.toArray) X ∧ (∀ n ∈ Wd.nums X, Wd.In64 n) ∧ (Rows.uptoBulk y.1 ≤ 1048576 → WSmall X) := by
  obtain ⟨f0, f1, f2, f3, f4, f5, he, o0, t0, o1, t1, o2, t2, o3, t3, o4, t4, o5, t5⟩ := world_flds
  obtain ⟨xs, m, -, rfl, hlen, hxl, hf⟩ := DataW.trod_struct he h
  have csi : Try.prog.cellsOf 3 = 1 := by kernel_rfl
  have csf : Try.prog.cellsOf 25 = 4 := by kernel_rfl
  have csl : Try.prog.cellsOf 23 = 1 := by kernel_rfl
  have csu : Try.prog.cellsOf 26 = 1 := by kernel_rfl
  have csj : Try.prog.cellsOf 27 = 1 := by kernel_rfl
  have csk : Try.prog.cellsOf 29 = 9 := by kernel_rfl
  rw [csk] at hlen
  match cs, hlen with
  | [v0, v1, v2, v3, v4, v5, v6, v7, v8], _ =>
    have hx : xs.length = 6 := hxl
    match xs, hx with
    | [x0, x1, x2, x3, x4, x5], _ =>
      have g0 := hf 0 f0 rfl
      rw [o0, t0, csi] at g0
      have g1 := hf 1 f1 rfl
      rw [o1, t1, csi] at g1
      have g2 := hf 2 f2 rfl
      rw [o2, t2, csf] at g2
      have g3 := hf 3 f3 rfl
      rw [o3, t3, csl] at g3
      have g4 := hf 4 f4 rfl
      rw [o4, t4, csu] at g4
      have g5 := hf 5 f5 rfl
      rw [o5, t5, csj] at g5
      obtain ⟨m0, e0, -, w0⟩ := DataW.trod_int Try.underlying3 g0
      obtain ⟨m1, e1, -, w1⟩ := DataW.trod_int Try.underlying3 g1
      obtain ⟨r0, r1, r2, r3, he', p0, s0, p1, s1, p2, s2, p3, s3⟩ := field_flds
      obtain ⟨ys, m', -, rfl, hlen', hyl, hg⟩ := DataW.trod_struct he' g2
      have hy : ys.length = 4 := hyl
      match ys, hy with
      | [y0, y1, y2, y3], _ =>
        have k0 := hg 0 r0 rfl
        rw [p0, s0, csi] at k0
        have k1 := hg 1 r1 rfl
        rw [p1, s1, csi] at k1
        have k2 := hg 2 r2 rfl
        rw [p2, s2, csl] at k2
        have k3 := hg 3 r3 rfl
        rw [p3, s3, csl] at k3
        obtain ⟨m2, e2, -, w2⟩ := DataW.trod_int Try.underlying3 k0
        obtain ⟨m3, e3, -, w3⟩ := DataW.trod_int Try.underlying3 k1
        simp at e0 e1 e2 e3
        subst e0 e1 e2 e3
        obtain ⟨gs, hgs, igs, bgs⟩ := open_row64 k2
        obtain ⟨os, hos, ios, bos⟩ := open_row64 k3
        obtain ⟨gold, hgold, igold, bgold⟩ := open_row64 g3
        obtain ⟨us, hus, ius, bus⟩ := open_uns64 g4
        obtain ⟨qs, hqs, iqs, bqs⟩ := open_jbs64 g5
        have lu : Wd.In64 (us.length : Int) := by
          obtain ⟨a, c, -, h1, h2, -⟩ := hus
          unfold Wd.In64; omega
        have lq : Wd.In64 (qs.length : Int) := by
          obtain ⟨a, c, -, h1, h2, -⟩ := hqs
          unfold Wd.In64; omega
        refine ⟨⟨m0, m1, m2, m3, gs, os, gold, us, qs⟩, ⟨_, _, _, _, _, rfl, hgs, hos, hgold, hus, hqs⟩, ?_, ?_⟩
        · intro n hn
          simp only [Wd.nums, List.mem_append, List.mem_cons, List.not_mem_nil, or_false, List.mem_flatMap] at hn
          rcases hn with (((((rfl | rfl | rfl | rfl) | (rfl | hn)) | (rfl | hn)) | (rfl | hn)) | (rfl | ⟨u, hu, hn⟩)) | (rfl | ⟨u, hu, hn⟩)
          · exact in64_of_wf w0
          · exact in64_of_wf w1
          · exact in64_of_wf w2
          · exact in64_of_wf w3
          · exact ro_len hgs
          · exact igs _ hn
          · exact ro_len hos
          · exact ios _ hn
          · exact ro_len hgold
          · exact igold _ hn
          · exact lu
          · exact ius u hu n hn
          · exact lq
          · exact iqs u hu n hn
        · intro hb
          simp only [Rows.uptoBulk, Rows.uptoBulkAll, List.map_cons, List.map_nil] at hb
          exact ⟨by simp only; omega, by simp only; omega, by simp only; omega, by simp only; omega, by simp only; omega⟩
set_option maxRecDepth 100000 in
theorem world_in {H : Type} {enc : TypeId × Value → H} {W : World} {base b0 : Nat} {held : Bool} {v : Value} {d : DataW H} {p : List MemPlace} (hv : Value.okWide Try.prog W .any b0 29 v) (h : DataW.Trod enc Try.prog W base (fun _ => true) held 29 v d p) :
    ∃ X : WV, Wl W v X ∧ (∀ n ∈ Wd.nums X, Wd.In64 n) ∧ (Rows.uptoBulk d ≤ 1048576 → WSmall X) := by
  obtain ⟨cs, rfl, hsz⟩ := okWide_struct Try.underlying29 hv
  obtain ⟨fuel, hf⟩ := h
  have := open_world64 hf
  simpa [Value.cells] using this
end Go.Proofs.Ytghkchnfcfnejaa

namespace Go.Proofs.Ytghkchnfcfnejaa
open Go.ChangeShapes Go.WideShapes Go.ChangeAt Go.RowKit
set_option linter.unusedVariables false

theorem kind_fields : ∃ f0 f1 f2 f3 f4 f5 f6 f7 f8 f9 f10 : Field, Try.prog.underlying 53 = some (.struct #[f0, f1, f2, f3, f4, f5, f6, f7, f8, f9, f10]) ∧
    f0.offset = 0 ∧ f0.type = 9 ∧ f1.offset = 1 ∧ f1.type = 3 ∧ f2.offset = 2 ∧ f2.type = 3 ∧ f3.offset = 3 ∧ f3.type = 3 ∧ f4.offset = 4 ∧ f4.type = 3 ∧ f5.offset = 5 ∧ f5.type = 3 ∧ f6.offset = 6 ∧ f6.type = 3 ∧ f7.offset = 7 ∧ f7.type = 3 ∧ f8.offset = 8 ∧ f8.type = 3 ∧ f9.offset = 9 ∧ f9.type = 4 ∧ f10.offset = 10 ∧ f10.type = 4 := ⟨_, _, _, _, _, _, _, _, _, _, _, Try.underlying53, rfl, rfl, rfl, rfl, rfl, rfl, rfl, rfl, rfl, rfl, rfl, rfl, rfl, rfl, rfl, rfl, rfl, rfl, rfl, rfl, rfl, rfl⟩


set_option maxRecDepth 100000 in
theorem open_kind {H : Type} {enc : TypeId × Value → H} {W : World} {base : Nat} {held : Bool} {fuel : Nat} {cs : List Value} {y : DataW H × List MemPlace} (h : DataW.trod enc Try.prog W base (fun _ => true) held fuel 53 cs = some y) :
    ∃ k : KV, cs = [.string k.b, .int .i64 k.n0, .int .i64 k.n1, .int .i64 k.n2, .int .i64 k.n3, .int .i64 k.n4, .int .i64 k.n5, .int .i64 k.n6, .int .i64 k.n7, .bool k.f, .bool k.t] ∧ k.b.size ≤ maxLen := by
  obtain ⟨f0, f1, f2, f3, f4, f5, f6, f7, f8, f9, f10, he, o0, t0, o1, t1, o2, t2, o3, t3, o4, t4, o5, t5, o6, t6, o7, t7, o8, t8, o9, t9, o10, t10⟩ := kind_fields
  obtain ⟨xs, n, -, -, hlen, hxl, hf⟩ := DataW.trod_struct he h
  have cs9 : Try.prog.cellsOf 9 = 1 := by kernel_rfl
  have cs3 : Try.prog.cellsOf 3 = 1 := by kernel_rfl
  have cs4 : Try.prog.cellsOf 4 = 1 := by kernel_rfl
  have csk : Try.prog.cellsOf 53 = 11 := by kernel_rfl
  rw [csk] at hlen
  match cs, hlen with
  | [v0, v1, v2, v3, v4, v5, v6, v7, v8, v9, v10], _ =>
    have hx11 : xs.length = 11 := hxl
    match xs, hx11 with
    | [x0, x1, x2, x3, x4, x5, x6, x7, x8, x9, x10], _ =>
      have g0 := hf 0 f0 rfl
      rw [o0, t0, cs9] at g0
      have g1 := hf 1 f1 rfl
      rw [o1, t1, cs3] at g1
      have g2 := hf 2 f2 rfl
      rw [o2, t2, cs3] at g2
      have g3 := hf 3 f3 rfl
      rw [o3, t3, cs3] at g3
      have g4 := hf 4 f4 rfl
      rw [o4, t4, cs3] at g4
      have g5 := hf 5 f5 rfl
      rw [o5, t5, cs3] at g5
      have g6 := hf 6 f6 rfl
      rw [o6, t6, cs3] at g6
      have g7 := hf 7 f7 rfl
      rw [o7, t7, cs3] at g7
      have g8 := hf 8 f8 rfl
      rw [o8, t8, cs3] at g8
      have g9 := hf 9 f9 rfl
      rw [o9, t9, cs4] at g9
      have g10 := hf 10 f10 rfl
      rw [o10, t10, cs4] at g10
      obtain ⟨b, e0, -, hb⟩ := DataW.trod_string Try.underlying9 g0
      obtain ⟨m1, e1, -, -⟩ := DataW.trod_int Try.underlying3 g1
      obtain ⟨m2, e2, -, -⟩ := DataW.trod_int Try.underlying3 g2
      obtain ⟨m3, e3, -, -⟩ := DataW.trod_int Try.underlying3 g3
      obtain ⟨m4, e4, -, -⟩ := DataW.trod_int Try.underlying3 g4
      obtain ⟨m5, e5, -, -⟩ := DataW.trod_int Try.underlying3 g5
      obtain ⟨m6, e6, -, -⟩ := DataW.trod_int Try.underlying3 g6
      obtain ⟨m7, e7, -, -⟩ := DataW.trod_int Try.underlying3 g7
      obtain ⟨m8, e8, -, -⟩ := DataW.trod_int Try.underlying3 g8
      obtain ⟨bf, e9, -⟩ := DataW.trod_bool Try.underlying4 g9
      obtain ⟨bt, e10, -⟩ := DataW.trod_bool Try.underlying4 g10
      simp at e0 e1 e2 e3 e4 e5 e6 e7 e8 e9 e10
      subst e0 e1 e2 e3 e4 e5 e6 e7 e8 e9 e10
      exact ⟨⟨b, m1, m2, m3, m4, m5, m6, m7, m8, bf, bt⟩, rfl, hb⟩

/-- kinds that came in. -/
theorem open_kinds {H : Type} {enc : TypeId × Value → H} {W : World} {base : Nat} {held : Bool} {fuel : Nat} {v : Value} {y : DataW H × List MemPlace} (h : DataW.trod enc Try.prog W base (fun _ => true) held fuel 22 [v] = some y) :
    ∃ ks : List KV, Kl W v ks ∧ ∀ k ∈ ks, k.b.size ≤ maxLen := by
  have csk : Try.prog.cellsOf 53 = 11 := by kernel_rfl
  rcases Go.Deep.open_slice Try.underlying22 h with ⟨hcs, -⟩ | ⟨a, len, cap, m, n, D, Pl, hcs, hb, hl, hm, hmm, -, hx⟩
  · simp at hcs
    subst hcs
    exact ⟨[], ⟨none, 0, rfl, Nat.le_refl _, by omega, fun h => absurd rfl h⟩, by simp⟩
  · simp at hcs
    subst hcs
    have hlm : len ≤ m := by rw [hmm]; simp; exact hl
    have each : ∀ i, i < len → ∃ k : KV, Kc W (a.add (i * 11)) k ∧ k.b.size ≤ maxLen := by
      intro i hi
      obtain ⟨cs', h1, h2⟩ := hx i (by omega)
      obtain ⟨k, rfl, hk⟩ := open_kind h2
      rw [csk] at h1
      obtain ⟨-, -, hcell⟩ := World.cells?_some h1
      refine ⟨k, ?_, hk⟩
      generalize a.add (i * 11) = y at *
      exact ⟨hcell 0 (by decide), hcell 1 (by decide), hcell 2 (by decide), hcell 3 (by decide), hcell 4 (by decide), hcell 5 (by decide), hcell 6 (by decide), hcell 7 (by decide), hcell 8 (by decide), hcell 9 (by decide), hcell 10 (by decide)⟩
    have inh : Inhabited KV := ⟨⟨ByteArray.empty, 0, 0, 0, 0, 0, 0, 0, 0, false, false⟩⟩
    obtain ⟨q, hq⟩ := Go.Deep.choose_lt each
    refine ⟨(List.range len).map q, ⟨some a, cap, by simp, by simpa using hl, by unfold maxLen at hm; omega, fun hn => ⟨a, rfl, ?_, fun i k hk => ?_⟩⟩, ?_⟩
    · have h0 : 0 < len := by
        rcases Nat.eq_zero_or_pos len with h | h
        · subst h; simp at hn
        · exact h
      have := (hq 0 h0).1.lt
      rwa [add_block] at this
    · have hi : i < len := by
        have := (List.getElem?_eq_some_iff.1 hk).1
        simpa using this
      rw [List.getElem?_map, List.getElem?_range hi] at hk
      injection hk with hk
      subst hk
      exact (hq i hi).1
    · intro k hk
      obtain ⟨i, hi, rfl⟩ := List.mem_map.1 hk
      exact (hq i (List.mem_range.1 hi)).2
set_option maxRecDepth 100000 in
theorem kinds_in {H : Type} {enc : TypeId × Value → H} {W : World} {base b0 : Nat} {held : Bool} {v : Value} {d : DataW H} {p : List MemPlace} (hv : Value.okWide Try.prog W .any b0 22 v) (h : DataW.Trod enc Try.prog W base (fun _ => true) held 22 v d p) :
    ∃ ks : List KV, Kl W v ks ∧ ∀ k ∈ ks, k.b.size ≤ maxLen := by
  obtain ⟨a, len, cap, rfl⟩ := okWide_slice Try.underlying22 hv
  obtain ⟨fuel, hf⟩ := h
  exact open_kinds hf
end Go.Proofs.Ytghkchnfcfnejaa

