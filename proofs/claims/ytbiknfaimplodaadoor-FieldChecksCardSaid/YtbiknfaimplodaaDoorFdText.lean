/- Fields as texts: plain mathematics. -/
import Derived.Test.YtbiknfaimplodaaDoorFdMath
namespace Go.Proofs.YtbiknfaimplodaaDoor.Fd

/-- the sign of a ground. -/
def gsign (g : Int) : UInt8 := if g = 0 then 46 else if g = 1 then 35 else if g = 2 then 126 else 94
/-- the sign of a cell. -/
def sgn (g o : Int) : UInt8 := if o = 0 then gsign g else if o % 10 = 0 ∧ o ≤ 90 then (48 + (o / 10).toNat).toUInt8 else 43
def cellsTo (W : Nat) (gs os : List Int) (r c : Nat) : List UInt8 := (List.range c).map fun j => sgn (gs.getD (r * W + j) 0) (os.getD (r * W + j) 0)
def rowsTo (W : Nat) (gs os : List Int) : Nat → List UInt8
  | 0 => []
  | r + 1 => rowsTo W gs os r ++ (cellsTo W gs os r W ++ [10])
/-- a field as text. -/
def prt (W H : Nat) (gs os : List Int) : List UInt8 := rowsTo W gs os H

theorem cellsTo_succ (W : Nat) (gs os : List Int) (r c : Nat) : cellsTo W gs os r (c + 1) = cellsTo W gs os r c ++ [sgn (gs.getD (r * W + c) 0) (os.getD (r * W + c) 0)] := by
  unfold cellsTo
  rw [List.range_succ, List.map_append]
  rfl
theorem cellsTo_len (W : Nat) (gs os : List Int) (r c : Nat) : (cellsTo W gs os r c).length = c := by
  unfold cellsTo
  simp
theorem rowsTo_len (W : Nat) (gs os : List Int) (r : Nat) : (rowsTo W gs os r).length = r * (W + 1) := by
  induction r with
  | zero => simp [rowsTo]
  | succ r ih =>
    simp only [rowsTo, List.length_append, ih, cellsTo_len, List.length_cons, List.length_nil]
    rw [Nat.add_mul]
    omega

/-- a field as far as its text is read. -/
structure St where
  c : Nat
  W : Nat
  H : Nat
  gs : List Int
  os : List Int
def st0 : St := ⟨0, 0, 0, [], []⟩
/-- what a sign stands for. -/
def meant (b : UInt8) : Option (Int × Int) :=
  if 49 ≤ b.toNat ∧ b.toNat ≤ 57 then some (0, ((b.toNat : Int) - 48) * 10) else if b = 46 then some (0, 0) else if b = 35 then some (1, 0) else if b = 126 then some (2, 0) else if b = 94 then some (3, 0) else none
/-- one byte more. -/
def step (s : St) (b : UInt8) : Int ⊕ St :=
  if b = 10 then (if s.c = 0 ∨ (0 < s.H ∧ s.c ≠ s.W) then .inl 2 else .inr ⟨0, s.c, s.H + 1, s.gs, s.os⟩)
  else match meant b with
    | none => .inl 2
    | some (g, o) => if 0 < s.H ∧ s.c = s.W then .inl 2 else if s.c = 12 ∨ s.H = 12 then .inl 4 else .inr ⟨s.c + 1, s.W, s.H, s.gs ++ [g], s.os ++ [o]⟩
def run : St → Nat → List UInt8 → (Nat × Int) ⊕ St
  | s, _, [] => .inr s
  | s, i, b :: bs => match step s b with
    | .inl e => .inl (i, e)
    | .inr s' => run s' (i + 1) bs
/-- what is wrong, and where; else the field. -/
def parse (l : List UInt8) : (Nat × Int) ⊕ St :=
  match run st0 0 l with
  | .inl x => .inl x
  | .inr s => if 0 < s.c ∨ s.H = 0 then .inl (l.length, 2) else .inr s

theorem run_cons (s : St) (i : Nat) (b : UInt8) (bs : List UInt8) : run s i (b :: bs) = match step s b with | .inl e => .inl (i, e) | .inr s' => run s' (i + 1) bs := rfl
theorem run_append (s : St) (i : Nat) (l m : List UInt8) : run s i (l ++ m) = match run s i l with | .inl x => .inl x | .inr s' => run s' (i + l.length) m := by
  induction l generalizing s i with
  | nil => simp [run]
  | cons b bs ih =>
    rw [List.cons_append, run_cons, run_cons]
    cases step s b with
    | inl e => rfl
    | inr s' =>
      simp only
      rw [ih, List.length_cons, show i + 1 + bs.length = i + (bs.length + 1) by omega]

/-- what may be read. -/
def Tens (g o : Int) : Prop := 0 ≤ g ∧ g ≤ 3 ∧ 0 ≤ o ∧ o ≤ 90 ∧ o % 10 = 0 ∧ (0 < o → g = 0)
theorem meant_sgn {b : UInt8} {g o : Int} (h : meant b = some (g, o)) : sgn g o = b ∧ Tens g o := by
  unfold meant at h
  split at h
  · rename_i hb
    simp only [Option.some.injEq, Prod.mk.injEq] at h
    obtain ⟨rfl, rfl⟩ := h
    have e1 : (((b.toNat : Int) - 48) * 10) / 10 = (b.toNat : Int) - 48 := by omega
    refine ⟨?_, by unfold Tens; omega⟩
    unfold sgn
    rw [if_neg (by omega), if_pos (by omega), e1, show 48 + ((b.toNat : Int) - 48).toNat = b.toNat by omega]
    exact UInt8.ofNat_toNat
  · split at h
    · rename_i hb
      simp only [Option.some.injEq, Prod.mk.injEq] at h
      obtain ⟨rfl, rfl⟩ := h
      exact ⟨by rw [hb]; rfl, by unfold Tens; omega⟩
    · split at h
      · rename_i hb
        simp only [Option.some.injEq, Prod.mk.injEq] at h
        obtain ⟨rfl, rfl⟩ := h
        exact ⟨by rw [hb]; rfl, by unfold Tens; omega⟩
      · split at h
        · rename_i hb
          simp only [Option.some.injEq, Prod.mk.injEq] at h
          obtain ⟨rfl, rfl⟩ := h
          exact ⟨by rw [hb]; rfl, by unfold Tens; omega⟩
        · split at h
          · rename_i hb
            simp only [Option.some.injEq, Prod.mk.injEq] at h
            obtain ⟨rfl, rfl⟩ := h
            exact ⟨by rw [hb]; rfl, by unfold Tens; omega⟩
          · cases h
theorem sgn_meant {g o : Int} (h : Tens g o) : meant (sgn g o) = some (g, o) ∧ sgn g o ≠ 10 := by
  obtain ⟨h1, h2, h3, h4, h5, h6⟩ := h
  by_cases h0 : o = 0
  · subst h0
    have hg : g = 0 ∨ g = 1 ∨ g = 2 ∨ g = 3 := by omega
    rcases hg with rfl | rfl | rfl | rfl
    all_goals exact ⟨by decide, by decide⟩
  · obtain rfl := h6 (by omega)
    have ho : o = 10 ∨ o = 20 ∨ o = 30 ∨ o = 40 ∨ o = 50 ∨ o = 60 ∨ o = 70 ∨ o = 80 ∨ o = 90 := by omega
    rcases ho with rfl | rfl | rfl | rfl | rfl | rfl | rfl | rfl | rfl
    all_goals exact ⟨by decide, by decide⟩

theorem getD_snoc_lt {l : List Int} {x : Int} {i : Nat} (h : i < l.length) : (l ++ [x]).getD i 0 = l.getD i 0 := by
  rw [List.getD_eq_getElem?_getD, List.getD_eq_getElem?_getD, List.getElem?_append_left h]
theorem getD_snoc_len {l : List Int} {x : Int} {i : Nat} (h : i = l.length) : (l ++ [x]).getD i 0 = x := by
  subst h
  rw [List.getD_eq_getElem?_getD, List.getElem?_append_right (Nat.le_refl _)]
  simp
theorem cellsTo_snoc {W : Nat} {gs os : List Int} {g o : Int} {r c : Nat} (h1 : r * W + c ≤ gs.length) (h2 : r * W + c ≤ os.length) : cellsTo W (gs ++ [g]) (os ++ [o]) r c = cellsTo W gs os r c := by
  induction c with
  | zero => rfl
  | succ c ih =>
    rw [cellsTo_succ, cellsTo_succ, ih (by omega) (by omega), getD_snoc_lt (by omega), getD_snoc_lt (by omega)]
theorem rowsTo_snoc {W : Nat} {gs os : List Int} {g o : Int} {r : Nat} (h1 : r * W ≤ gs.length) (h2 : r * W ≤ os.length) : rowsTo W (gs ++ [g]) (os ++ [o]) r = rowsTo W gs os r := by
  induction r with
  | zero => rfl
  | succ r ih =>
    rw [Nat.add_mul] at h1 h2
    simp only [rowsTo]
    rw [ih (by omega) (by omega), cellsTo_snoc (by omega) (by omega)]
theorem cellsTo_row0 (W V : Nat) (gs os : List Int) (c : Nat) : cellsTo W gs os 0 c = cellsTo V gs os 0 c := by
  unfold cellsTo
  simp

/-- what holds of a field as far as its text l is read. -/
structure Inv (s : St) (l : List UInt8) : Prop where
  w0 : s.H = 0 → s.W = 0
  wp : 0 < s.H → 0 < s.W
  cw : 0 < s.H → s.c ≤ s.W
  c12 : s.c ≤ 12
  w12 : s.W ≤ 12
  h12 : s.H ≤ 12
  top : s.H = 12 → s.c = 0
  gl : s.gs.length = s.H * s.W + s.c
  ol : s.os.length = s.H * s.W + s.c
  tens : ∀ (i : Nat) g o, s.gs[i]? = some g → s.os[i]? = some o → Tens g o
  text : l = rowsTo s.W s.gs s.os s.H ++ cellsTo s.W s.gs s.os s.H s.c
theorem inv0 : Inv st0 [] := ⟨fun _ => rfl, fun h => by simp [st0] at h, fun h => by simp [st0] at h, by simp [st0], by simp [st0], by simp [st0], fun h => by simp [st0] at h, rfl, rfl, fun i g o h => by simp [st0] at h, rfl⟩

theorem snoc_get {l : List Int} {x y : Int} {i : Nat} (h : (l ++ [x])[i]? = some y) : (i < l.length ∧ l[i]? = some y) ∨ (i = l.length ∧ y = x) := by
  rcases Nat.lt_or_ge i l.length with h1 | h1
  · left; rw [List.getElem?_append_left h1] at h; exact ⟨h1, h⟩
  · right
    rw [List.getElem?_append_right h1] at h
    have h2 : i - l.length = 0 := by
      rcases Nat.eq_zero_or_pos (i - l.length) with h2 | h2
      · exact h2
      · rw [List.getElem?_eq_none (by simp; omega)] at h; cases h
    rw [h2] at h
    simp at h
    exact ⟨by omega, h.symm⟩

theorem Inv.step {s s' : St} {l : List UInt8} {b : UInt8} (h : Inv s l) (hs : step s b = .inr s') : Inv s' (l ++ [b]) := by
  unfold Fd.step at hs
  split at hs
  · rename_i hb
    subst hb
    split at hs
    · cases hs
    · rename_i hc
      injection hs with hs
      subst hs
      have hc0 : 0 < s.c := by omega
      have hcw : 0 < s.H → s.c = s.W := by omega
      have hh : s.H ≠ 12 := fun e => by have := h.top e; omega
      have h12 := h.h12; have c12 := h.c12
      have el : s.H * s.W + s.c = (s.H + 1) * s.c := by
        rcases Nat.eq_zero_or_pos s.H with e | e
        · rw [e]; simp
        · rw [← hcw e, Nat.add_mul, Nat.one_mul]
      refine ⟨by simp, by simp; exact hc0, by simp, by simp, c12, by show s.H + 1 ≤ 12; omega, by simp, ?_, ?_, h.tens, ?_⟩
      · show s.gs.length = (s.H + 1) * s.c + 0; rw [h.gl, el]; rfl
      · show s.os.length = (s.H + 1) * s.c + 0; rw [h.ol, el]; rfl
      · show l ++ [10] = rowsTo s.c s.gs s.os (s.H + 1) ++ cellsTo s.c s.gs s.os (s.H + 1) 0
        rw [h.text]
        simp only [rowsTo]
        rcases Nat.eq_zero_or_pos s.H with e | e
        · rw [e, cellsTo_row0 s.W s.c]
          simp [rowsTo, cellsTo]
        · rw [← hcw e]
          simp [cellsTo]
  · split at hs
    · cases hs
    · rename_i g o hm
      split at hs
      · cases hs
      · split at hs
        · cases hs
        · rename_i h1 h2
          injection hs with hs
          subst hs
          obtain ⟨e1, e2⟩ := meant_sgn hm
          have cw := h.cw; have c12 := h.c12; have h12 := h.h12
          refine ⟨h.w0, h.wp, fun hp => ?_, ?_, h.w12, h.h12, fun e => ?_, ?_, ?_, ?_, ?_⟩
          · show s.c + 1 ≤ s.W; have := cw hp; have : 0 < s.H := hp; omega
          · show s.c + 1 ≤ 12; omega
          · exfalso; have : s.H = 12 := e; omega
          · show (s.gs ++ [g]).length = s.H * s.W + (s.c + 1); rw [List.length_append, h.gl]; rfl
          · show (s.os ++ [o]).length = s.H * s.W + (s.c + 1); rw [List.length_append, h.ol]; rfl
          · intro i g' o' hg ho
            rcases snoc_get hg with ⟨l1, q1⟩ | ⟨l1, q1⟩
            · rcases snoc_get ho with ⟨l2, q2⟩ | ⟨l2, q2⟩
              · exact h.tens i g' o' q1 q2
              · have := h.gl; have := h.ol; omega
            · rcases snoc_get ho with ⟨l2, q2⟩ | ⟨l2, q2⟩
              · have := h.gl; have := h.ol; omega
              · rw [q1, q2]; exact e2
          · show l ++ [b] = rowsTo s.W (s.gs ++ [g]) (s.os ++ [o]) s.H ++ cellsTo s.W (s.gs ++ [g]) (s.os ++ [o]) s.H (s.c + 1)
            have := h.gl; have := h.ol
            rw [rowsTo_snoc (by omega) (by omega), cellsTo_succ, cellsTo_snoc (by omega) (by omega), getD_snoc_len (by omega), getD_snoc_len (by omega), e1, h.text, List.append_assoc]
theorem Inv.run {s s' : St} {l m : List UInt8} {i : Nat} (h : Inv s l) (hs : run s i m = .inr s') : Inv s' (l ++ m) := by
  induction m generalizing s l i with
  | nil =>
    simp only [Fd.run] at hs
    injection hs with hs
    subst hs
    simpa using h
  | cons b bs ih =>
    rw [run_cons] at hs
    cases hb : Fd.step s b with
    | inl e => rw [hb] at hs; cases hs
    | inr s1 =>
      rw [hb] at hs
      have := ih (h.step hb) hs
      rwa [List.append_assoc] at this

/-- what is read is printed as it was. -/
theorem parse_back {l : List UInt8} {s : St} (h : parse l = .inr s) : Good s.W s.H s.gs s.os ∧ prt s.W s.H s.gs s.os = l ∧ s.c = 0 := by
  unfold parse at h
  cases hr : run st0 0 l with
  | inl x => rw [hr] at h; cases h
  | inr s1 =>
    rw [hr] at h
    simp only at h
    split at h
    · cases h
    · rename_i hc
      injection h with h
      subst h
      have hi := inv0.run hr
      have hc0 : s1.c = 0 := by omega
      have hH : 0 < s1.H := by omega
      have t := hi.text
      have gl := hi.gl; have ol := hi.ol
      rw [hc0] at t gl ol
      refine ⟨⟨hi.wp hH, hi.w12, hH, hi.h12, by rw [gl, Nat.mul_comm]; rfl, by rw [ol, Nat.mul_comm]; rfl, fun i g o h1 h2 => ?_⟩, ?_, hc0⟩
      · obtain ⟨t1, t2, t3, t4, t5, t6⟩ := hi.tens i g o h1 h2
        exact ⟨t1, t2, t3, by omega, t6⟩
      · unfold prt
        simpa [cellsTo] using t.symm

theorem step_sign {s : St} {b : UInt8} {g o : Int} (hb : b ≠ 10) (hm : meant b = some (g, o)) (h1 : ¬ (0 < s.H ∧ s.c = s.W)) (h2 : s.c ≠ 12) (h3 : s.H ≠ 12) : step s b = .inr ⟨s.c + 1, s.W, s.H, s.gs ++ [g], s.os ++ [o]⟩ := by
  unfold step
  rw [if_neg hb, hm]
  simp only
  rw [if_neg h1, if_neg (by omega)]
theorem step_end {s : St} (h1 : s.c ≠ 0) (h2 : 0 < s.H → s.c = s.W) : step s 10 = .inr ⟨0, s.c, s.H + 1, s.gs, s.os⟩ := by
  unfold step
  rw [if_pos rfl, if_neg (by omega)]
theorem take_snoc {l : List Int} {k : Nat} (h : k < l.length) : l.take (k + 1) = l.take k ++ [l.getD k 0] := by
  rw [List.take_succ_eq_append_getElem h, List.getD_eq_getElem?_getD, List.getElem?_eq_getElem h]
  rfl

section
variable {W H : Nat} {gs os : List Int} (G : Good W H gs os) (ht : ∀ o ∈ os, o ≤ 90 ∧ o % 10 = 0)
include G ht
theorem run_cells (r c i : Nat) (hr : r < H) (hc : c ≤ W) :
    run ⟨0, if r = 0 then 0 else W, r, gs.take (r * W), os.take (r * W)⟩ i (cellsTo W gs os r c) = .inr ⟨c, if r = 0 then 0 else W, r, gs.take (r * W + c), os.take (r * W + c)⟩ := by
  induction c with
  | zero => simp [cellsTo, run]
  | succ c ih =>
    have hl : r * W + c < W * H := by
      have := Nat.mul_le_mul_right W (show r + 1 ≤ H by omega)
      rw [Nat.add_mul, Nat.mul_comm H W] at this
      omega
    have hg : r * W + c < gs.length := by rw [G.gl]; exact hl
    have ho : r * W + c < os.length := by rw [G.ol]; exact hl
    have eg : gs[r * W + c]? = some (gs.getD (r * W + c) 0) := by rw [List.getD_eq_getElem?_getD, List.getElem?_eq_getElem hg]; rfl
    have eo : os[r * W + c]? = some (os.getD (r * W + c) 0) := by rw [List.getD_eq_getElem?_getD, List.getElem?_eq_getElem ho]; rfl
    obtain ⟨t1, t2, t3, t4, t5⟩ := G.cell _ _ _ eg eo
    obtain ⟨u1, u2⟩ := ht _ (List.mem_of_getElem? eo)
    obtain ⟨m1, m2⟩ := sgn_meant ⟨t1, t2, t3, u1, u2, t5⟩
    have w2 := G.w2; have h2 := G.h2
    rw [cellsTo_succ, run_append, ih (by omega)]
    simp only
    rw [run_cons, step_sign m2 m1 (by simp only; rintro ⟨q1, q2⟩; rw [if_neg (by omega)] at q2; omega) (by simp only; omega) (by simp only; omega)]
    simp only [run]
    rw [show r * W + (c + 1) = (r * W + c) + 1 by omega, take_snoc hg, take_snoc ho]
theorem run_rows (r i : Nat) (hr : r ≤ H) :
    run st0 i (rowsTo W gs os r) = .inr ⟨0, if r = 0 then 0 else W, r, gs.take (r * W), os.take (r * W)⟩ := by
  induction r with
  | zero => simp [rowsTo, run, st0]
  | succ r ih =>
    have w1 := G.w1
    simp only [rowsTo]
    rw [run_append, ih (by omega)]
    simp only
    rw [run_append, run_cells G ht r W _ (by omega) (Nat.le_refl _)]
    simp only
    rw [run_cons, step_end (by simp only; omega) (by simp only; intro q; rw [if_neg (by omega)])]
    simp only [run]
    rw [if_neg (by omega), Nat.add_mul, Nat.one_mul]
/-- what is printed is read as it was. -/
theorem parse_prt : parse (prt W H gs os) = .inr ⟨0, W, H, gs, os⟩ := by
  have h1 := G.h1
  unfold parse prt
  rw [run_rows G ht H 0 (Nat.le_refl _)]
  simp only
  rw [if_neg (by omega), if_neg (by omega), Nat.mul_comm H W, ← G.gl, List.take_length, G.gl, ← G.ol, List.take_length]
end
end Go.Proofs.YtbiknfaimplodaaDoor.Fd
