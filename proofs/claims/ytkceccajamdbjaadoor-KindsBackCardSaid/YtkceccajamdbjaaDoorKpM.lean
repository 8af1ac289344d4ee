/- Kinds: the kinds of a text, line by line. Plain mathematics. -/
import Derived.Test.YtkceccajamdbjaaDoorKdM
import Derived.Test.YtkceccajamdbjaaDoorLnM
namespace Go.Proofs.YtkceccajamdbjaaDoor.Kd
open Tx
set_option linter.unusedVariables false

/-- the kind of a line: it ends, has these words, and its name is one. -/
def ofLine (l : List UInt8) : Option K := if l.getLast? = some 10 then (match kwords (cut 32 l.dropLast) with
    | some k => if k.name = [] then none else some k
    | none => none) else none
/-- the kinds of some lines; else the line, and the fault. -/
def go (acc : List K) : List (List UInt8) → (Nat × Int) ⊕ List K
  | [] => .inr acc
  | l :: r => match ofLine l with
    | none => .inl (acc.length, 2)
    | some k => if acc.length = 8 then .inl (acc.length, 4) else if kindFault acc k = 0 then go (acc ++ [k]) r else .inl (acc.length, kindFault acc k)
def parseL (s : List UInt8) : (Nat × Int) ⊕ List K := go [] (lines s)

theorem name_some {l : List UInt8} (h : nameOk l = true) : l ≠ [] := by
  rintro rfl
  simp [nameOk] at h
theorem lines_prt : ∀ {l : List K}, (∀ k ∈ l, nameOk k.name = true) → lines (prt l) = l.map fun k => kline k ++ [10]
  | [], _ => rfl
  | k :: l, h => by
    show lines ((kline k ++ [10]) ++ prt l) = _
    rw [List.append_assoc]
    show lines (kline k ++ 10 :: prt l) = _
    rw [lines_app (kline_free (h k (List.mem_cons_self ..))), lines_prt (fun x hx => h x (List.mem_cons_of_mem _ hx))]
    rfl
theorem go_lines : ∀ {l acc : List K}, kindsGo acc l = 0 → (∀ k ∈ l, k.nums.length = 8) → acc.length + l.length ≤ 8 → go acc (l.map fun k => kline k ++ [10]) = .inr (acc ++ l)
  | [], acc, _, _, _ => by simp [go]
  | k :: l, acc, h, hl, hn => by
    unfold kindsGo at h
    split at h
    · rename_i h0
      have hk := fault_fit h0 (hl k (List.mem_cons_self ..))
      have e : cut 32 (kline k) = words k := cut_join (by simp [words]) (words_free hk.2 32 (by decide))
      have e2 : ofLine (kline k ++ [10]) = some k := by
        unfold ofLine
        rw [if_pos (by simp), List.dropLast_concat, e, kwords_words hk.1]
        simp only
        rw [if_neg (name_some hk.2)]
      simp only [List.length_cons] at hn
      rw [List.map_cons, go, e2]
      simp only
      rw [if_neg (by omega), if_pos h0, go_lines h (fun y hy => hl y (List.mem_cons_of_mem _ hy)) (by simp; omega)]
      simp
    · rename_i h0
      exact absurd h h0
/-- what is printed is read as it was. -/
theorem parseL_prt {l : List K} (h : kindsFault l = 0) (hl : ∀ k ∈ l, k.nums.length = 8) : parseL (prt l) = .inr l := by
  unfold kindsFault at h
  split at h
  · omega
  · have a := kindsGo_all h hl
    unfold parseL
    rw [lines_prt (fun k hk => (a k hk).2), go_lines h hl (by simp; omega)]
    rfl
theorem ofLine_back {l : List UInt8} {k : K} (h : ofLine l = some k) : kline k ++ [10] = l ∧ k.nums.length = 8 := by
  unfold ofLine at h
  split at h
  · rename_i hx
    cases hw : kwords (cut 32 l.dropLast) with
    | none => rw [hw] at h; cases h
    | some k' =>
      rw [hw] at h
      simp only at h
      split at h
      · cases h
      · injection h with h
        subst h
        have a := words_kwords hw
        obtain ⟨ys, hy⟩ := List.getLast?_eq_some_iff.1 hx
        refine ⟨?_, a.2⟩
        unfold kline
        rw [a.1, join_cut, hy]
        simp
  · cases h
theorem go_back : ∀ {ls : List (List UInt8)} {acc l : List K}, go acc ls = .inr l → acc.length ≤ 8 → ∃ l', l = acc ++ l' ∧ prt l' = ls.flatten ∧ kindsGo acc l' = 0 ∧ l.length ≤ 8 ∧ ∀ k ∈ l', k.nums.length = 8
  | [], acc, l, h, ha => by
    unfold go at h
    injection h with h
    subst h
    exact ⟨[], by simp, rfl, rfl, ha, by simp⟩
  | x :: r, acc, l, h, ha => by
    unfold go at h
    split at h
    · cases h
    · rename_i k hk
      split at h
      · cases h
      · rename_i h8
        split at h
        · rename_i h0
          obtain ⟨l', e1, e2, e3, e4, e5⟩ := go_back h (by simp; omega)
          have a := ofLine_back hk
          refine ⟨k :: l', by rw [e1]; simp, ?_, ?_, e4, ?_⟩
          · show (kline k ++ [10]) ++ prt l' = _
            rw [a.1, e2]
            rfl
          · unfold kindsGo
            rw [if_pos h0]
            exact e3
          · intro y hy
            rcases List.mem_cons.1 hy with rfl | hy
            · exact a.2
            · exact e5 y hy
        · cases h
/-- what any text is read as is printed as that text. -/
theorem prt_parseL {s : List UInt8} {l : List K} (h : parseL s = .inr l) : prt l = s ∧ kindsFault l = 0 ∧ ∀ k ∈ l, k.nums.length = 8 := by
  unfold parseL at h
  obtain ⟨l', e1, e2, e3, e4, e5⟩ := go_back h (by simp)
  rw [List.nil_append] at e1
  subst e1
  refine ⟨by rw [e2, lines_sum], ?_, e5⟩
  unfold kindsFault
  rw [if_neg (by omega)]
  exact e3
end Go.Proofs.YtkceccajamdbjaaDoor.Kd
