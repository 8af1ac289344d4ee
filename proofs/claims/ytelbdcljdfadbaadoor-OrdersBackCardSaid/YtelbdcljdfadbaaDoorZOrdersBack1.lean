/- Texts: cut at a byte and joined again; whole numbers as digits. Plain mathematics. · Texts: their lines. Plain mathematics. · What stays where one block turns. (Big2 has the same words for texts of its own; where both are wanted, let Big2 import this.) · Lists of texts that the call itself makes, by append. · Texts at a byte; blocks of texts. · A range over strings.Lines: each line of a text, in their order. · A range over strings.Lines: the law of the statement. · A range over strings.Lines: what the round and the iterator leave as it was. · What a walk is told of a slice of integers that came in. · Lists of integers: what a slice holds. · api.Order: records in memory. · Orders: what is wrong with them, their text, and back. Plain mathematics. · An error that is told. · The program's orders: what is wrong with one. · The program's orders: the numbers of the words for What. · strings.SplitN at a blank, of at most five words. · A number as text. -/
import Derived.Test.YtelbdcljdfadbaaDoorRows
import Derived.WalkKit
import Derived.WalkSpells
import Derived.WalkLawsBesides
import Derived.OwnWalk
import Derived.Deep.AppendLies
import Derived.IntWalk
import Derived.Test.YtelbdcljdfadbaaDoorShelf
import Derived.Laws.MakeOwn
import Derived.RangeFuncBox
import Derived.RangeFuncCalls
import Derived.TacticsInMore
import Derived.LoopNIn
import Derived.LoopIn
import Derived.BigRegionIn
import Derived.OwnWalkIn
import Derived.ProofKit
import Derived.Deep.QuietTactic
import Derived.BigQuiet
import Derived.Laws.Closers25
import Derived.Maps.Own
import Derived.Maps.OwnSet
import Derived.Maps.OwnOps
import Derived.Maps.Views
import Derived.StringKeys
import Derived.Carry
import Derived.LoopN
import Derived.Lib.ItoaMem
import Derived.Lib.Join
namespace Go.Proofs.YtelbdcljdfadbaaDoor.Tx

/-- a text at each byte c. -/
def cut (c : UInt8) : List UInt8 → List (List UInt8)
  | [] => [[]]
  | b :: r => if b = c then [] :: cut c r else match cut c r with
    | [] => [[b]]
    | w :: ws => (b :: w) :: ws
/-- and back. -/
def join (c : UInt8) : List (List UInt8) → List UInt8
  | [] => []
  | [w] => w
  | w :: v :: ws => w ++ c :: join c (v :: ws)

theorem cut_ne (c : UInt8) (l : List UInt8) : cut c l ≠ [] := by
  cases l with
  | nil => simp [cut]
  | cons b r =>
    unfold cut
    split
    · simp
    · split <;> simp
theorem join_cons {c : UInt8} {w : List UInt8} {ws : List (List UInt8)} (h : ws ≠ []) : join c (w :: ws) = w ++ c :: join c ws := by
  cases ws with
  | nil => exact absurd rfl h
  | cons v ws => rfl
theorem join_cut (c : UInt8) (l : List UInt8) : join c (cut c l) = l := by
  induction l with
  | nil => rfl
  | cons b r ih =>
    unfold cut
    split
    · rename_i h
      rw [join_cons (cut_ne c r), ih, h]
      rfl
    · cases hw : cut c r with
      | nil => exact absurd hw (cut_ne c r)
      | cons w ws =>
        rw [hw] at ih
        cases ws with
        | nil => rw [← ih]; rfl
        | cons v ws => rw [← ih]; rfl
/-- no word has the byte. -/
theorem cut_free (c : UInt8) (l : List UInt8) : ∀ w ∈ cut c l, c ∉ w := by
  induction l with
  | nil => intro w hw; simp [cut] at hw; subst hw; simp
  | cons b r ih =>
    intro w hw
    unfold cut at hw
    split at hw
    · rcases List.mem_cons.1 hw with rfl | hw
      · simp
      · exact ih w hw
    · rename_i hb
      cases hc : cut c r with
      | nil => exact absurd hc (cut_ne c r)
      | cons v vs =>
        rw [hc] at hw ih
        rcases List.mem_cons.1 hw with rfl | hw
        · intro h
          rcases List.mem_cons.1 h with h | h
          · exact hb h.symm
          · exact ih v (List.mem_cons_self ..) h
        · exact ih w (List.mem_cons_of_mem _ hw)
theorem cut_cons {c b : UInt8} {r w : List UInt8} {ws : List (List UInt8)} (h : b ≠ c) (hr : cut c r = w :: ws) : cut c (b :: r) = (b :: w) :: ws := by
  rw [cut, if_neg h, hr]
theorem cut_word {c : UInt8} {w : List UInt8} (h : c ∉ w) : cut c w = [w] := by
  induction w with
  | nil => rfl
  | cons b w ih =>
    rw [List.mem_cons, not_or] at h
    unfold cut
    rw [if_neg (fun e => h.1 e.symm), ih h.2]
theorem cut_app {c : UInt8} {w : List UInt8} (h : c ∉ w) (r : List UInt8) : cut c (w ++ c :: r) = w :: cut c r := by
  induction w with
  | nil => simp [cut]
  | cons b w ih =>
    rw [List.mem_cons, not_or] at h
    rw [List.cons_append, cut_cons (fun e => h.1 e.symm) (ih h.2)]
theorem cut_join {c : UInt8} : ∀ {ws : List (List UInt8)}, ws ≠ [] → (∀ w ∈ ws, c ∉ w) → cut c (join c ws) = ws
  | [], h, _ => absurd rfl h
  | [w], _, h => cut_word (h w (List.mem_cons_self ..))
  | w :: v :: ws, _, h => by
    rw [join_cons (by simp), cut_app (h w (List.mem_cons_self ..)), cut_join (by simp) (fun x hx => h x (List.mem_cons_of_mem _ hx))]

/-- a digit. -/
def isDig (b : UInt8) : Bool := decide (48 ≤ b.toNat) && decide (b.toNat ≤ 57)
/-- the digits of a number. -/
def dig (n : Nat) : List UInt8 := if n < 10 then [(48 + n).toUInt8] else dig (n / 10) ++ [(48 + n % 10).toUInt8]
termination_by n
/-- the number of some digits. -/
def val (l : List UInt8) : Nat := l.foldl (fun n b => n * 10 + (b.toNat - 48)) 0
/-- a whole number of at most so many digits, without a needless 0. -/
def whole (most : Nat) (l : List UInt8) : Option Nat := if l = [] ∨ most < l.length ∨ (l.head? = some 48 ∧ 1 < l.length) then none else if l.all isDig then some (val l) else none

theorem dig_small {n : Nat} (h : n < 10) : dig n = [(48 + n).toUInt8] := by rw [dig, if_pos h]
theorem dig_big {n : Nat} (h : ¬ n < 10) : dig n = dig (n / 10) ++ [(48 + n % 10).toUInt8] := by rw [dig, if_neg h]
theorem sign_nat {d : Nat} (h : d < 10) : ((48 + d).toUInt8).toNat = 48 + d := by
  show (48 + d) % 256 = 48 + d
  omega
theorem val_snoc (l : List UInt8) (b : UInt8) : val (l ++ [b]) = val l * 10 + (b.toNat - 48) := by
  unfold val
  rw [List.foldl_append]
  rfl
theorem dig_ne (n : Nat) : dig n ≠ [] := by
  rw [dig]
  split <;> simp
theorem dig_all (n : Nat) : (dig n).all isDig = true := by
  induction n using Nat.strongRecOn with
  | ind n ih =>
    by_cases h : n < 10
    · rw [dig_small h]
      simp [isDig]
      omega
    · rw [dig_big h, List.all_append, ih (n / 10) (by omega)]
      simp [isDig]
      omega
theorem val_dig (n : Nat) : val (dig n) = n := by
  induction n using Nat.strongRecOn with
  | ind n ih =>
    by_cases h : n < 10
    · rw [dig_small h]
      show 0 * 10 + (((48 + n).toUInt8).toNat - 48) = n
      rw [sign_nat h]
      omega
    · rw [dig_big h, val_snoc, ih (n / 10) (by omega), sign_nat (show n % 10 < 10 by omega)]
      omega
theorem dig_head (n : Nat) : (dig n).head? = some 48 → n = 0 := by
  induction n using Nat.strongRecOn with
  | ind n ih =>
    intro h
    by_cases hn : n < 10
    · rw [dig_small hn] at h
      simp only [List.head?_cons, Option.some.injEq] at h
      have h2 : ((48 + n).toUInt8).toNat = 48 := by rw [h]; rfl
      rw [sign_nat hn] at h2
      omega
    · rw [dig_big hn] at h
      cases hd : dig (n / 10) with
      | nil => exact absurd hd (dig_ne _)
      | cons b r =>
        rw [hd] at h
        have := ih (n / 10) (by omega) (by rw [hd]; simpa using h)
        omega
theorem dig_len {n : Nat} : ∀ {k : Nat}, 0 < k → n < 10 ^ k → (dig n).length ≤ k := by
  induction n using Nat.strongRecOn with
  | ind n ih =>
    intro k hk h
    by_cases hn : n < 10
    · rw [dig_small hn]
      simp
      omega
    · rw [dig_big hn, List.length_append]
      cases k with
      | zero => omega
      | succ k =>
        have hk0 : 0 < k := by
          rcases Nat.eq_zero_or_pos k with rfl | hp
          · simp at h; omega
          · exact hp
        have h2 : n / 10 < 10 ^ k := by
          rw [Nat.pow_succ] at h
          omega
        have := ih (n / 10) (by omega) hk0 h2
        simp
        omega
theorem whole_dig {n most : Nat} (h0 : 0 < most) (h : n < 10 ^ most) : whole most (dig n) = some n := by
  unfold whole
  rw [if_neg, if_pos (dig_all n), val_dig]
  rintro (h1 | h1 | ⟨h1, h2⟩)
  · exact dig_ne n h1
  · have := dig_len h0 h
    omega
  · have := dig_head n h1
    subst this
    rw [dig_small (by decide)] at h2
    simp at h2
theorem dig_val : ∀ (k : Nat) (l : List UInt8), l.length = k → l ≠ [] → ¬ (l.head? = some 48 ∧ 1 < l.length) → l.all isDig = true → dig (val l) = l := by
  intro k
  induction k with
  | zero => intro l h1 h2; exact absurd (List.length_eq_zero_iff.1 h1) h2
  | succ k ih =>
    intro l hl hne hz hd
    obtain ⟨r, b, rfl⟩ : ∃ r b, l = r ++ [b] := ⟨l.dropLast, l.getLast hne, (List.dropLast_concat_getLast hne).symm⟩
    have hb : isDig b = true := by
      rw [List.all_append] at hd
      simp at hd
      exact hd.2
    have hbn : 48 ≤ b.toNat ∧ b.toNat ≤ 57 := by
      unfold isDig at hb
      simpa using hb
    have back : ((48 + (b.toNat - 48)).toUInt8) = b := by
      rw [show 48 + (b.toNat - 48) = b.toNat by omega]
      simp
    rw [val_snoc]
    by_cases hr : r = []
    · subst hr
      rw [show val [] = 0 from rfl, Nat.zero_mul, Nat.zero_add, dig_small (by omega), back]
      rfl
    · have hrd : r.all isDig = true := by
        rw [List.all_append] at hd
        simp at hd
        rw [List.all_eq_true]
        exact hd.1
      have hrl : r.length = k := by simpa using hl
      have hhead : (r ++ [b]).head? = r.head? := by
        cases r with
        | nil => exact absurd rfl hr
        | cons a r => rfl
      have hr0 : 0 < r.length := List.length_pos_iff.2 hr
      have hz' : ¬ r.head? = some 48 := fun h => hz ⟨by rw [hhead]; exact h, by simp; omega⟩
      have hi := ih r hrl hr (fun h => hz' h.1) hrd
      have hv : val r ≠ 0 := by
        intro h
        rw [h, dig_small (by decide)] at hi
        rw [← hi] at hz'
        exact hz' rfl
      have e : (val r * 10 + (b.toNat - 48)) / 10 = val r := by omega
      have e2 : (val r * 10 + (b.toNat - 48)) % 10 = b.toNat - 48 := by omega
      rw [dig_big (by omega), e, e2, hi, back]
theorem dig_whole {most n : Nat} {l : List UInt8} (h : whole most l = some n) : dig n = l := by
  unfold whole at h
  split at h
  · cases h
  · rename_i hc
    rw [not_or, not_or] at hc
    split at h
    · rename_i hd
      injection h with h
      rw [← h]
      exact dig_val l.length l rfl hc.1 hc.2.2 hd
    · cases h
theorem whole_lt {most n : Nat} {l : List UInt8} (h : whole most l = some n) : l.length ≤ most := by
  unfold whole at h
  split at h
  · cases h
  · rename_i hc
    rw [not_or, not_or] at hc
    omega
theorem whole_ne {most n : Nat} {l : List UInt8} (h : whole most l = some n) : l ≠ [] := by
  rintro rfl
  simp [whole] at h
/-- digits are no blank and no end of a line. -/
theorem dig_free (n : Nat) (c : UInt8) (h : c.toNat < 48) : c ∉ dig n := by
  intro hm
  have := List.all_eq_true.1 (dig_all n) c hm
  unfold isDig at this
  simp at this
  omega
end Go.Proofs.YtelbdcljdfadbaaDoor.Tx

namespace Go.Proofs.YtelbdcljdfadbaaDoor.Tx

/-- the lines of a text, each with its end, if it has one. -/
def lines : List UInt8 → List (List UInt8)
  | [] => []
  | b :: r => if b = 10 then [10] :: lines r else match lines r with
    | [] => [[b]]
    | w :: ws => (b :: w) :: ws

theorem lines_app : ∀ {w : List UInt8}, (10 : UInt8) ∉ w → ∀ r, lines (w ++ 10 :: r) = (w ++ [10]) :: lines r
  | [], _, r => by simp [lines]
  | b :: w, h, r => by
    rw [List.mem_cons, not_or] at h
    rw [List.cons_append, lines, if_neg (fun e => h.1 e.symm), lines_app h.2 r]
    rfl
theorem lines_word : ∀ {w : List UInt8}, (10 : UInt8) ∉ w → w ≠ [] → lines w = [w]
  | [], _, h => absurd rfl h
  | [b], h, _ => by
    rw [List.mem_cons, not_or] at h
    rw [lines, if_neg (fun e => h.1 e.symm)]
    rfl
  | b :: c :: w, h, _ => by
    rw [List.mem_cons, not_or] at h
    rw [lines, if_neg (fun e => h.1 e.symm), lines_word h.2 (by simp)]
/-- a text has no end of a line, or a first one. -/
theorem first10 : ∀ s : List UInt8, (10 : UInt8) ∉ s ∨ ∃ w r, (10 : UInt8) ∉ w ∧ s = w ++ 10 :: r
  | [] => .inl (by simp)
  | b :: s => by
    by_cases h : b = 10
    · subst h
      exact .inr ⟨[], s, by simp, rfl⟩
    · rcases first10 s with h1 | ⟨w, r, h1, rfl⟩
      · left
        rw [List.mem_cons, not_or]
        exact ⟨fun e => h e.symm, h1⟩
      · right
        refine ⟨b :: w, r, ?_, rfl⟩
        rw [List.mem_cons, not_or]
        exact ⟨fun e => h e.symm, h1⟩
/-- what lines say, by their ends alone: what is read of a text at each end of a line is what is read of its lines. -/
theorem lines_ind {p : List UInt8 → Prop} (h0 : p []) (h1 : ∀ w, (10 : UInt8) ∉ w → w ≠ [] → p w) (h2 : ∀ w r, (10 : UInt8) ∉ w → p r → p (w ++ 10 :: r)) : ∀ s, p s := by
  intro s
  obtain ⟨n, hn⟩ : ∃ n, s.length = n := ⟨_, rfl⟩
  induction n using Nat.strongRecOn generalizing s with
  | ind n ih =>
    rcases first10 s with h | ⟨w, r, h, rfl⟩
    · by_cases e : s = []
      · subst e; exact h0
      · exact h1 s h e
    · refine h2 w r h (ih r.length ?_ r rfl)
      rw [← hn, List.length_append, List.length_cons]
      omega
theorem lines_sum (s : List UInt8) : (lines s).flatten = s := by
  refine lines_ind (p := fun s => (lines s).flatten = s) rfl (fun w h e => ?_) (fun w r h ih => ?_) s
  · rw [lines_word h e]; simp
  · rw [lines_app h, List.flatten_cons, ih]; simp
theorem lines_len {s x : List UInt8} (h : x ∈ lines s) : x.length ≤ s.length := by
  have h1 := lines_sum s
  obtain ⟨a, b, e⟩ := List.append_of_mem h
  rw [e] at h1
  rw [← h1]
  simp
  omega
theorem lines_ne {s x : List UInt8} : x ∈ lines s → x ≠ [] := by
  refine lines_ind (p := fun s => x ∈ lines s → x ≠ []) (fun h => by simp [lines] at h) (fun w h e hx => ?_) (fun w r h ih hx => ?_) s
  · rw [lines_word h e] at hx
    simp at hx
    subst hx
    exact e
  · rw [lines_app h] at hx
    rcases List.mem_cons.1 hx with rfl | hx
    · simp
    · exact ih hx
end Go.Proofs.YtelbdcljdfadbaaDoor.Tx

namespace Go.Proofs.YtelbdcljdfadbaaDoor
open Go.RowKit

/-- nothing below has turned but block z. -/
structure Kp (z : Nat) (w w' : World) : Prop where
  os : w'.os = w.os
  tape : w'.tape = w.tape
  output : w'.output = w.output
  size : w.heap.size ≤ w'.heap.size
  block : ∀ k, k < w.heap.size → k ≠ z → w'.heap[k]? = w.heap[k]?

theorem Kp.of {z : Nat} {w w' : World} (h : Below w.heap.size w w') : Kp z w w' := ⟨h.os, h.tape, h.output, h.size, fun k hk _ => h.block k hk⟩
theorem Kp.refl (z : Nat) (w : World) : Kp z w w := Kp.of (Below.refl _ _)
theorem Kp.trans {z : Nat} {a b c : World} (h : Kp z a b) (k : Kp z b c) : Kp z a c :=
  ⟨k.os.trans h.os, k.tape.trans h.tape, k.output.trans h.output, Nat.le_trans h.size k.size, fun i hi hz => (k.block i (Nat.lt_of_lt_of_le hi h.size) hz).trans (h.block i hi hz)⟩
theorem Kp.set {z : Nat} (w : World) (i : Nat) (u : Value) : Kp z w (w.setCell ⟨z, i, none⟩ u) :=
  ⟨rfl, rfl, rfl, by simp [World.setCell], fun k _ hz => Below.heap_setCell _ _ _ _ hz⟩
theorem Kp.below {z B : Nat} {a w w' : World} (h : Below B a w) (k : Kp z w w') (hB : B ≤ w.heap.size) (hz : B ≤ z) : Below B a w' :=
  h.trans ⟨k.os, k.tape, k.output, k.size, fun i hi => k.block i (by omega) (by omega)⟩

theorem Kp.set_new {z b : Nat} {w W : World} (h : Kp z w W) (hb : w.heap.size ≤ b) (i : Nat) (u : Value) : Kp z w (W.setCell ⟨b, i, none⟩ u) :=
  ⟨h.os, h.tape, h.output, by simpa [World.setCell] using h.size, fun k hk hz => (Below.heap_setCell _ _ _ _ (by show k ≠ b; omega)).trans (h.block k hk hz)⟩
theorem Kp.drewN {z : Nat} {w W : World} (h : Kp z w W) (n : Nat) : Kp z w (W.drewN n) := ⟨h.os, h.tape, h.output, h.size, h.block⟩

theorem lt_of_block {w : World} {b : Nat} {o : Obj} (h : w.heap[b]? = some o) : b < w.heap.size := by
  rcases Nat.lt_or_ge b w.heap.size with h1 | h1
  · exact h1
  · rw [Array.getElem?_eq_none h1] at h; cases h

end Go.Proofs.YtelbdcljdfadbaaDoor

namespace Go.Proofs.YtelbdcljdfadbaaDoor
open Go.RowKit
set_option linter.unusedVariables false

theorem info_str : (Tryd.prog.info? 9).map (fun i => (i.zero, i.size, i.bytes)) = some (some (.string ⟨#[]⟩), 1, 16) := by kernel_rfl

/-- v is a slice of the texts bs, in a block of its own from base on. -/
def Os (w : World) (base : Nat) (v : Value) (bs : List ByteArray) : Prop := w.ownsRow base 9 1 v bs.length (bs.map Value.string)
theorem Os.nil (w : World) (base : Nat) : Os w base (.slice none 0 0) [] := World.ownsRow_nil _ _ _ _
theorem Os.below {w w' : World} {base : Nat} {v : Value} {bs : List ByteArray} (h : Os w base v bs) (hb : Below w.heap.size w w') : Os w' base v bs :=
  World.ownsRow.kept h (row := none) ⟨hb.os, hb.tape, hb.output, hb.size, fun k hk _ => hb.block k hk⟩ (by cases v.ownBlock <;> simp)
theorem Os.alloc {w : World} {base : Nat} {v : Value} {bs : List ByteArray} (h : Os w base v bs) (o : Obj) : Os (w.alloc o) base v bs := World.ownsRow.alloc h o
theorem Os.block {w : World} {base : Nat} {v : Value} {bs : List ByteArray} (h : Os w base v bs) : ∀ k, v.ownBlock = some k → base ≤ k ∧ k < w.heap.size := World.ownsRow.lt h
theorem Os.mono {w : World} {base base' : Nat} {v : Value} {bs : List ByteArray} (h : Os w base v bs) (hb : base' ≤ base) : Os w base' v bs := by
  refine ⟨h.1, ?_⟩
  rcases h.2 with h1 | ⟨g, cap, cur, h1, h2, h3⟩
  · exact .inl h1
  · exact .inr ⟨g, cap, cur, h1, Nat.le_trans hb h2, h3⟩
/-- its cells. -/
theorem Os.cells {w : World} {base : Nat} {v : Value} {bs : List ByteArray} (h : Os w base v bs) : ∃ a c, v = .slice a bs.length c ∧ bs.length ≤ c ∧ c ≤ 9223372036854775807 ∧ (bs ≠ [] → ∃ g, a = some ⟨g, 0, none⟩ ∧ base ≤ g ∧ ∀ (i : Nat) b, bs[i]? = some b → w.cell? ⟨g, i, none⟩ = some (.string b)) := by
  rcases h.2 with ⟨hv, h0⟩ | ⟨g, cap, cur, hv, hb, hg, h1, h2, h3, h4⟩
  · exact ⟨none, 0, by rw [hv, h0], by omega, by omega, fun hn => absurd (List.length_eq_zero_iff.1 h0) hn⟩
  · refine ⟨_, cap, hv, h1, by unfold maxLen at h2; omega, fun _ => ⟨g, rfl, hb, fun i b hbi => ?_⟩⟩
    have hi : i < bs.length := (List.getElem?_eq_some_iff.1 hbi).1
    have h5 : w.ownsRow base 9 1 (.slice (some ⟨g, 0, none⟩) bs.length cap) bs.length (bs.map Value.string) := by rw [← hv]; exact h
    rw [h5.cellAt i (by omega), List.getElem?_map, hbi]
    rfl

/-- one more. -/
theorem app_str {ops : Array Oper} {rest : List Oper} {o : Oper} {a : Act} {Q : Exit → Act → World → Prop} (w : World) (hgd : o.guard = none) (s x : Operand)
    (ho : o.op = .call { callee := .builtin .append, args := #[s, x], argTypes := #[151, 151] }) (base : Nat) (v : Value) (bs : List ByteArray) (hs : a.eval s = v) (hown : Os w base v bs)
    (ad : Addr) (b : ByteArray) (hx : a.eval x = .slice (some ad) 1 1) (hd : w.cell? ad = some (.string b)) (hl : bs.length ≤ 2000000) (hbase : base ≤ w.heap.size)
    (h : ∀ g cap w', Os w' base (.slice (some ⟨g, 0, none⟩) (bs.length + 1) cap) (bs ++ [b]) → w.grownBy w' v.ownBlock → (v.ownBlock = some g ∨ g = w.heap.size) → g < w'.heap.size → wpList Tryd.prog ops Q rest (a.put o.dst (.slice (some ⟨g, 0, none⟩) (bs.length + 1) cap)) w') :
    wpList Tryd.prog ops Q (o :: rest) a w := by
  obtain ⟨i0, hi, hz0, hz1, hz2⟩ := info_parts info_str
  refine wpList_append_lies w hgd s x 151 ho base 9 i0 (.string ⟨#[]⟩) 1 16 Tryd.underlying151 hi hz0 hz1 hz2 rfl (by decide) v bs.length _ hs hown ad 1 1 [.string b] hx rfl ?_ ?_ (by decide) (by unfold maxLen; omega) (by omega) hbase _ rfl ?_
  · intro j u hj
    match j, hj with
    | 0, hj => simp at hj; subst hj; exact hd
  · intro u hu
    simp at hu
    subst hu
    rfl
  · intro g cap w' h1 h2 h3 h4
    refine h g cap w' ?_ h2 h3 h4
    unfold Os
    rw [List.length_append, List.map_append]
    exact h1

/-- two more. -/
theorem app_str2 {ops : Array Oper} {rest : List Oper} {o : Oper} {a : Act} {Q : Exit → Act → World → Prop} (w : World) (hgd : o.guard = none) (s x : Operand)
    (ho : o.op = .call { callee := .builtin .append, args := #[s, x], argTypes := #[151, 151] }) (base : Nat) (v : Value) (bs : List ByteArray) (hs : a.eval s = v) (hown : Os w base v bs)
    (g0 : Nat) (b c : ByteArray) (hx : a.eval x = .slice (some ⟨g0, 0, none⟩) 2 2) (hd : w.cell? ⟨g0, 0, none⟩ = some (.string b)) (hd2 : w.cell? ⟨g0, 1, none⟩ = some (.string c)) (hl : bs.length ≤ 2000000) (hbase : base ≤ w.heap.size)
    (h : ∀ g cap w', Os w' base (.slice (some ⟨g, 0, none⟩) (bs.length + 2) cap) (bs ++ [b, c]) → w.grownBy w' v.ownBlock → (v.ownBlock = some g ∨ g = w.heap.size) → g < w'.heap.size → wpList Tryd.prog ops Q rest (a.put o.dst (.slice (some ⟨g, 0, none⟩) (bs.length + 2) cap)) w') :
    wpList Tryd.prog ops Q (o :: rest) a w := by
  obtain ⟨i0, hi, hz0, hz1, hz2⟩ := info_parts info_str
  refine wpList_append_lies w hgd s x 151 ho base 9 i0 (.string ⟨#[]⟩) 1 16 Tryd.underlying151 hi hz0 hz1 hz2 rfl (by decide) v bs.length _ hs hown ⟨g0, 0, none⟩ 2 2 [.string b, .string c] hx rfl ?_ ?_ (by decide) (by unfold maxLen; omega) (by omega) hbase _ rfl ?_
  · intro j u hj
    rw [Addr.add_lit, Nat.zero_add]
    match j, hj with
    | 0, hj => simp at hj; subst hj; exact hd
    | 1, hj => simp at hj; subst hj; exact hd2
  · intro u hu
    simp at hu
    rcases hu with rfl | rfl <;> rfl
  · intro g cap w' h1 h2 h3 h4
    refine h g cap w' ?_ h2 h3 h4
    unfold Os
    rw [List.length_append, List.map_append]
    exact h1
/-- the same, in a region that draws. -/
theorem step_str2 {ops : Array Oper} {o : Oper} {a : Act} {K : Act → World → Prop} {Q : Exit → Act → World → Prop} {E : Prop} (w : World) (hgd : o.guard = none) (s x : Operand)
    (ho : o.op = .call { callee := .builtin .append, args := #[s, x], argTypes := #[151, 151] }) (base : Nat) (v : Value) (bs : List ByteArray) (hs : a.eval s = v) (hown : Os w base v bs)
    (g0 : Nat) (b c : ByteArray) (hx : a.eval x = .slice (some ⟨g0, 0, none⟩) 2 2) (hd : w.cell? ⟨g0, 0, none⟩ = some (.string b)) (hd2 : w.cell? ⟨g0, 1, none⟩ = some (.string c)) (hl : bs.length ≤ 2000000) (hbase : base ≤ w.heap.size)
    (h : ∀ g cap w', Os w' base (.slice (some ⟨g, 0, none⟩) (bs.length + 2) cap) (bs ++ [b, c]) → w.grownBy w' v.ownBlock → (v.ownBlock = some g ∨ g = w.heap.size) → g < w'.heap.size → K (a.put o.dst (.slice (some ⟨g, 0, none⟩) (bs.length + 2) cap)) w') :
    if Region.wanted o (yielded ops a.tmps) = true then Oper.wp Tryd.prog o a w K Q else E := by
  obtain ⟨i0, hi, hz0, hz1, hz2⟩ := info_parts info_str
  refine step_append_lies w hgd s x 151 ho base 9 i0 (.string ⟨#[]⟩) 1 16 Tryd.underlying151 hi hz0 hz1 hz2 rfl (by decide) v bs.length _ hs hown ⟨g0, 0, none⟩ 2 2 [.string b, .string c] hx rfl ?_ ?_ (by decide) (by unfold maxLen; omega) (by omega) hbase _ rfl ?_
  · intro j u hj
    rw [Addr.add_lit, Nat.zero_add]
    match j, hj with
    | 0, hj => simp at hj; subst hj; exact hd
    | 1, hj => simp at hj; subst hj; exact hd2
  · intro u hu
    simp at hu
    rcases hu with rfl | rfl <;> rfl
  · intro g cap w' h1 h2 h3 h4
    refine h g cap w' ?_ h2 h3 h4
    unfold Os
    rw [List.length_append, List.map_append]
    exact h1
/-- a list of one. -/
theorem Os.one {w : World} {base z : Nat} (b : ByteArray) (hb : base ≤ w.heap.size) (hz : w.heap.size = z) : Os (w.alloc (.cells #[.string b] 9)) base (.slice (some ⟨z, 0, none⟩) 1 1) [b] := by
  subst hz
  exact ⟨rfl, .inr ⟨_, _, _, rfl, hb, heap_alloc_new w _, Nat.le_refl _, by unfold maxLen; decide, rfl, rfl⟩⟩
theorem Os.len {w : World} {base : Nat} {v : Value} {bs : List ByteArray} (h : Os w base v bs) : ∃ a c, v = .slice a bs.length c := by
  obtain ⟨a, c, h1, -⟩ := h.cells
  exact ⟨a, c, h1⟩
end Go.Proofs.YtelbdcljdfadbaaDoor

namespace Go.Proofs.YtelbdcljdfadbaaDoor
open Go.RowKit
set_option linter.unusedVariables false

theorem idxb_spec (c : UInt8) : ∀ l : List UInt8, (Lib.indexByte l c = -1 ∧ c ∉ l) ∨ ∃ k : Nat, Lib.indexByte l c = k ∧ k < l.length ∧ l = l.take k ++ c :: l.drop (k + 1) ∧ c ∉ l.take k
  | [] => .inl ⟨rfl, by simp⟩
  | b :: l => by
    unfold Lib.indexByte
    by_cases h : b = c
    · subst h
      exact .inr ⟨0, by simp, by simp, by simp, by simp⟩
    · have hb : (b == c) = false := beq_eq_false_iff_ne.2 h
      rw [hb]
      simp only [Bool.false_eq_true, if_false]
      rcases idxb_spec c l with ⟨h1, h2⟩ | ⟨k, h1, h2, h3, h4⟩
      · left
        rw [h1]
        exact ⟨rfl, by simp [h2]; exact fun e => h e.symm⟩
      · right
        have hk : (Lib.indexByte l c == -1) = false := beq_eq_false_iff_ne.2 (by rw [h1]; omega)
        rw [hk]
        refine ⟨k + 1, by simp [h1], by simpa using h2, ?_, ?_⟩
        · simp only [List.take_succ_cons, List.drop_succ_cons, List.cons_append]
          rw [← h3]
        · simp only [List.take_succ_cons, List.mem_cons, not_or]
          exact ⟨fun e => h e.symm, h4⟩
theorem idx1_any (s : ByteArray) (c : UInt8) (w : World) :
    Calls Tryd.prog 165 #[.string s, .string ⟨#[c]⟩] w fun e w' => e = .returned (.int .i64 (Lib.indexByte s.data.toList c)) ∧ w' = w := by
  exact Any.strings_Index_one Tryd.lays143 s c w

/-- block b holds these texts. -/
def StA (w : World) (b : Nat) (xs : List ByteArray) : Prop := w.heap[b]? = some (.cells (xs.map Value.string).toArray 9 (0, 0))
theorem StA.cell {w : World} {b : Nat} {xs : List ByteArray} (h : StA w b xs) {i : Nat} {d : ByteArray} (hd : xs[i]? = some d) : w.cell? ⟨b, i, none⟩ = some (.string d) := by
  unfold StA at h
  simp only [World.cell?, h]
  simp [hd]
theorem StA.thaw {w : World} {b : Nat} {xs : List ByteArray} (h : StA w b xs) (i : Nat) : w.frozen? ⟨b, i, none⟩ = false := by
  unfold StA at h
  simp [World.frozen?, h]
theorem StA.set {w : World} {b : Nat} {xs : List ByteArray} (h : StA w b xs) (i : Nat) (d : ByteArray) : StA (w.setCell ⟨b, i, none⟩ (.string d)) b (xs.set i d) := by
  unfold StA at *
  rw [heap_setCell_same w b i _ _ _ h]
  simp [List.map_set]
theorem StA.lt {w : World} {b : Nat} {xs : List ByteArray} (h : StA w b xs) : b < w.heap.size := lt_of_block h
theorem take_of {xs R : List ByteArray} (hR : ∀ (j : Nat) x, R[j]? = some x → xs[j]? = some x) : xs.take R.length = R := by
  refine List.ext_getElem? fun j => ?_
  by_cases h : j < R.length
  · rw [List.getElem?_take, if_pos h, hR j _ (List.getElem?_eq_getElem h), List.getElem?_eq_getElem h]
  · rw [List.getElem?_take, if_neg h, List.getElem?_eq_none (by omega)]
theorem StA.os {w : World} {b N : Nat} {xs R : List ByteArray} (h : StA w b xs) (hx : xs.length = N) (hN : N ≤ 12) (hl : R.length ≤ N) (hR : ∀ (j : Nat) x, R[j]? = some x → xs[j]? = some x) : Os w b (.slice (some ⟨b, 0, none⟩) R.length N) R := by
  refine ⟨by simp, .inr ⟨b, N, (xs.map Value.string).toArray, rfl, Nat.le_refl _, h, hl, by unfold maxLen; omega, by simp [hx], ?_⟩⟩
  rw [Nat.mul_one, List.toList_toArray, ← List.map_take, take_of hR]
theorem makeS (N : Nat) (h1 : N ≤ 12) (w : World) : (Instr.makeSlice 151 (.int .i64 (N : Nat)) (.int .i64 (N : Nat))).run Tryd.prog w = .ok (.slice (some ⟨w.heap.size, 0, none⟩) N N) (w.alloc (.cells ((List.replicate N (⟨#[]⟩ : ByteArray)).map Value.string).toArray 9)) := by
  rcases (by omega : N = 0 ∨ N = 1 ∨ N = 2 ∨ N = 3 ∨ N = 4 ∨ N = 5 ∨ N = 6 ∨ N = 7 ∨ N = 8 ∨ N = 9 ∨ N = 10 ∨ N = 11 ∨ N = 12) with rfl | rfl | rfl | rfl | rfl | rfl | rfl | rfl | rfl | rfl | rfl | rfl | rfl
  all_goals kernel_rfl
theorem ext_take (s : ByteArray) (k : Nat) : (s.extract 0 k).data.toList = s.data.toList.take k := by
  simp [ByteArray.data_extract]
theorem ext_drop (s : ByteArray) (k : Nat) : (s.extract k s.size).data.toList = s.data.toList.drop k := by
  simp [ByteArray.data_extract]
  exact List.take_of_length_le (by rw [List.length_drop]; exact Nat.le_refl _)
theorem size_list (s : ByteArray) : s.data.toList.length = s.size := rfl
theorem cut_pos (c : UInt8) (l : List UInt8) : 1 ≤ (Tx.cut c l).length := List.length_pos_iff.2 (Tx.cut_ne c l)

end Go.Proofs.YtelbdcljdfadbaaDoor

namespace Go.Proofs.YtelbdcljdfadbaaDoor
open Go.RowKit
set_option linter.unusedVariables false

attribute [local go_sem] Oper.semAt_some

def boxLen (W : World) (b : Nat) : Nat := match W.cell? ⟨b, 0, none⟩ with
  | some (.string r) => r.size
  | _ => 0
theorem boxLen_eq {W : World} {b : Nat} {r : ByteArray} (h : W.cell? ⟨b, 0, none⟩ = some (.string r)) : boxLen W b = r.size := by
  unfold boxLen
  rw [h]
theorem boxed_put {W : World} {B : Nat} {t : TypeId} {v : Value} (h : Boxed W B t v) (u : Value) : Boxed (W.setCell ⟨B, 0, none⟩ u) B t u := by
  unfold Boxed at *
  rw [heap_setCell_same W B 0 _ _ _ h]
  rfl
abbrev tl (b : ByteArray) : List UInt8 := b.data.toList

set_option maxRecDepth 100000 in
set_option maxHeartbeats 4000000 in
/-- what strings.Lines gives, as a function of what is done with each line: block cb holds what is left of the text. -/
theorem lines1_in (n l cb : Nat) (s0 : ByteArray) (hs : s0.size ≤ 9223372036854775806) (J Jx : List ByteArray → World → Prop)
    (hJs : ∀ pre W v, J pre W → J pre (W.setCell ⟨cb, 0, none⟩ v)) (hJd : ∀ pre W, J pre W → J pre W.drew)
    (hY : ∀ pre x W r, J pre W → Boxed W cb 9 (.string r) → pre.map tl ++ tl x :: Tx.lines (tl r) = Tx.lines (tl s0) → YieldAt Fence.wide (n - 1) Tryd.prog l #[.string x] W fun e W' =>
      (e = .returned (.bool true) ∧ J (pre ++ [x]) W' ∧ Boxed W' cb 9 (.string r)) ∨ (e = .returned (.bool false) ∧ Jx (pre ++ [x]) W'))
    (W : World) (hc : Boxed W cb 9 (.string s0)) (h0 : J [] W) :
    CallsIn Fence.wide n Tryd.prog 80 #[.func (.yield l) #[] #[], .pointer (some ⟨cb, 0, none⟩)] W fun e W' => (∃ v, e = .returned v) ∧
      ((∃ xs, xs.map tl = Tx.lines (tl s0) ∧ J xs W') ∨ (∃ pre post, pre.map tl ++ post = Tx.lines (tl s0) ∧ Jx pre W')) := by
  refine callsIn_of_wp Tryd.func80 rfl trivial ?_ rfl
  simp only [Tryd.ntmps80, List.size_toArray, List.length_cons, List.length_nil, Nat.reduceAdd, Nat.reduceSub, Array.replicate_succ, Array.replicate_zero, List.push_toArray, List.append_toArray, List.nil_append, List.cons_append]
  gi_wp2
  gi_loopw [3, 4] (fun a b wr => ∃ (pre : List ByteArray) (r : ByteArray), Boxed wr cb 9 (.string r) ∧ pre.map tl ++ Tx.lines (tl r) = Tx.lines (tl s0) ∧ r.size ≤ s0.size ∧ J pre wr) (fun a b wr => boxLen wr cb)
  case atStart => exact ⟨[], s0, hc, rfl, Nat.le_refl _, h0⟩
  case round =>
    obtain ⟨pre, r, hb, hl, hz, hj⟩ := hrel
    have c0 := hb.cell
    have f0 := hb.frozen
    by_cases he : r.size = 0
    · have he' : ¬ (0 : Int) < (r.size : Int) := by omega
      gi_wp2
      go_end0
      refine ⟨⟨_, rfl⟩, .inl ⟨pre, ?_, hj⟩⟩
      have : tl r = [] := List.length_eq_zero_iff.1 he
      rw [this] at hl
      simpa [Tx.lines] using hl
    · have he' : (0 : Int) < (r.size : Int) := by omega
      have hne : tl r ≠ [] := fun e => he (by show (tl r).length = 0; rw [e]; rfl)
      have IX := Tryd.strings_IndexByte r 10 wr
      rw [show ((10 : Int).toNat.toUInt8) = 10 from rfl] at IX
      rcases idxb_spec 10 r.data.toList with ⟨h1, h2⟩ | ⟨k, h1, h2, h3, h4⟩
      · rw [h1] at IX
        have IX' : Hid (Calls Tryd.prog 81 #[.string r, .int .u8 10] wr fun e w' => e = .returned (.int .i64 (-1)) ∧ w' = wr) := IX
        have L : Hid (pre.map tl ++ tl r :: Tx.lines (tl ⟨#[]⟩) = Tx.lines (tl s0)) := by
          unfold Hid
          rw [← hl, Tx.lines_word h2 hne]
          rfl
        clear IX h1 h2
        gi_wp2
        refine ⟨trivial, fun h => by simp [Fence.wide] at h, (callsIn_wide.2 IX'.out).mono ?_⟩
        rintro e w' ⟨rfl, hw⟩
        obtain rfl := hw.symm
        obtain ⟨fn, tmps, assign, body, hy, hR⟩ := hY pre r (wr.setCell ⟨cb, 0, none⟩ (.string ⟨#[]⟩)) ⟨#[]⟩ (hJs _ _ _ hj) (boxed_put hb _) L.out
        gi_wp2
        refine ⟨fun h => by simp [Fence.wide] at h, hR.mono ?_⟩
        clear hR hy hY
        rintro e W3 (⟨rfl, hJ3, hb3⟩ | ⟨rfl, hJx3⟩)
        · gi_wp2
          go_roundw
          case rel => exact ⟨pre ++ [r], ⟨#[]⟩, hb3, by rw [← L.out]; simp, Nat.zero_le _, hJ3⟩
          case measure => rw [boxLen_eq hb3.cell, boxLen_eq c0]; show 0 < r.size; omega
        · gi_wp2
          refine bodyPost_ret (results_none rfl _ _ _) rfl ?_
          exact ⟨⟨_, rfl⟩, .inr ⟨pre ++ [r], _, by rw [← L.out]; simp; rfl, hJx3⟩⟩
      · rw [h1] at IX
        have IX' : Hid (Calls Tryd.prog 81 #[.string r, .int .u8 10] wr fun e w' => e = .returned (.int .i64 (k : Nat)) ∧ w' = wr) := IX
        have hk : k < r.size := h2
        have hrs : r.size ≤ 9223372036854775806 := by omega
        have L : Hid (pre.map tl ++ tl (r.extract 0 (k + 1)) :: Tx.lines (tl (r.extract (k + 1) r.size)) = Tx.lines (tl s0)) := by
          unfold Hid
          rw [← hl]
          have e1 : tl (r.extract 0 (k + 1)) = r.data.toList.take k ++ [10] := by
            show (r.extract 0 (k + 1)).data.toList = _
            have hlt : k < r.data.toList.length := h2
            rw [ext_take, List.take_succ_eq_append_getElem hlt]
            congr 2
            have h5 : r.data.toList[k]? = some 10 := by
              rw [h3, List.getElem?_append_right (by rw [List.length_take]; omega)]
              have : k - (r.data.toList.take k).length = 0 := by rw [List.length_take]; omega
              rw [this]
              rfl
            rw [List.getElem?_eq_getElem hlt] at h5
            exact Option.some.inj h5
          have e2 : tl (r.extract (k + 1) r.size) = r.data.toList.drop (k + 1) := ext_drop r (k + 1)
          have e3 : Tx.lines (tl r) = (r.data.toList.take k ++ [10]) :: Tx.lines (r.data.toList.drop (k + 1)) := (congrArg Tx.lines h3).trans (Tx.lines_app h4 _)
          rw [e1, e2, e3]
        have z2 : (r.extract (k + 1) r.size).size = r.size - (k + 1) := by rw [← size_list, ext_drop, List.length_drop, size_list]
        have k0 : ¬ ((k : Nat) : Int) < 0 := by omega
        clear IX h1 h2 h3 h4
        gi_wp2
        refine ⟨trivial, fun h => by simp [Fence.wide] at h, (callsIn_wide.2 IX'.out).mono ?_⟩
        rintro e w' ⟨rfl, hw⟩
        obtain rfl := hw.symm
        clear IX'
        gi_wp2
        gi_region
        obtain ⟨fn, tmps, assign, body, hy, hR⟩ := hY pre (r.extract 0 (k + 1)) (wr.setCell ⟨cb, 0, none⟩ (.string (r.extract (k + 1) r.size))).drew (r.extract (k + 1) r.size) (hJd _ _ (hJs _ _ _ hj)) (boxed_put hb _) L.out
        gi_wp2
        refine ⟨fun h => by simp [Fence.wide] at h, hR.mono ?_⟩
        clear hR hy hY
        rintro e W3 (⟨rfl, hJ3, hb3⟩ | ⟨rfl, hJx3⟩)
        · gi_wp2
          go_roundw
          case rel => exact ⟨pre ++ [r.extract 0 (k + 1)], r.extract (k + 1) r.size, hb3, by rw [← L.out]; simp, by omega, hJ3⟩
          case measure => rw [boxLen_eq hb3.cell, boxLen_eq c0]; omega
        · gi_wp2
          refine bodyPost_ret (results_none rfl _ _ _) rfl ?_
          exact ⟨⟨_, rfl⟩, .inr ⟨pre ++ [r.extract 0 (k + 1)], _, by rw [← L.out]; simp; rfl, hJx3⟩⟩
end Go.Proofs.YtelbdcljdfadbaaDoor

namespace Go.Proofs.YtelbdcljdfadbaaDoor
open Go.RowKit
set_option linter.unusedVariables false

/-- what the iterator and the loop's own records leave: all but block cb, and what is no cells and lies from B on. -/
structure Aside (B cb : Nat) (W W' : World) : Prop where
  os : W'.os = W.os
  tape : W'.tape = W.tape
  output : W'.output = W.output
  size : W.heap.size ≤ W'.heap.size
  same : ∀ (k : Nat) (o : Obj), W.heap[k]? = some o → k ≠ cb → (k < B ∨ o.isCells = true) → W'.heap[k]? = some o
theorem Aside.setCell (B cb : Nat) (W : World) (v : Value) : Aside B cb W (W.setCell ⟨cb, 0, none⟩ v) :=
  ⟨rfl, rfl, rfl, by simp, fun k o h hk _ => (Below.heap_setCell W ⟨cb, 0, none⟩ v k hk).trans h⟩
theorem Aside.drew (B cb : Nat) (W : World) : Aside B cb W W.drew := ⟨rfl, rfl, rfl, Nat.le_refl _, fun k o h _ _ => h⟩
theorem Aside.alloc (B cb : Nat) (W : World) (o : Obj) : Aside B cb W (W.alloc o) :=
  ⟨rfl, rfl, rfl, by simp, fun k o' h _ _ => (Below.heap_alloc W o k (Array.getElem?_eq_some_iff.1 h).1).trans h⟩
theorem Aside.putObj {B cb : Nat} {W : World} {r : Nat} {o : Obj} (h : W.heap[r]? = some o) (ho : o.isCells = false) (hr : B ≤ r) (o' : Obj) : Aside B cb W (W.putObj r o') :=
  ⟨rfl, rfl, rfl, by simp, fun k o2 h2 _ hk => by
    have : k ≠ r := by
      rintro rfl
      rw [h] at h2
      cases h2
      rcases hk with hk | hk
      · omega
      · rw [ho] at hk; cases hk
    exact (World.putObj_heap_other this).trans h2⟩
/-- what a round leaves: block cb, and what is no cells and lies from B on. -/
structure Stays (B cb : Nat) (W W' : World) : Prop where
  size : W.heap.size ≤ W'.heap.size
  same : ∀ (k : Nat) (o : Obj), W.heap[k]? = some o → (k = cb ∨ (B ≤ k ∧ o.isCells = false)) → W'.heap[k]? = some o
def linePost (B cb : Nat) (I Ix : List ByteArray → World → Prop) (xs : List ByteArray) (W : World) : Exit → Act → World → Prop
  | .normal, _, W' => Stays B cb W W' ∧ I xs W'
  | .ret, _, W' => Stays B cb W W' ∧ Ix xs W'
  | _, _, _ => False

/-- for line := range strings.Lines(s): the body is walked once, from whatever it has made of the lines ahead. -/
theorem range_lines {n : Nat} {g : Operand} {p : Tmp} {assign body : Code} {Q : Exit → Act → World → Prop} {a : Act} {w : World} (s : ByteArray) (hs : s.size ≤ 9223372036854775806) (cb : Nat)
    (hg : a.eval g = .func (.func 80) #[] #[.pointer (some ⟨cb, 0, none⟩)]) (hc : Boxed w cb 9 (.string s))
    (I Ix : List ByteArray → World → Prop) (hI : ∀ xs W W', Aside w.heap.size cb W W' → I xs W → I xs W') (hIx : ∀ xs W W', Aside w.heap.size cb W W' → Ix xs W → Ix xs W') (h0 : I [] w) (a₁ : ByteArray → Act)
    (hassign : ∀ (l : Nat) (x : ByteArray) (W : World) (K : Act → World → Prop), K (a₁ x) W →
      assign.wpIn (Fence.wide.inRound l) (n - 1 - 1) Tryd.prog (Exit.then K (fun _ _ _ => False)) { tmps := a.tmps.setIfInBounds p (.string x), defers := [] } W)
    (hbody : ∀ (l : Nat) (pre : List ByteArray) (x : ByteArray) (post : List (List UInt8)) (W : World), I pre W → pre.map tl ++ tl x :: post = Tx.lines (tl s) → body.wpIn (Fence.wide.inRound l) (n - 1 - 1) Tryd.prog (linePost w.heap.size cb I Ix (pre ++ [x]) W) (a₁ x) W)
    (hdone : ∀ (D : Nat) (xs : List ByteArray) (W : World), w.heap.size ≤ D → xs.map tl = Tx.lines (tl s) → I xs W → W.heap[D]? = some (.deferred (some [])) → Q .normal { a with defers := { target := .collected D, args := #[] } :: a.defers } W)
    (hstop : ∀ (D : Nat) (pre : List ByteArray) (post : List (List UInt8)) (W : World), w.heap.size ≤ D → pre.map tl ++ post = Tx.lines (tl s) → Ix pre W → W.heap[D]? = some (.deferred (some [])) → Code.ret.wpIn Fence.wide n Tryd.prog Q { a with defers := { target := .collected D, args := #[] } :: a.defers } W) :
    (Code.rangeFunc g #[p] assign body).wpIn Fence.wide n Tryd.prog Q a w := by
  have hcb : cb < w.heap.size := hc.lt
  refine wpIn_rangeFunc ?_
  intro fn hfn
  rw [show Fence.wide.round = none from rfl]
  obtain ⟨rec, hrec⟩ : ∃ rec : LoopState → Option Code → Loop, rec = fun st pe => { state := st, pending := pe, fn, tmps := a.tmps, params := #[p], assign, body, defers := w.heap.size } := ⟨_, rfl⟩
  obtain ⟨W1, hW1⟩ : ∃ W1, (w.alloc (.deferred (some []))).alloc (.loop (rec .ready none)) = W1 := ⟨_, rfl⟩
  have hL1 : W1.heap[w.heap.size + 1]? = some (.loop (rec .ready none)) := by
    rw [← hW1]
    have := World.alloc_heap_new (w.alloc (.deferred (some []))) (.loop (rec .ready none))
    rwa [World.size_alloc] at this
  have hK1 : W1.heap[w.heap.size]? = some (.deferred (some [])) := by
    rw [← hW1]
    exact (Below.heap_alloc _ _ _ (by simp)).trans (World.alloc_heap_new w _)
  have hI1 : I [] W1 := by rw [← hW1]; exact hI _ _ _ (Aside.alloc _ _ _ _) (hI _ _ _ (Aside.alloc _ _ _ _) h0)
  have hc1 : Boxed W1 cb 9 (.string s) := by
    rw [← hW1]
    exact (Below.heap_alloc _ _ _ (by simp; omega)).trans ((Below.heap_alloc _ _ _ hcb).trans hc)
  refine ⟨w.heap.size + 1, [{ target := .collected w.heap.size, args := #[] }], W1, { target := .fn (.func 80) #[.pointer (some ⟨cb, 0, none⟩)], args := #[.func (.yield (w.heap.size + 1)) #[] #[]] }, W1, 80,
    #[.func (.yield (w.heap.size + 1)) #[] #[], .pointer (some ⟨cb, 0, none⟩)], W1, ?_, ?_, ?_, ?_, fun h => by simp [Fence.wide] at h, ?_⟩
  · rw [← hW1, hrec]; exact run_enterLoop_outer _ _ _ _ _
  · simp only [resolve, hg]
    simp [go_sem]
  · intro f' _; trivial
  · simp [invoke, go_sem]
  · refine (lines1_in (n - 1) (w.heap.size + 1) cb s hs
      (fun pre W => I pre W ∧ W.heap[w.heap.size + 1]? = some (.loop (rec .ready none)) ∧ W.heap[w.heap.size]? = some (.deferred (some [])))
      (fun pre W => Ix pre W ∧ W.heap[w.heap.size + 1]? = some (.loop (rec .done (some .ret))) ∧ W.heap[w.heap.size]? = some (.deferred (some [])))
      (fun pre W v h => ⟨hI _ _ _ (Aside.setCell _ _ _ _) h.1, (Below.heap_setCell W ⟨cb, 0, none⟩ v _ (by show w.heap.size + 1 ≠ cb; omega)).trans h.2.1, (Below.heap_setCell W ⟨cb, 0, none⟩ v _ (by show w.heap.size ≠ cb; omega)).trans h.2.2⟩)
      (fun pre W h => ⟨hI _ _ _ (Aside.drew _ _ _) h.1, h.2⟩) ?_ W1 hc1 ⟨hI1, hL1, hK1⟩).mono ?_
    · rintro pre x W r ⟨hi, hl, hk⟩ hbx hpx
      have hlt : w.heap.size + 1 < W.heap.size := (Array.getElem?_eq_some_iff.1 hl).1
      have hy : (Instr.yield (w.heap.size + 1) #[.string x]).run Tryd.prog W = .ok (.round (w.heap.size + 1) fn (a.tmps.setIfInBounds p (.string x)) assign body) W := by
        have := run_yield (P := Tryd.prog) (args := #[.string x]) hl (by rw [hrec]; rfl)
        rw [hrec] at this
        simpa using this
      refine ⟨fn, _, assign, body, hy, roundIn_of_wpIn hfn (hassign _ x W _ ⟨_, run_beginRound hl (by rw [hrec]), ?_⟩)⟩
      have hl2 : (W.putObj (w.heap.size + 1) (.loop { rec .ready none with state := .busy })).heap[w.heap.size + 1]? = some (.loop { rec .ready none with state := .busy }) := World.putObj_heap_same hlt
      have hk2 : (W.putObj (w.heap.size + 1) (.loop { rec .ready none with state := .busy })).heap[w.heap.size]? = some (.deferred (some [])) := (World.putObj_heap_other (by omega)).trans hk
      have hb2 : (W.putObj (w.heap.size + 1) (.loop { rec .ready none with state := .busy })).heap[cb]? = some (.cells #[.string r] 9 (0, 0)) := (World.putObj_heap_other (by omega)).trans hbx
      refine wpIn_mono (hbody _ pre x _ _ (hI _ _ _ (Aside.putObj hl rfl (by omega) _) hi) hpx) ?_
      have fin : ∀ (jump : Option Code) (W3 : World), Stays w.heap.size cb (W.putObj (w.heap.size + 1) (.loop { rec .ready none with state := .busy })) W3 →
          (Instr.endRound (w.heap.size + 1) jump).run Tryd.prog W3 = .ok (.bool jump.isNone) (W3.putObj (w.heap.size + 1) (.loop (rec (if jump.isNone then .ready else .done) jump))) ∧
          W3.heap[w.heap.size + 1]? = some (.loop { rec .ready none with state := .busy }) ∧
          (W3.putObj (w.heap.size + 1) (.loop (rec (if jump.isNone then .ready else .done) jump))).heap[w.heap.size + 1]? = some (.loop (rec (if jump.isNone then .ready else .done) jump)) ∧
          (W3.putObj (w.heap.size + 1) (.loop (rec (if jump.isNone then .ready else .done) jump))).heap[w.heap.size]? = some (.deferred (some [])) ∧
          Boxed (W3.putObj (w.heap.size + 1) (.loop (rec (if jump.isNone then .ready else .done) jump))) cb 9 (.string r) := fun jump W3 hk3 => by
        have hl3 := hk3.same _ _ hl2 (.inr ⟨by omega, rfl⟩)
        have := run_endRound (P := Tryd.prog) jump hl3
        rw [hrec] at this ⊢
        exact ⟨this, by rw [hrec] at hl3; exact hl3, World.putObj_heap_same (Array.getElem?_eq_some_iff.1 hl3).1, (World.putObj_heap_other (by omega)).trans (hk3.same _ _ hk2 (.inr ⟨Nat.le_refl _, rfl⟩)), (World.putObj_heap_other (by omega)).trans (hk3.same _ _ hb2 (.inl rfl))⟩
      rintro e a3 W3 hp
      cases e with
      | normal =>
        obtain ⟨hk3, hi3⟩ := hp
        obtain ⟨hr, hl3, hl4, hk4, hb4⟩ := fin none W3 hk3
        exact ⟨_, _, hr, .inl ⟨rfl, ⟨hI _ _ _ (Aside.putObj hl3 rfl (by omega) _) hi3, hl4, hk4⟩, hb4⟩⟩
      | ret =>
        obtain ⟨hk3, hi3⟩ := hp
        obtain ⟨hr, hl3, hl4, hk4, hb4⟩ := fin (some .ret) W3 hk3
        exact ⟨_, _, hr, .inr ⟨rfl, hIx _ _ _ (Aside.putObj hl3 rfl (by omega) _) hi3, hl4, hk4⟩⟩
      | exit id => exact hp.elim
      | goto t => exact hp.elim
      | panic ch => exact hp.elim
      | outgrown => exact hp.elim
    · rintro e W2 ⟨⟨v, rfl⟩, (⟨xs, hS, hi, hl, hk⟩ | ⟨pre, post, hS, hi, hl, hk⟩)⟩
      · exact ⟨none, _, by have := run_endLoop (P := Tryd.prog) hl (by rw [hrec]; simp); rw [hrec] at this; exact this, hdone _ xs _ (Nat.le_refl _) hS (hI _ _ _ (Aside.putObj hl rfl (by omega) _) hi) ((World.putObj_heap_other (by omega)).trans hk)⟩
      · exact ⟨some .ret, _, by have := run_endLoop (P := Tryd.prog) hl (by rw [hrec]; simp); rw [hrec] at this; exact this, hstop _ pre post _ (Nat.le_refl _) hS (hIx _ _ _ (Aside.putObj hl rfl (by omega) _) hi) ((World.putObj_heap_other (by omega)).trans hk)⟩
end Go.Proofs.YtelbdcljdfadbaaDoor

namespace Go.Proofs.YtelbdcljdfadbaaDoor
open Go.RowKit
set_option linter.unusedVariables false

theorem boxed_aside {B cb : Nat} {W W' : World} {k : Nat} {t : TypeId} {v : Value} (h : Boxed W k t v) (a : Aside B cb W W') (hk : k ≠ cb) : Boxed W' k t v := a.same k _ h hk (.inr rfl)
theorem below_aside {B cb : Nat} {w W W' : World} (h : Below w.heap.size w W) (a : Aside B cb W W') (hB : w.heap.size ≤ B) (hc : w.heap.size ≤ cb) : Below w.heap.size w W' :=
  ⟨a.os.trans h.os, a.tape.trans h.tape, a.output.trans h.output, Nat.le_trans h.size a.size, fun k hk => by
    have e := h.block k hk
    rw [Array.getElem?_eq_getElem hk] at e ⊢
    exact a.same k _ e (by omega) (.inl (by omega))⟩
theorem ownsRow_aside {B cb : Nat} {W W' : World} {base n size : Nat} {e : TypeId} {v : Value} {xs : List Value} (h : W.ownsRow base e size v n xs) (a : Aside B cb W W') (hc : cb < base) : W'.ownsRow base e size v n xs := by
  refine ⟨h.1, ?_⟩
  rcases h.2 with h1 | ⟨g, cap, cur, h1, h2, h3, h4⟩
  · exact .inl h1
  · exact .inr ⟨g, cap, cur, h1, h2, a.same g _ h3 (by omega) (.inr rfl), h4⟩
theorem Stays.refl (B cb : Nat) (W : World) : Stays B cb W W := ⟨Nat.le_refl _, fun _ _ h _ => h⟩
theorem Stays.trans {B cb : Nat} {W W' W'' : World} (h : Stays B cb W W') (k : Stays B cb W' W'') : Stays B cb W W'' := ⟨Nat.le_trans h.size k.size, fun i o hi ho => k.same i o (h.same i o hi ho) ho⟩
theorem Stays.below {B cb : Nat} {W W' : World} (hb : Below W.heap.size W W') : Stays B cb W W' := ⟨hb.size, fun k o h _ => (hb.block k (Array.getElem?_eq_some_iff.1 h).1).trans h⟩
theorem Stays.drew {B cb : Nat} {W W' : World} (h : Stays B cb W W') : Stays B cb W W'.drew := ⟨h.size, h.same⟩
theorem Stays.setBoxed {B cb : Nat} {W : World} {p : Nat} {t : TypeId} {v : Value} (h : Boxed W p t v) (hp : p ≠ cb) (u : Value) : Stays B cb W (W.setCell ⟨p, 0, none⟩ u) :=
  ⟨by simp, fun k o hk ho => by
    have : k ≠ p := by
      rintro rfl
      rcases ho with e | ⟨-, e⟩
      · exact hp e
      · rw [show W.heap[k]? = _ from h] at hk
        cases hk
        cases e
    exact (Below.heap_setCell W ⟨p, 0, none⟩ u k this).trans hk⟩
theorem Stays.grownRow {B cb : Nat} {W W' : World} {base n size : Nat} {e : TypeId} {v : Value} {xs : List Value} (h : W.ownsRow base e size v n xs) (g : W.grownBy W' v.ownBlock) (hc : cb < base) : Stays B cb W W' :=
  ⟨g.size, fun k o hk ho => by
    refine (g.block k (Array.getElem?_eq_some_iff.1 hk).1 (fun e => ?_)).trans hk
    rcases h.2 with ⟨rfl, -⟩ | ⟨q, cap, cur, rfl, h2, h3, -⟩
    · cases e
    · have : k = q := by simpa [Value.ownBlock] using e
      subst this
      rcases ho with e2 | ⟨-, e2⟩
      · omega
      · rw [h3] at hk
        cases hk
        cases e2⟩
theorem boxed_below {W W' : World} {B k : Nat} {t : TypeId} {v : Value} (h : Boxed W k t v) (hb : Below B W W') (hk : k < B) : Boxed W' k t v := (hb.block k hk).trans h
theorem boxed_grown {W W' : World} {k : Nat} {t : TypeId} {v : Value} {row : Option Nat} (h : Boxed W k t v) (g : W.grownBy W' row) (hne : row ≠ some k) : Boxed W' k t v := (g.block k h.lt (fun e => hne e.symm)).trans h
theorem boxed_other {W : World} {k p : Nat} {t : TypeId} {v u : Value} (h : Boxed W k t v) (hne : k ≠ p) : Boxed (W.setCell ⟨p, 0, none⟩ u) k t v := (Below.heap_setCell W ⟨p, 0, none⟩ u k hne).trans h

theorem lines_any (s : ByteArray) (w : World) : Calls Tryd.prog 49 #[.string s] w fun e w' => e = .returned (.func (.func 80) #[] #[.pointer (some ⟨w.heap.size, 0, none⟩)]) ∧ w' = w.alloc (.cells #[.string s] 9) := by
  go_enter Tryd.func49, Tryd.ntmps49
  go_wp2
  go_ret
  exact ⟨rfl, rfl⟩
end Go.Proofs.YtelbdcljdfadbaaDoor

namespace Go.Proofs.YtelbdcljdfadbaaDoor

/-- nil, or a row of cells: the numbers zs, of which the first len are the elements. -/
def IsRow (k : IntKind) (w : World) (a : Option Addr) (len cap : Nat) (zs : List Int) : Prop :=
  (a = none ∧ len = 0 ∧ cap = 0 ∧ zs = []) ∨
  ∃ x, a = some x ∧ len ≤ cap ∧ cap ≤ maxLen ∧ zs.length = cap ∧ (∀ i, i < zs.length → w.cell? (x.add i) = some (.int k (zs.getD i 0))) ∧ ∀ n ∈ zs, (Lit.int k n).wf = true
end Go.Proofs.YtelbdcljdfadbaaDoor

namespace Go.Proofs.YtelbdcljdfadbaaDoor
open Go.RowKit

/-- the cells of a list, from an address on. -/
def Cells (w : World) (a : Option Addr) (xs : List Int) : Prop := xs ≠ [] → ∃ x, a = some x ∧ x.block < w.heap.size ∧ ∀ i d, xs[i]? = some d → w.cell? (x.add i) = some (.int .i64 d)
/-- v is a slice of the integers xs. -/
def Ro (w : World) (v : Value) (xs : List Int) : Prop := ∃ (a : Option Addr) (c : Nat), v = .slice a xs.length c ∧ xs.length ≤ c ∧ c ≤ 9223372036854775807 ∧ Cells w a xs

theorem cell_lt {w : World} {x : Addr} {v : Value} (h : w.cell? x = some v) : x.block < w.heap.size := by
  rcases Nat.lt_or_ge x.block w.heap.size with h1 | h1
  · exact h1
  · simp [World.cell?, Array.getElem?_eq_none h1] at h

theorem add_block (x : Addr) (i : Nat) : (x.add i).block = x.block := by unfold Addr.add; split <;> rfl

theorem Cells.below {w w' : World} {a : Option Addr} {xs : List Int} (h : Cells w a xs) (hb : Below w.heap.size w w') : Cells w' a xs := fun hx => by
  obtain ⟨x, ha, hl, hc⟩ := h hx
  refine ⟨x, ha, Nat.lt_of_lt_of_le hl hb.size, fun i d hd => ?_⟩
  rw [hb.cell (p := x.add i) (by rw [add_block]; exact hl)]
  exact hc i d hd
theorem Ro.below {w w' : World} {v : Value} {xs : List Int} (h : Ro w v xs) (hb : Below w.heap.size w w') : Ro w' v xs := by
  obtain ⟨a, c, h1, h2, h3, h4⟩ := h
  exact ⟨a, c, h1, h2, h3, h4.below hb⟩
theorem Ro.drewN {w : World} {v : Value} {xs : List Int} (h : Ro w v xs) (n : Nat) : Ro (w.drewN n) v xs := h.below (_root_.Go.below_drewN (Below.refl _ _) n)

/-- what came in. -/
theorem IsRow.ro {w : World} {a : Option Addr} {len cap : Nat} {zs : List Int} (h : IsRow .i64 w a len cap zs) : Ro w (.slice a len cap) (zs.take len) := by
  rcases h with ⟨rfl, rfl, rfl, rfl⟩ | ⟨x, rfl, h1, h2, h3, h4, h5⟩
  · exact ⟨none, 0, rfl, Nat.le_refl _, by omega, fun h => absurd rfl h⟩
  · have hl : (zs.take len).length = len := by rw [List.length_take]; omega
    refine ⟨some x, cap, by rw [hl], by omega, by unfold maxLen at h2; omega, fun hx => ⟨x, rfl, ?_, fun i d hd => ?_⟩⟩
    · have h0 : 0 < zs.length := by
        rcases Nat.eq_zero_or_pos zs.length with h | h
        · exact absurd (by rw [List.length_eq_zero_iff.1 h]; simp) hx
        · exact h
      have := cell_lt (x := x.add 0) (h4 0 h0)
      rwa [add_block] at this
    · rw [List.getElem?_take] at hd
      split at hd
      · obtain ⟨hi, he⟩ := List.getElem?_eq_some_iff.1 hd
        rw [h4 i hi, List.getD_eq_getElem?_getD, hd]
        rfl
      · cases hd
end Go.Proofs.YtelbdcljdfadbaaDoor

namespace Go.Proofs.YtelbdcljdfadbaaDoor
open Go.RowKit
set_option linter.unusedVariables false

structure OrV where
  player : Int
  unit : Int
  what : Int
  arg : Int
def OrV.val (k : OrV) : Value := .agg #[.int .i64 k.player, .int .i64 k.unit, .int .i64 k.what, .int .i64 k.arg]
/-- its cells, from an address on. -/
structure Orc (w : World) (y : Addr) (k : OrV) : Prop where
  c0 : w.cell? y = some (.int .i64 k.player)
  c1 : w.cell? ⟨y.block, y.off + 1, none⟩ = some (.int .i64 k.unit)
  c2 : w.cell? ⟨y.block, y.off + 2, none⟩ = some (.int .i64 k.what)
  c3 : w.cell? ⟨y.block, y.off + 3, none⟩ = some (.int .i64 k.arg)
theorem Orc.lt {w : World} {y : Addr} {k : OrV} (h : Orc w y k) : y.block < w.heap.size := cell_lt h.c0
theorem Orc.below {w w' : World} {y : Addr} {k : OrV} {B : Nat} (h : Orc w y k) (hb : Below B w w') (hy : y.block < B) : Orc w' y k :=
  ⟨by rw [hb.cell (p := y) hy]; exact h.c0, by rw [hb.cell (p := ⟨y.block, y.off + 1, none⟩) hy]; exact h.c1, by rw [hb.cell (p := ⟨y.block, y.off + 2, none⟩) hy]; exact h.c2, by rw [hb.cell (p := ⟨y.block, y.off + 3, none⟩) hy]; exact h.c3⟩
/-- v is a slice of them. -/
def Orl (w : World) (v : Value) (ks : List OrV) : Prop := ∃ a c, v = .slice a ks.length c ∧ ks.length ≤ c ∧ c ≤ 9223372036854775807 ∧ (ks ≠ [] → ∃ x, a = some x ∧ x.block < w.heap.size ∧ ∀ (i : Nat) k, ks[i]? = some k → Orc w (x.add (i * 4)) k)
theorem Orl.below {w w' : World} {v : Value} {ks : List OrV} (h : Orl w v ks) (hb : Below w.heap.size w w') : Orl w' v ks := by
  obtain ⟨a, c, h1, h2, h3, h4⟩ := h
  refine ⟨a, c, h1, h2, h3, fun hn => ?_⟩
  obtain ⟨x, e, hx, hk⟩ := h4 hn
  exact ⟨x, e, Nat.lt_of_lt_of_le hx hb.size, fun i k hi => (hk i k hi).below hb (by rw [add_block]; exact hx)⟩
theorem Orc.mk' {w : World} {z : Nat} (k : OrV) (hz : w.heap.size = z) : Orc (w.alloc (.cells #[.int .i64 k.player, .int .i64 k.unit, .int .i64 k.what, .int .i64 k.arg] 63)) ⟨z, 0, none⟩ k := by
  subst hz
  constructor <;> simp
end Go.Proofs.YtelbdcljdfadbaaDoor

namespace Go.Proofs.YtelbdcljdfadbaaDoor.Od
open Tx
set_option linter.unusedVariables false

def bad (o : OrV) : Prop := o.player < 0 ∨ 3 < o.player ∨ o.unit < 0 ∨ 1000000 < o.unit ∨ o.arg < 0 ∨ 1000000 < o.arg ∨ o.what < 0 ∨ 3 < o.what ∨ (o.what = 0 ∧ o.arg ≠ 0)
instance (o : OrV) : Decidable (bad o) := by unfold bad; infer_instance
/-- what is wrong with one. -/
def fault (o : OrV) : Int := if bad o then 1 else 0
theorem fault_bad {o : OrV} (h : bad o) : fault o = 1 := if_pos h
theorem fault_ok {o : OrV} (h : ¬ bad o) : fault o = 0 := if_neg h
/-- what is wrong with some. -/
def faults (l : List OrV) : Int := if 60 < l.length then 4 else if l.any (fun o => decide (bad o)) then 1 else 0

def nStop : List UInt8 := [115, 116, 111, 112]
def nMarch : List UInt8 := [109, 97, 114, 99, 104]
def nGather : List UInt8 := [103, 97, 116, 104, 101, 114]
def nTrain : List UInt8 := [116, 114, 97, 105, 110]
/-- the word for What. -/
def name (n : Int) : List UInt8 := if n = 0 then nStop else if n = 1 then nMarch else if n = 2 then nGather else nTrain
def unname (l : List UInt8) : Option Int := if l = nStop then some 0 else if l = nMarch then some 1 else if l = nGather then some 2 else if l = nTrain then some 3 else none
def words (o : OrV) : List (List UInt8) := dig o.player.toNat :: dig o.unit.toNat :: name o.what :: (if o.what = 0 then [] else [dig o.arg.toNat])
def oline (o : OrV) : List UInt8 := join 32 (words o)
def prt (l : List OrV) : List UInt8 := l.flatMap fun o => oline o ++ [10]

/-- the order of a line's words. -/
def ofWords : List (List UInt8) → Option OrV
  | [a, b, c] => match unname c, whole 7 a, whole 7 b with
    | some n, some x, some y => if n = 0 then some ⟨x, y, 0, 0⟩ else none
    | _, _, _ => none
  | [a, b, c, d] => match unname c, whole 7 a, whole 7 b, whole 7 d with
    | some n, some x, some y, some z => if n = 0 then none else some ⟨x, y, n, z⟩
    | _, _, _, _ => none
  | _ => none
/-- the order of a line: it ends, and has these words. -/
def ofLine (l : List UInt8) : Option OrV := if l.getLast? = some 10 then ofWords (cut 32 l.dropLast) else none
/-- the orders of some lines; else the line, and the fault. -/
def go (acc : List OrV) : List (List UInt8) → (Nat × Int) ⊕ List OrV
  | [] => .inr acc
  | l :: r => match ofLine l with
    | none => .inl (acc.length, 2)
    | some o => if acc.length = 60 then .inl (acc.length, 4) else if fault o = 0 then go (acc ++ [o]) r else .inl (acc.length, fault o)
def parse (s : List UInt8) : (Nat × Int) ⊕ List OrV := go [] (lines s)

theorem unname_name {n : Int} (h0 : 0 ≤ n) (h3 : n ≤ 3) : unname (name n) = some n := by
  rcases (by omega : n = 0 ∨ n = 1 ∨ n = 2 ∨ n = 3) with rfl | rfl | rfl | rfl <;> rfl
theorem name_unname {l : List UInt8} {n : Int} (h : unname l = some n) : name n = l ∧ 0 ≤ n ∧ n ≤ 3 := by
  unfold unname at h
  split at h
  · rename_i e; injection h with h; subst h; exact ⟨e.symm, by decide, by decide⟩
  · split at h
    · rename_i e; injection h with h; subst h; exact ⟨e.symm, by decide, by decide⟩
    · split at h
      · rename_i e; injection h with h; subst h; exact ⟨e.symm, by decide, by decide⟩
      · split at h
        · rename_i e; injection h with h; subst h; exact ⟨e.symm, by decide, by decide⟩
        · cases h
theorem ok_of {o : OrV} (h : ¬ bad o) : 0 ≤ o.player ∧ o.player ≤ 3 ∧ 0 ≤ o.unit ∧ o.unit ≤ 1000000 ∧ 0 ≤ o.arg ∧ o.arg ≤ 1000000 ∧ 0 ≤ o.what ∧ o.what ≤ 3 ∧ (o.what = 0 → o.arg = 0) := by
  unfold bad at h
  omega
theorem name_free (n : Int) (c : UInt8) (h : c.toNat < 97) : c ∉ name n := by
  unfold name
  have : ∀ l : List UInt8, (l.all fun b => decide (97 ≤ b.toNat)) = true → c ∉ l := fun l hl hm => by
    have := List.all_eq_true.1 hl c hm
    simp at this
    omega
  split
  · exact this _ (by decide)
  · split
    · exact this _ (by decide)
    · split
      · exact this _ (by decide)
      · exact this _ (by decide)
theorem words_free (o : OrV) (c : UInt8) (hc : c.toNat < 48) : ∀ w ∈ words o, c ∉ w := by
  intro w hw
  unfold words at hw
  simp only [List.mem_cons] at hw
  rcases hw with rfl | rfl | rfl | hw
  · exact dig_free _ c hc
  · exact dig_free _ c hc
  · exact name_free _ c (by omega)
  · split at hw
    · simp at hw
    · simp at hw
      subst hw
      exact dig_free _ c hc
theorem mem_join {c d : UInt8} : ∀ {ws : List (List UInt8)}, d ∈ join c ws → d = c ∨ ∃ w ∈ ws, d ∈ w
  | [], h => by simp [join] at h
  | [w], h => .inr ⟨w, List.mem_cons_self .., h⟩
  | w :: v :: ws, h => by
    rw [join_cons (by simp), List.mem_append, List.mem_cons] at h
    rcases h with h | h | h
    · exact .inr ⟨w, List.mem_cons_self .., h⟩
    · exact .inl h
    · rcases mem_join h with h | ⟨x, hx, hd⟩
      · exact .inl h
      · exact .inr ⟨x, List.mem_cons_of_mem _ hx, hd⟩
theorem oline_free (o : OrV) : (10 : UInt8) ∉ oline o := by
  intro h
  rcases mem_join h with h | ⟨w, hw, hd⟩
  · revert h; decide
  · exact words_free o 10 (by decide) w hw hd
theorem whole7 {n : Int} (h0 : 0 ≤ n) (h : n ≤ 1000000) : whole 7 (dig n.toNat) = some n.toNat := whole_dig (by decide) (by show n.toNat < 10000000; omega)
theorem ofWords_words {o : OrV} (h : ¬ bad o) : ofWords (words o) = some o := by
  obtain ⟨p, u, n, a⟩ := o
  obtain ⟨h1, h2, h3, h4, h5, h6, h7, h8, h9⟩ := ok_of h
  simp only at *
  have e1 := whole7 h1 (by omega)
  have e2 := whole7 h3 h4
  have e3 := whole7 h5 h6
  have e4 := unname_name h7 h8
  by_cases hn : n = 0
  · subst hn
    have ha := h9 rfl
    subst ha
    show ofWords [dig p.toNat, dig u.toNat, name 0] = _
    simp only [ofWords, e4, e1, e2]
    simp
    omega
  · have : words ⟨p, u, n, a⟩ = [dig p.toNat, dig u.toNat, name n, dig a.toNat] := by
      unfold words
      simp [hn]
    rw [this]
    simp only [ofWords, e4, e1, e2, e3]
    simp [hn]
    omega
theorem words_ofWords {ws : List (List UInt8)} {o : OrV} (h : ofWords ws = some o) : words o = ws := by
  match ws, h with
  | [], h => simp [ofWords] at h
  | [a], h => simp [ofWords] at h
  | [a, b], h => simp [ofWords] at h
  | [a, b, c], h =>
    simp only [ofWords] at h
    cases h1 : unname c with
    | none => rw [h1] at h; simp at h
    | some n =>
      cases h2 : whole 7 a with
      | none => rw [h2] at h; simp at h
      | some x =>
        cases h3 : whole 7 b with
        | none => rw [h3] at h; simp at h
        | some y =>
          rw [h1, h2, h3] at h
          by_cases hn : n = 0
          · subst hn
            simp at h
            subst h
            have e := (name_unname h1).1
            show [dig (x : Int).toNat, dig (y : Int).toNat, name 0] = [a, b, c]
            rw [Int.toNat_natCast, Int.toNat_natCast, dig_whole h2, dig_whole h3, e]
          · simp [hn] at h
  | [a, b, c, d], h =>
    simp only [ofWords] at h
    cases h1 : unname c with
    | none => rw [h1] at h; simp at h
    | some n =>
      cases h2 : whole 7 a with
      | none => rw [h2] at h; simp at h
      | some x =>
        cases h3 : whole 7 b with
        | none => rw [h3] at h; simp at h
        | some y =>
          cases h4 : whole 7 d with
          | none => rw [h4] at h; simp at h
          | some z =>
            rw [h1, h2, h3, h4] at h
            simp only at h
            split at h
            · cases h
            · rename_i hn
              injection h with h
              subst h
              have e := (name_unname h1).1
              unfold words
              simp only [if_neg hn]
              rw [Int.toNat_natCast, Int.toNat_natCast, Int.toNat_natCast, dig_whole h2, dig_whole h3, dig_whole h4, e]
  | a :: b :: c :: d :: e :: r, h => simp [ofWords] at h
theorem ofLine_end (l : List UInt8) : ofLine (l ++ [10]) = ofWords (cut 32 l) := by
  unfold ofLine
  simp
theorem ofLine_open {l : List UInt8} (h : (10 : UInt8) ∉ l) : ofLine l = none := by
  unfold ofLine
  rw [if_neg]
  intro e
  exact h (List.mem_of_getLast? e)
theorem lines_prt : ∀ l : List OrV, lines (prt l) = l.map fun o => oline o ++ [10]
  | [] => rfl
  | o :: l => by
    show lines ((oline o ++ [10]) ++ prt l) = _
    rw [List.append_assoc]
    show lines (oline o ++ 10 :: prt l) = _
    rw [lines_app (oline_free o), lines_prt l]
    rfl
theorem go_lines : ∀ {l acc : List OrV}, (∀ o ∈ l, ¬ bad o) → acc.length + l.length ≤ 60 → go acc (l.map fun o => oline o ++ [10]) = .inr (acc ++ l)
  | [], acc, _, _ => by simp [go]
  | o :: l, acc, h, hn => by
    have ho := h o (List.mem_cons_self ..)
    have e : cut 32 (oline o) = words o := cut_join (by simp [words]) (words_free o 32 (by decide))
    simp only [List.length_cons] at hn
    rw [List.map_cons, go, ofLine_end, e, ofWords_words ho]
    simp only
    rw [if_neg (by omega), if_pos (fault_ok ho), go_lines (fun x hx => h x (List.mem_cons_of_mem _ hx)) (by simp; omega)]
    simp
theorem faults_ok {l : List OrV} (h : faults l = 0) : l.length ≤ 60 ∧ ∀ o ∈ l, ¬ bad o := by
  unfold faults at h
  split at h
  · omega
  · split at h
    · omega
    · rename_i h1 h2
      rw [Bool.not_eq_true, List.any_eq_false] at h2
      exact ⟨by omega, fun o ho => by simpa using h2 o ho⟩
theorem faults_of {l : List OrV} (h : l.length ≤ 60) (hb : ∀ o ∈ l, ¬ bad o) : faults l = 0 := by
  unfold faults
  rw [if_neg (by omega), if_neg]
  rw [Bool.not_eq_true, List.any_eq_false]
  intro o ho
  simpa using hb o ho
/-- what is printed is read as it was. -/
theorem parse_prt {l : List OrV} (h : faults l = 0) : parse (prt l) = .inr l := by
  obtain ⟨h1, h2⟩ := faults_ok h
  unfold parse
  rw [lines_prt, go_lines h2 (by simpa using h1)]
  rfl
theorem go_back : ∀ {ls : List (List UInt8)} {acc l : List OrV}, go acc ls = .inr l → acc.length ≤ 60 → ∃ l', l = acc ++ l' ∧ prt l' = ls.flatten ∧ l.length ≤ 60 ∧ ∀ o ∈ l', ¬ bad o
  | [], acc, l, h, ha => by
    unfold go at h
    injection h with h
    subst h
    exact ⟨[], by simp, rfl, ha, by simp⟩
  | x :: r, acc, l, h, ha => by
    unfold go at h
    split at h
    · cases h
    · rename_i o ho
      split at h
      · cases h
      · rename_i h60
        split at h
        · rename_i h0
          obtain ⟨l', e1, e2, e3, e4⟩ := go_back h (by simp; omega)
          refine ⟨o :: l', by rw [e1]; simp, ?_, e3, ?_⟩
          · show (oline o ++ [10]) ++ prt l' = _
            unfold ofLine at ho
            split at ho
            · rename_i hx
              have hw := words_ofWords ho
              have : oline o = x.dropLast := by unfold oline; rw [hw, join_cut]
              obtain ⟨ys, hy⟩ := List.getLast?_eq_some_iff.1 hx
              rw [List.flatten_cons, e2, this, hy]
              simp
            · cases ho
          · intro y hy
            rcases List.mem_cons.1 hy with rfl | hy
            · intro hb
              rw [fault_bad hb] at h0
              omega
            · exact e4 y hy
        · cases h
/-- what any text is read as is printed as that text. -/
theorem prt_parse {s : List UInt8} {l : List OrV} (h : parse s = .inr l) : prt l = s ∧ faults l = 0 := by
  unfold parse at h
  obtain ⟨l', e1, e2, e3, e4⟩ := go_back h (by simp)
  rw [List.nil_append] at e1
  subst e1
  exact ⟨by rw [e2, lines_sum], faults_of e3 e4⟩

/-- the same, at each end of a line: what the document's way gives. -/
def goCut (acc : List OrV) : List (List UInt8) → (Nat × Int) ⊕ List OrV
  | [] => .inr acc
  | [w] => if w = [] then .inr acc else .inl (acc.length, 2)
  | w :: v :: r => match ofWords (cut 32 w) with
    | none => .inl (acc.length, 2)
    | some o => if acc.length = 60 then .inl (acc.length, 4) else if fault o = 0 then goCut (acc ++ [o]) (v :: r) else .inl (acc.length, fault o)
theorem goCut_go (s : List UInt8) : ∀ acc, goCut acc (cut 10 s) = go acc (lines s) := by
  refine lines_ind (p := fun s => ∀ acc, goCut acc (cut 10 s) = go acc (lines s)) (fun acc => rfl) (fun w h e acc => ?_) (fun w r h ih acc => ?_) s
  · rw [cut_word h, lines_word h e]
    unfold goCut go
    rw [if_neg e, ofLine_open h]
  · rw [cut_app h, lines_app h]
    cases hc : cut 10 r with
    | nil => exact absurd hc (cut_ne 10 r)
    | cons v vs =>
      unfold goCut go
      rw [ofLine_end]
      cases ofWords (cut 32 w) with
      | none => rfl
      | some o =>
        simp only
        rw [← ih, hc]
end Go.Proofs.YtelbdcljdfadbaaDoor.Od

namespace Go.Proofs.YtelbdcljdfadbaaDoor

/-- v tells the fault n. -/
def Er (v : Value) (n : Int) : Prop := (n = 0 ∧ v = .nilIface) ∨ (n ≠ 0 ∧ v = .iface 86 (.int .i64 n))
theorem Er.nil : Er .nilIface 0 := .inl ⟨rfl, rfl⟩
theorem Er.no {n : Int} (h : n ≠ 0) : Er (.iface 86 (.int .i64 n)) n := .inr ⟨h, rfl⟩
end Go.Proofs.YtelbdcljdfadbaaDoor

namespace Go.Proofs.YtelbdcljdfadbaaDoor
open Go.RowKit
set_option linter.unusedVariables false

set_option maxHeartbeats 400000 in
theorem owin_any (x b : Int) (w : World) :
    Calls Tryd.prog 90 #[.int .i64 x, .int .i64 b] w fun e w' => e = .returned (.bool (decide (0 ≤ x ∧ x ≤ b))) ∧ w' = w := by
  by_cases h1 : 0 ≤ x
  · by_cases h2 : x ≤ b
    · go_enter Tryd.func90, Tryd.ntmps90
      go_wp2
      go_ret
      exact ⟨by simp [h1, h2], rfl⟩
    · go_enter Tryd.func90, Tryd.ntmps90
      go_wp2
      go_ret
      exact ⟨by simp; omega, rfl⟩
  · go_enter Tryd.func90, Tryd.ntmps90
    go_wp2
    go_ret
    exact ⟨by simp; omega, rfl⟩
theorem owin_is (x b : Int) (r : Bool) (h : decide (0 ≤ x ∧ x ≤ b) = r) : Hid (∀ w, Calls Tryd.prog 90 #[.int .i64 x, .int .i64 b] w fun e w' => e = .returned (.bool r) ∧ w' = w) :=
  fun w => (owin_any x b w).mono fun e w' ⟨h', hw⟩ => ⟨by rw [h', h], hw⟩

def OrdSays (o : OrV) (w : World) (e : Ending) (w' : World) : Prop := ∃ v, e = .returned v ∧ Er v (Od.fault o) ∧ Below w.heap.size w w'
set_option maxRecDepth 100000 in
set_option maxHeartbeats 4000000 in
theorem checkOrder_any (o : OrV) (w : World) : Calls Tryd.prog 59 #[o.val] w (OrdSays o w) := by
  obtain ⟨p, u, n, a⟩ := o
  have BB : Hid (Below w.heap.size w (w.alloc (Obj.cells #[.int .i64 p, .int .i64 u, .int .i64 n, .int .i64 a] 63))) := (Below.refl _ _).alloc (Nat.le_refl _) _
  have bad1 : Od.bad ⟨p, u, n, a⟩ → ∀ w', Hid (Below w.heap.size w w') → OrdSays ⟨p, u, n, a⟩ w (.returned (.iface 86 (.int .i64 1))) w' := fun hb w' hB => ⟨_, rfl, by rw [Od.fault_bad hb]; exact Er.no (by decide), hB⟩
  have B1 : Hid (Od.bad ⟨p, u, n, a⟩ → ∀ w', Hid (Below w.heap.size w w') → OrdSays ⟨p, u, n, a⟩ w (.returned (.iface 86 (.int .i64 1))) w') := bad1
  clear bad1
  unfold OrV.val
  simp only
  by_cases h1 : 0 ≤ p ∧ p ≤ 3
  · have W1 := owin_is p 3 true (decide_eq_true h1)
    by_cases h2 : 0 ≤ u ∧ u ≤ 1000000
    · have W2 := owin_is u 1000000 true (decide_eq_true h2)
      by_cases h3 : 0 ≤ a ∧ a ≤ 1000000
      · have W3 := owin_is a 1000000 true (decide_eq_true h3)
        by_cases h4 : 0 ≤ n ∧ n ≤ 3
        · have W4 := owin_is n 3 true (decide_eq_true h4)
          by_cases h5 : n = 0
          · subst h5
            by_cases h6 : a = 0
            · subst h6
              go_enter Tryd.func59, Tryd.ntmps59
              go_wp2_with fail
              refine (W1.out _).mono ?_
              rintro e w' ⟨rfl, rfl⟩
              go_wp2_with fail
              refine (W2.out _).mono ?_
              rintro e w' ⟨rfl, rfl⟩
              go_wp2_with fail
              refine (W3.out _).mono ?_
              rintro e w' ⟨rfl, rfl⟩
              go_wp2_with fail
              refine (W4.out _).mono ?_
              rintro e w' ⟨rfl, rfl⟩
              go_wp2
              go_ret
              exact ⟨_, rfl, by rw [Od.fault_ok (by unfold Od.bad; simp only; omega)]; exact Er.nil, BB⟩
            · have h6b : (a == 0) = false := beq_eq_false_iff_ne.2 h6
              go_enter Tryd.func59, Tryd.ntmps59
              go_wp2_with fail
              refine (W1.out _).mono ?_
              rintro e w' ⟨rfl, rfl⟩
              go_wp2_with fail
              refine (W2.out _).mono ?_
              rintro e w' ⟨rfl, rfl⟩
              go_wp2_with fail
              refine (W3.out _).mono ?_
              rintro e w' ⟨rfl, rfl⟩
              go_wp2_with fail
              refine (W4.out _).mono ?_
              rintro e w' ⟨rfl, rfl⟩
              go_wp2
              go_ret
              exact B1.out (.inr (.inr (.inr (.inr (.inr (.inr (.inr (.inr ⟨rfl, h6⟩)))))))) _ BB
          · have h5b : (n == 0) = false := beq_eq_false_iff_ne.2 h5
            go_enter Tryd.func59, Tryd.ntmps59
            go_wp2_with fail
            refine (W1.out _).mono ?_
            rintro e w' ⟨rfl, rfl⟩
            go_wp2_with fail
            refine (W2.out _).mono ?_
            rintro e w' ⟨rfl, rfl⟩
            go_wp2_with fail
            refine (W3.out _).mono ?_
            rintro e w' ⟨rfl, rfl⟩
            go_wp2_with fail
            refine (W4.out _).mono ?_
            rintro e w' ⟨rfl, rfl⟩
            go_wp2
            go_ret
            exact ⟨_, rfl, by rw [Od.fault_ok (by unfold Od.bad; simp only; omega)]; exact Er.nil, BB⟩
        · have W4 := owin_is n 3 false (decide_eq_false h4)
          go_enter Tryd.func59, Tryd.ntmps59
          go_wp2_with fail
          refine (W1.out _).mono ?_
          rintro e w' ⟨rfl, rfl⟩
          go_wp2_with fail
          refine (W2.out _).mono ?_
          rintro e w' ⟨rfl, rfl⟩
          go_wp2_with fail
          refine (W3.out _).mono ?_
          rintro e w' ⟨rfl, rfl⟩
          go_wp2_with fail
          refine (W4.out _).mono ?_
          rintro e w' ⟨rfl, rfl⟩
          go_wp2
          go_ret
          exact B1.out (by unfold Od.bad; simp only; omega) _ BB
      · have W3 := owin_is a 1000000 false (decide_eq_false h3)
        go_enter Tryd.func59, Tryd.ntmps59
        go_wp2_with fail
        refine (W1.out _).mono ?_
        rintro e w' ⟨rfl, rfl⟩
        go_wp2_with fail
        refine (W2.out _).mono ?_
        rintro e w' ⟨rfl, rfl⟩
        go_wp2_with fail
        refine (W3.out _).mono ?_
        rintro e w' ⟨rfl, rfl⟩
        go_wp2
        go_ret
        exact B1.out (by unfold Od.bad; simp only; omega) _ BB
    · have W2 := owin_is u 1000000 false (decide_eq_false h2)
      go_enter Tryd.func59, Tryd.ntmps59
      go_wp2_with fail
      refine (W1.out _).mono ?_
      rintro e w' ⟨rfl, rfl⟩
      go_wp2_with fail
      refine (W2.out _).mono ?_
      rintro e w' ⟨rfl, rfl⟩
      go_wp2
      go_ret
      exact B1.out (by unfold Od.bad; simp only; omega) _ BB
  · have W1 := owin_is p 3 false (decide_eq_false h1)
    go_enter Tryd.func59, Tryd.ntmps59
    go_wp2_with fail
    refine (W1.out _).mono ?_
    rintro e w' ⟨rfl, rfl⟩
    go_wp2
    go_ret
    exact B1.out (by unfold Od.bad; simp only; omega) _ BB
end Go.Proofs.YtelbdcljdfadbaaDoor

namespace Go.Proofs.YtelbdcljdfadbaaDoor
open Go.RowKit
set_option linter.unusedVariables false

/-- orders.names is laid. -/
structure Nm (w : World) : Prop where
  c0 : w.cell? ⟨0, 0, none⟩ = some (.string ⟨#[115, 116, 111, 112]⟩)
  c1 : w.cell? ⟨0, 1, none⟩ = some (.string ⟨#[109, 97, 114, 99, 104]⟩)
  c2 : w.cell? ⟨0, 2, none⟩ = some (.string ⟨#[103, 97, 116, 104, 101, 114]⟩)
  c3 : w.cell? ⟨0, 3, none⟩ = some (.string ⟨#[116, 114, 97, 105, 110]⟩)
theorem Nm.lt {w : World} (h : Nm w) : 0 < w.heap.size := cell_lt h.c0
theorem Nm.below {w w' : World} {B : Nat} (h : Nm w) (hb : Below B w w') (hB : w.heap.size ≤ B) : Nm w' := by
  have l := h.lt
  refine ⟨?_, ?_, ?_, ?_⟩
  · rw [hb.cell (p := ⟨0, 0, none⟩) (Nat.lt_of_lt_of_le l hB)]; exact h.c0
  · rw [hb.cell (p := ⟨0, 1, none⟩) (Nat.lt_of_lt_of_le l hB)]; exact h.c1
  · rw [hb.cell (p := ⟨0, 2, none⟩) (Nat.lt_of_lt_of_le l hB)]; exact h.c2
  · rw [hb.cell (p := ⟨0, 3, none⟩) (Nat.lt_of_lt_of_le l hB)]; exact h.c3

def W0 : DataW Unit := .map []
def W1 : DataW Unit := W0.put (.string Od.nStop) (.lit (.int .i64 0))
def W2 : DataW Unit := W1.put (.string Od.nMarch) (.lit (.int .i64 1))
def W3 : DataW Unit := W2.put (.string Od.nGather) (.lit (.int .i64 2))
def W4 : DataW Unit := W3.put (.string Od.nTrain) (.lit (.int .i64 3))
/-- block b is the map of the words for What. -/
def Wm (w : World) (b : Nat) (n : Nat) (D : DataW Unit) : Prop := w.ownsMap Tryd.prog 9 (plainElem Tryd.prog 3) b n D
theorem w_key {l : List UInt8} : WideAt.IsKeyLit (.string l) := by
  first | exact trivial | (unfold WideAt.IsKeyLit; trivial) | simp [WideAt.IsKeyLit]
theorem str_ne {a b : List UInt8} (h : a ≠ b) : (Lit.string a) ≠ .string b := fun e => h (by injection e)

theorem w4_has (l : List UInt8) : Maps.has W4 (.string l) = (Od.unname l).isSome := by
  have m0 : Maps.IsMap W0 := Maps.isMap_empty
  have m1 : Maps.IsMap W1 := m0.put _ _
  have m2 : Maps.IsMap W2 := m1.put _ _
  have m3 : Maps.IsMap W3 := m2.put _ _
  unfold Od.unname
  by_cases h3 : l = Od.nTrain
  · subst h3
    unfold W4
    rw [Maps.has_put_same m3 w_key]
    rfl
  · unfold W4
    rw [Maps.has_put_other (str_ne h3)]
    by_cases h2 : l = Od.nGather
    · subst h2
      unfold W3
      rw [Maps.has_put_same m2 w_key]
      rfl
    · unfold W3
      rw [Maps.has_put_other (str_ne h2)]
      by_cases h1 : l = Od.nMarch
      · subst h1
        unfold W2
        rw [Maps.has_put_same m1 w_key]
        rfl
      · unfold W2
        rw [Maps.has_put_other (str_ne h1)]
        by_cases h0 : l = Od.nStop
        · subst h0
          unfold W1
          rw [Maps.has_put_same m0 w_key]
          rfl
        · unfold W1
          rw [Maps.has_put_other (str_ne h0), if_neg h0, if_neg h1, if_neg h2, if_neg h3]
          rfl
theorem w4_at {l : List UInt8} {n : Int} (h : Od.unname l = some n) (z : DataW Unit) : W4.atKey (.string l) z = .lit (.int .i64 n) := by
  have m0 : Maps.IsMap W0 := Maps.isMap_empty
  have m1 : Maps.IsMap W1 := m0.put _ _
  have m2 : Maps.IsMap W2 := m1.put _ _
  have m3 : Maps.IsMap W3 := m2.put _ _
  unfold Od.unname at h
  by_cases h0 : l = Od.nStop
  · subst h0
    simp at h
    subst h
    unfold W4 W3 W2 W1
    rw [Maps.atKey_put_other (str_ne (by decide)), Maps.atKey_put_other (str_ne (by decide)), Maps.atKey_put_other (str_ne (by decide)), Maps.atKey_put_same m0 w_key]
  · rw [if_neg h0] at h
    by_cases h1 : l = Od.nMarch
    · subst h1
      simp at h
      subst h
      unfold W4 W3 W2
      rw [Maps.atKey_put_other (str_ne (by decide)), Maps.atKey_put_other (str_ne (by decide)), Maps.atKey_put_same m1 w_key]
    · rw [if_neg h1] at h
      by_cases h2 : l = Od.nGather
      · subst h2
        simp at h
        subst h
        unfold W4 W3
        rw [Maps.atKey_put_other (str_ne (by decide)), Maps.atKey_put_same m2 w_key]
      · rw [if_neg h2] at h
        by_cases h3 : l = Od.nTrain
        · subst h3
          simp at h
          subst h
          unfold W4
          rw [Maps.atKey_put_same m3 w_key]
        · rw [if_neg h3] at h
          cases h

theorem elem_int (n : Int) (h : (Lit.int .i64 n).wf = true) : plainElem (H := Unit) Tryd.prog 3 (.int .i64 n) = some (.lit (.int .i64 n), []) := plainElem_int Tryd.underlying3 h

theorem ix_name0 (w : World) : (Instr.index 143 (.agg #[.string ⟨#[115, 116, 111, 112]⟩, .string ⟨#[109, 97, 114, 99, 104]⟩, .string ⟨#[103, 97, 116, 104, 101, 114]⟩, .string ⟨#[116, 114, 97, 105, 110]⟩]) (.int .i64 0)).run Tryd.prog w = .ok (.string ⟨#[115, 116, 111, 112]⟩) w := by kernel_rfl
theorem ix_name1 (w : World) : (Instr.index 143 (.agg #[.string ⟨#[115, 116, 111, 112]⟩, .string ⟨#[109, 97, 114, 99, 104]⟩, .string ⟨#[103, 97, 116, 104, 101, 114]⟩, .string ⟨#[116, 114, 97, 105, 110]⟩]) (.int .i64 1)).run Tryd.prog w = .ok (.string ⟨#[109, 97, 114, 99, 104]⟩) w := by kernel_rfl
theorem ix_name2 (w : World) : (Instr.index 143 (.agg #[.string ⟨#[115, 116, 111, 112]⟩, .string ⟨#[109, 97, 114, 99, 104]⟩, .string ⟨#[103, 97, 116, 104, 101, 114]⟩, .string ⟨#[116, 114, 97, 105, 110]⟩]) (.int .i64 2)).run Tryd.prog w = .ok (.string ⟨#[103, 97, 116, 104, 101, 114]⟩) w := by kernel_rfl
theorem ix_name3 (w : World) : (Instr.index 143 (.agg #[.string ⟨#[115, 116, 111, 112]⟩, .string ⟨#[109, 97, 114, 99, 104]⟩, .string ⟨#[103, 97, 116, 104, 101, 114]⟩, .string ⟨#[116, 114, 97, 105, 110]⟩]) (.int .i64 3)).run Tryd.prog w = .ok (.string ⟨#[116, 114, 97, 105, 110]⟩) w := by kernel_rfl
set_option maxRecDepth 100000 in
set_option maxHeartbeats 4000000 in
theorem names_any (w : World) (hn : Nm w) :
    Calls Tryd.prog 48 #[] w fun e w' => ∃ b, e = .returned (.map (some b)) ∧ Wm w' b 4 W4 ∧ w.heap.size ≤ b ∧ Below w.heap.size w w' := by
  have hmm := @run_makeMap Tryd.prog
  have o0 : Wm (w.alloc (.map #[] 0)) w.heap.size 0 W0 := World.ownsMap_made _ _ _ _
  have b0 : Hid (Below w.heap.size w (w.alloc (.map #[] 0))) := (Below.refl _ _).alloc (Nat.le_refl _) _
  have n1 : Nm (w.alloc (.map #[] 0)) := hn.below b0.out (Nat.le_refl _)
  obtain ⟨c0, c1, c2, c3⟩ := n1
  have O0 : Hid (Wm (w.alloc (.map #[] 0)) w.heap.size 0 W0) := o0
  have i0 := ix_name0
  have i1 := ix_name1
  have i2 := ix_name2
  have i3 := ix_name3
  clear o0 hn
  go_enter Tryd.func48, Tryd.ntmps48
  go_wp2
  refine wp_loop_rounds 5 ?_
  obtain ⟨w1, r1, o1, g1⟩ : ∃ w', (Instr.mapUpdate 93 (.map (some w.heap.size)) (.string ⟨#[115, 116, 111, 112]⟩) (.int .i64 0)).run Tryd.prog (w.alloc (.map #[] 0)) = .ok () w' ∧ Wm w' w.heap.size 1 W1 ∧ (w.alloc (.map #[] 0)).grownBy w' (some w.heap.size) :=
    World.ownsMap.update O0.out (Maps.string_keyed Tryd.underlying9) Tryd.underlying93 (by decide) (WideMaps.keyOf_string_mk Tryd.underlying9 (by decide)) (elem_int 0 (by decide))
  have O1 : Hid (Wm w1 w.heap.size 1 W1) := o1
  have b1 : Hid (Below w.heap.size w w1) := b0.out.grown g1 b0.out.size (fun k hk => by cases hk; exact Nat.le_refl _)
  clear o1 g1
  rw [rounds_succ]
  go_wp2
  obtain ⟨w2, r2, o2, g2⟩ : ∃ w', (Instr.mapUpdate 93 (.map (some w.heap.size)) (.string ⟨#[109, 97, 114, 99, 104]⟩) (.int .i64 1)).run Tryd.prog w1 = .ok () w' ∧ Wm w' w.heap.size 2 W2 ∧ w1.grownBy w' (some w.heap.size) :=
    World.ownsMap.update O1.out (Maps.string_keyed Tryd.underlying9) Tryd.underlying93 (by decide) (WideMaps.keyOf_string_mk Tryd.underlying9 (by decide)) (elem_int 1 (by decide))
  have O2 : Hid (Wm w2 w.heap.size 2 W2) := o2
  have b2 : Hid (Below w.heap.size w w2) := b1.out.grown g2 b1.out.size (fun k hk => by cases hk; exact Nat.le_refl _)
  clear o2 g2
  rw [rounds_succ]
  go_wp2
  obtain ⟨w3, r3, o3, g3⟩ : ∃ w', (Instr.mapUpdate 93 (.map (some w.heap.size)) (.string ⟨#[103, 97, 116, 104, 101, 114]⟩) (.int .i64 2)).run Tryd.prog w2 = .ok () w' ∧ Wm w' w.heap.size 3 W3 ∧ w2.grownBy w' (some w.heap.size) :=
    World.ownsMap.update O2.out (Maps.string_keyed Tryd.underlying9) Tryd.underlying93 (by decide) (WideMaps.keyOf_string_mk Tryd.underlying9 (by decide)) (elem_int 2 (by decide))
  have O3 : Hid (Wm w3 w.heap.size 3 W3) := o3
  have b3 : Hid (Below w.heap.size w w3) := b2.out.grown g3 b2.out.size (fun k hk => by cases hk; exact Nat.le_refl _)
  clear o3 g3
  rw [rounds_succ]
  go_wp2
  obtain ⟨w4, r4, o4, g4⟩ : ∃ w', (Instr.mapUpdate 93 (.map (some w.heap.size)) (.string ⟨#[116, 114, 97, 105, 110]⟩) (.int .i64 3)).run Tryd.prog w3 = .ok () w' ∧ Wm w' w.heap.size 4 W4 ∧ w3.grownBy w' (some w.heap.size) :=
    World.ownsMap.update O3.out (Maps.string_keyed Tryd.underlying9) Tryd.underlying93 (by decide) (WideMaps.keyOf_string_mk Tryd.underlying9 (by decide)) (elem_int 3 (by decide))
  have O4 : Hid (Wm w4 w.heap.size 4 W4) := o4
  have b4 : Hid (Below w.heap.size w w4) := b3.out.grown g4 b3.out.size (fun k hk => by cases hk; exact Nat.le_refl _)
  clear o4 g4
  rw [rounds_succ]
  go_wp2
  rw [rounds_succ]
  go_wp2
  go_ret
  exact ⟨_, rfl, O4, Nat.le_refl _, b4⟩
end Go.Proofs.YtelbdcljdfadbaaDoor

namespace Go.Proofs.YtelbdcljdfadbaaDoor
open Go.RowKit
set_option linter.unusedVariables false

/-- what is cut: all words; or five of more. -/
def Cut5 (l : List UInt8) (R : List ByteArray) : Prop := R.map (·.data.toList) = Tx.cut 32 l ∨ (R.length = 5 ∧ 5 ≤ (Tx.cut 32 l).length)
def Split5Says (l : List UInt8) (w : World) (e : Ending) (w' : World) : Prop := ∃ (R : List ByteArray) (N : Nat), e = .returned (.slice (some ⟨w.heap.size, 0, none⟩) R.length N) ∧ R ≠ [] ∧ R.length ≤ N ∧ N ≤ 5 ∧ Cut5 l R ∧ (∀ (j : Nat) x, R[j]? = some x → w'.cell? ⟨w.heap.size, j, none⟩ = some (.string x)) ∧ (∀ x ∈ R, x.size ≤ l.length) ∧ Os w' w.heap.size (.slice (some ⟨w.heap.size, 0, none⟩) R.length N) R ∧ Below w.heap.size w w'

set_option maxRecDepth 100000 in
set_option maxHeartbeats 4000000 in
theorem split5_any (s : ByteArray) (w : World) (hs : s.size ≤ 9223372036854775806) :
    Calls Tryd.prog 144 #[.string s, .string ⟨#[32]⟩, .int .i64 0, .int .i64 5] w (Split5Says s.data.toList w) := by
  obtain ⟨N, hN⟩ : ∃ N : Nat, N = min 5 (s.size + 1) := ⟨_, rfl⟩
  have hN1 : 1 ≤ N := by omega
  have hN2 : N ≤ 5 := by omega
  have hm := makeS N (by omega) w
  have hmin : min (5 : Int) ((s.size : Int) + 1) = (N : Int) := by omega
  obtain ⟨l0, hl0⟩ : ∃ l0, s.data.toList = l0 := ⟨_, rfl⟩
  have L0 : Hid (s.data.toList = l0) := hl0
  have Ls : Hid (l0.length = s.size) := by unfold Hid; rw [← hl0]; rfl
  have HN : Hid (N = min 5 (s.size + 1)) := hN
  have S0 : Hid (StA (w.alloc (.cells ((List.replicate N (⟨#[]⟩ : ByteArray)).map Value.string).toArray 9)) w.heap.size (List.replicate N ⟨#[]⟩)) := by
    unfold Hid StA
    rw [heap_alloc_new]
  have B0 : Hid (Below w.heap.size w (w.alloc (.cells ((List.replicate N (⟨#[]⟩ : ByteArray)).map Value.string).toArray 9))) := (Below.refl _ _).alloc (Nat.le_refl _) _
  rw [hl0]
  clear hl0 hN
  generalize w.alloc (.cells ((List.replicate N (⟨#[]⟩ : ByteArray)).map Value.string).toArray 9) = w1 at *
  go_enter Tryd.func144, Tryd.ntmps144
  go_wp2_with fail
  go_loopw [0, 10] (fun v i W' => ∃ (r : ByteArray) (ds xs : List ByteArray), v = .string r ∧ i = .int .i64 (ds.length : Nat) ∧ ds.length ≤ N - 1 ∧ xs.length = N ∧ xs.take ds.length = ds ∧ StA W' w.heap.size xs ∧ Tx.cut 32 l0 = ds.map (·.data.toList) ++ Tx.cut 32 r.data.toList ∧ r.size + ds.length ≤ l0.length ∧ (∀ x ∈ ds, x.size ≤ l0.length) ∧ Below w.heap.size w W') (fun _ i _ => N - (intOf i).toNat)
  case atStart => exact ⟨s, [], List.replicate N ⟨#[]⟩, rfl, rfl, by simp, by simp, rfl, S0, by rw [L0.out]; rfl, by rw [Ls.out]; simp, by simp, B0⟩
  case round =>
    obtain ⟨r, ds, xs, rfl, rfl, hd, hxl, htk, hst, hcut, hrz, hdz, hb⟩ := hrel
    have X : Hid (StA wr w.heap.size xs) := hst
    have B : Hid (Below w.heap.size w wr) := hb
    have Tk : Hid (xs.take ds.length = ds) := htk
    have Ct : Hid (Tx.cut 32 l0 = ds.map (·.data.toList) ++ Tx.cut 32 r.data.toList) := hcut
    have Rz : Hid (r.size + ds.length ≤ l0.length) := hrz
    have Dz : Hid (∀ x ∈ ds, x.size ≤ l0.length) := hdz
    have hrs : r.size ≤ 9223372036854775806 := by have := Ls.out; omega
    obtain ⟨xi, hxi⟩ : ∃ xi, xs[ds.length]? = some xi := ⟨_, List.getElem?_eq_getElem (by omega)⟩
    have hiN : (ds.length : Int) < (N : Int) := by omega
    clear hst hb htk hcut hrz hdz
    by_cases he : ds.length = N - 1
    · have CT : Hid (Cut5 l0 (ds ++ [r])) := by
        by_cases h5 : N = 5
        · right
          have h1 := cut_pos 32 r.data.toList
          refine ⟨by simp; omega, ?_⟩
          rw [Ct.out, List.length_append, List.length_map]
          omega
        · left
          have h1 : r.size = 0 := by
            have h2 := HN.out
            have h3 := Ls.out
            have h4 := Rz.out
            omega
          have h2 : r.data.toList = [] := List.length_eq_zero_iff.1 (by rw [size_list]; exact h1)
          rw [Ct.out, List.map_append, h2]
          simp [Tx.cut, h2]
      have hlt : ¬ (ds.length : Int) < (N : Int) - 1 := by omega
      clear he
      have hb2 : StA (wr.setCell ⟨w.heap.size, ds.length, none⟩ (.string r)) w.heap.size (xs.set ds.length r) := X.out.set _ _
      have yi : wr.cell? ⟨w.heap.size, ds.length, none⟩ = some (.string xi) := X.out.cell hxi
      have fi := X.out.thaw ds.length
      have HX : Hid (StA (wr.setCell ⟨w.heap.size, ds.length, none⟩ (.string r)) w.heap.size (xs.set ds.length r)) := hb2
      have HB : Hid (Below w.heap.size w (wr.setCell ⟨w.heap.size, ds.length, none⟩ (.string r))) := B.out.setCell (p := ⟨w.heap.size, ds.length, none⟩) (Nat.le_refl _) _
      have HR : Hid (∀ (j : Nat) x, (ds ++ [r])[j]? = some x → (xs.set ds.length r)[j]? = some x) := fun j x hj => by
        by_cases hjl : j < ds.length
        · rw [List.getElem?_append_left hjl] at hj
          rw [List.getElem?_set_ne (by omega)]
          rw [← Tk.out, List.getElem?_take, if_pos hjl] at hj
          exact hj
        · rw [List.getElem?_append_right (by omega)] at hj
          have hz : j - ds.length = 0 := by
            have := (List.getElem?_eq_some_iff.1 hj).1
            simp at this
            omega
          rw [hz] at hj
          simp at hj
          have hjj : j = ds.length := by omega
          subst hjj
          rw [List.getElem?_set_self (by omega), hj]
      clear hb2 hxi
      go_wp2
      go_ret
      refine ⟨ds ++ [r], N, by rw [List.length_append]; rfl, by simp, by simp; omega, hN2, CT.out, fun j x hj => HX.out.cell (HR.out j x hj), fun x hx => ?_, HX.out.os (by simpa using hxl) (by omega) (by simp; omega) HR.out, HB⟩
      rcases List.mem_append.1 hx with hx | hx
      · exact Dz.out x hx
      · simp at hx
        subst hx
        have := Rz.out
        omega
    · have hlt : (ds.length : Int) < (N : Int) - 1 := by omega
      have IX := idx1_any r 32 wr
      rcases idxb_spec 32 r.data.toList with ⟨h1, h2⟩ | ⟨k, h1, h2, h3, h4⟩
      · rw [h1] at IX
        have IX' : Hid (Calls Tryd.prog 165 #[.string r, .string ⟨#[32]⟩] wr fun e w' => e = .returned (.int .i64 (-1)) ∧ w' = wr) := IX
        have CT : Hid (Cut5 l0 (ds ++ [r])) := by
          left
          rw [Ct.out, List.map_append, Tx.cut_word h2]
          rfl
        clear IX h1 h2
        go_wp2_with fail
        refine IX'.out.mono ?_
        rintro e w2 ⟨rfl, hw2⟩
        obtain rfl := hw2.symm
        clear IX'
        have hb2 : StA (wr.setCell ⟨w.heap.size, ds.length, none⟩ (.string r)) w.heap.size (xs.set ds.length r) := X.out.set _ _
        have yi : wr.cell? ⟨w.heap.size, ds.length, none⟩ = some (.string xi) := X.out.cell hxi
        have fi := X.out.thaw ds.length
        have HX : Hid (StA (wr.setCell ⟨w.heap.size, ds.length, none⟩ (.string r)) w.heap.size (xs.set ds.length r)) := hb2
        have HB : Hid (Below w.heap.size w (wr.setCell ⟨w.heap.size, ds.length, none⟩ (.string r))) := B.out.setCell (p := ⟨w.heap.size, ds.length, none⟩) (Nat.le_refl _) _
        have HR : Hid (∀ (j : Nat) x, (ds ++ [r])[j]? = some x → (xs.set ds.length r)[j]? = some x) := fun j x hj => by
          by_cases hjl : j < ds.length
          · rw [List.getElem?_append_left hjl] at hj
            rw [List.getElem?_set_ne (by omega)]
            rw [← Tk.out, List.getElem?_take, if_pos hjl] at hj
            exact hj
          · rw [List.getElem?_append_right (by omega)] at hj
            have hz : j - ds.length = 0 := by
              have := (List.getElem?_eq_some_iff.1 hj).1
              simp at this
              omega
            rw [hz] at hj
            simp at hj
            have hjj : j = ds.length := by omega
            subst hjj
            rw [List.getElem?_set_self (by omega), hj]
        clear hb2 hxi
        go_wp2
        go_ret
        refine ⟨ds ++ [r], N, by rw [List.length_append]; rfl, by simp, by simp; omega, hN2, CT.out, fun j x hj => HX.out.cell (HR.out j x hj), fun x hx => ?_, HX.out.os (by simpa using hxl) (by omega) (by simp; omega) HR.out, HB⟩
        rcases List.mem_append.1 hx with hx | hx
        · exact Dz.out x hx
        · simp at hx
          subst hx
          have := Rz.out
          omega
      · rw [h1] at IX
        have hk : k < r.size := h2
        have IX' : Hid (Calls Tryd.prog 165 #[.string r, .string ⟨#[32]⟩] wr fun e w' => e = .returned (.int .i64 (k : Nat)) ∧ w' = wr) := IX
        have C2 : Hid (Tx.cut 32 l0 = (ds ++ [r.extract 0 k]).map (·.data.toList) ++ Tx.cut 32 (r.extract (k + 1) r.size).data.toList) := by
          unfold Hid
          rw [Ct.out]
          conv => lhs; rw [h3, Tx.cut_app h4]
          rw [List.map_append, ext_drop]
          simp
        have z1 : (r.extract 0 k).size = k := by rw [← size_list, ext_take, List.length_take, size_list]; omega
        have z2 : (r.extract (k + 1) r.size).size = r.size - (k + 1) := by rw [← size_list, ext_drop, List.length_drop, size_list]
        have X2 : Hid (StA (wr.setCell ⟨w.heap.size, ds.length, none⟩ (.string (r.extract 0 k))) w.heap.size (xs.set ds.length (r.extract 0 k))) := X.out.set _ _
        have B2 : Hid (Below w.heap.size w (wr.setCell ⟨w.heap.size, ds.length, none⟩ (.string (r.extract 0 k)))) := B.out.setCell (p := ⟨w.heap.size, ds.length, none⟩) (Nat.le_refl _) _
        have T2 : Hid ((xs.set ds.length (r.extract 0 k)).take (ds ++ [r.extract 0 k]).length = ds ++ [r.extract 0 k]) := by
          unfold Hid
          rw [List.length_append]
          show (xs.set ds.length (r.extract 0 k)).take (ds.length + 1) = _
          rw [List.take_succ_eq_append_getElem (by simp; omega), List.take_set_of_le (Nat.le_refl _), Tk.out]
          simp
        have R2 : Hid ((r.extract (k + 1) r.size).size + (ds ++ [r.extract 0 k]).length ≤ l0.length) := by
          unfold Hid
          have := Rz.out
          rw [z2, List.length_append]
          simp
          omega
        have D2 : Hid (∀ x ∈ ds ++ [r.extract 0 k], x.size ≤ l0.length) := fun x hx => by
          rcases List.mem_append.1 hx with hx | hx
          · exact Dz.out x hx
          · simp at hx
            subst hx
            have := Rz.out
            omega
        have yi : wr.cell? ⟨w.heap.size, ds.length, none⟩ = some (.string xi) := X.out.cell hxi
        have fi := X.out.thaw ds.length
        clear IX h1 h2 h3 h4 hxi
        go_wp2_with fail
        refine IX'.out.mono ?_
        rintro e w2 ⟨rfl, hw2⟩
        obtain rfl := hw2.symm
        clear IX'
        go_wp2
        go_round
        case rel => exact ⟨r.extract (k + 1) r.size, ds ++ [r.extract 0 k], xs.set ds.length (r.extract 0 k), rfl, by rw [List.length_append]; go_num, by rw [List.length_append]; simp; omega, by simpa using hxl, T2, X2, C2, R2, D2, B2⟩
        case measure => simp [intOf]; omega

theorem splitn5_any (s : ByteArray) (w : World) (hs : s.size ≤ 9223372036854775806) :
    Calls Tryd.prog 118 #[.string s, .string ⟨#[32]⟩, .int .i64 5] w (Split5Says s.data.toList w) := by
  have H : Hid (Calls Tryd.prog 144 #[.string s, .string ⟨#[32]⟩, .int .i64 0, .int .i64 5] w (Split5Says s.data.toList w)) := split5_any s w hs
  go_enter Tryd.func118, Tryd.ntmps118
  go_wp2_with fail
  refine H.out.mono ?_
  rintro e w1 ⟨R, N, rfl, h1, h2, h3, h4, h5, h6, h8, h7⟩
  have K : Hid (Split5Says s.data.toList w (.returned (.slice (some ⟨w.heap.size, 0, none⟩) R.length N)) w1) := ⟨R, N, rfl, h1, h2, h3, h4, h5, h6, h8, h7⟩
  clear h1 h2 h3 h4 h5 h6 h7 h8
  go_wp2
  go_ret
  exact K
end Go.Proofs.YtelbdcljdfadbaaDoor

namespace Go.Proofs.YtelbdcljdfadbaaDoor
open Go.RowKit
set_option linter.unusedVariables false

/-- the table of powers of ten is laid. -/
def Pw (w : World) : Prop := Lib.TabIs Tryd.prog w "internal/strconv.uint64pow10" .u64 Lib.pow10Tab
theorem pw_glob : Tryd.prog.globalNamed "internal/strconv.uint64pow10" = some 4 := by kernel_rfl
theorem var_at {P : Program} {W : World} {n : String} {cs : Array Value} {g : Nat} (hg : P.globalNamed n = some g) (h : W.var? P n = some cs) : ∃ t f, W.heap[g]? = some (.cells cs t f) := by
  unfold World.var? at h
  rw [hg] at h
  simp only [Option.bind_some] at h
  split at h
  · rename_i c t f e
    injection h with h
    subst h
    exact ⟨t, f, e⟩
  · cases h
theorem Pw.below {w w' : World} (h : Pw w) (hb : Below w.heap.size w w') : Pw w' := by
  obtain ⟨t, f, e⟩ := var_at pw_glob h
  have e2 := hb.block _ (lt_of_block e)
  unfold Pw Lib.TabIs World.var? at *
  rw [pw_glob] at h ⊢
  simp only [Option.bind_some] at h ⊢
  rw [e2]
  exact h
theorem dig_dec (n : Nat) : Lib.decDigits n = Tx.dig n := by
  induction n using Nat.strongRecOn with
  | ind n ih =>
    by_cases h : n < 10
    · rw [Lib.decDigits, dif_pos h, Tx.dig_small h]
    · rw [Lib.decDigits, dif_neg h, Tx.dig_big h, ih (n / 10) (by omega)]
theorem join_tx : ∀ (ws : List (List UInt8)), Lib.join ws [32] = Tx.join 32 ws
  | [] => rfl
  | [w] => by rw [Lib.join_one]; rfl
  | w :: v :: ws => by
    have := join_tx (v :: ws)
    rw [Tx.join_cons (by simp), ← this, Lib.join_cons, Lib.join_cons]
    simp [Lib.joinTail]
theorem itoa_any (n : Nat) (hn : n ≤ 1000000) (w : World) (hw : Pw w) :
    Calls Tryd.prog 88 #[.int .i64 (n : Nat)] w fun e w' => e = .returned (.string ⟨(Tx.dig n).toArray⟩) ∧ Below w.heap.size w w' := by
  refine (Tryd.strconv_Itoa (n : Int) (by omega) (by omega) w hw).mono ?_
  rintro e w' ⟨rfl, k, os, rfl⟩
  rw [Lib.itoa_nonneg, dig_dec]
  exact ⟨rfl, rfl, rfl, rfl, by simp [Sort.grow], fun i hi => by
    show (w.heap ++ os)[i]? = _
    rw [Array.getElem?_append, if_pos hi]⟩
end Go.Proofs.YtelbdcljdfadbaaDoor

