/- Texts: cut at a byte and joined again; whole numbers as digits. Plain mathematics. · Texts: their lines. Plain mathematics. · What stays where one block turns. (Big2 has the same words for texts of its own; where both are wanted, let Big2 import this.) · What a walk is told of a slice of integers that came in. · Lists of integers: what a slice holds. · api.Order: records in memory. · Orders: what is wrong with them, their text, and back. Plain mathematics. · The reference's orders: the fault of one. · The program's orders: which of two stands ahead. · A stable order: elements with the place that they had. Plain mathematics. · orders.unit as a map's key; a map of such keys that a call makes. · orders.Last as mathematics: each unit's last order, and those to train. · The reference: Orders (what is wrong with orders), behind. · The reference's Last as mathematics: an order stays where no later one takes its place. · Slices of api.Order that the call itself makes, by append. · Lists of integers that the call itself makes, by append. · Lists of integers: a whole list behind another one. · Slices of api.Order: a whole list behind another one. -/
import Derived.Test.YtelbdcljdfadbaaDoorRows
import Derived.WalkKit
import Derived.WalkSpells
import Derived.WalkLawsBesides
import Derived.ProofKit
import Derived.Deep.QuietTactic
import Derived.BigQuiet
import Derived.Laws.Closers25
import Derived.IntWalk
import Derived.LoopN
import Derived.Maps.Own
import Derived.Maps.OwnOps
import Derived.Maps.Views
import Derived.Carry
import Derived.DeepKeys4
import Derived.Deep.DeepCutAuto
import Derived.OwnWalk
import Derived.Deep.AppendLies
import Derived.Laws.AppendOwnNone
namespace Go.Proofs.YtelbdcljdfadbaaDoor.Tx

/-- a text at each byte c. -/
def cut (c : UInt8) : List UInt8 → List (List UInt8)
  | [] => [[]]
  | b :: r => if b = c then [] :: cut c r else match cut c r with
    | [] => [[b]]
    | w :: ws => (b :: w) :: ws
/-- and back. -/
def join (c : UInt8) : List (List UInt8) → List UInt8
  | [] => []
  | [w] => w
  | w :: v :: ws => w ++ c :: join c (v :: ws)

theorem cut_ne (c : UInt8) (l : List UInt8) : cut c l ≠ [] := by
  cases l with
  | nil => simp [cut]
  | cons b r =>
    unfold cut
    split
    · simp
    · split <;> simp
theorem join_cons {c : UInt8} {w : List UInt8} {ws : List (List UInt8)} (h : ws ≠ []) : join c (w :: ws) = w ++ c :: join c ws := by
  cases ws with
  | nil => exact absurd rfl h
  | cons v ws => rfl
theorem join_cut (c : UInt8) (l : List UInt8) : join c (cut c l) = l := by
  induction l with
  | nil => rfl
  | cons b r ih =>
    unfold cut
    split
    · rename_i h
      rw [join_cons (cut_ne c r), ih, h]
      rfl
    · cases hw : cut c r with
      | nil => exact absurd hw (cut_ne c r)
      | cons w ws =>
        rw [hw] at ih
        cases ws with
        | nil => rw [← ih]; rfl
        | cons v ws => rw [← ih]; rfl
/-- no word has the byte. -/
theorem cut_free (c : UInt8) (l : List UInt8) : ∀ w ∈ cut c l, c ∉ w := by
  induction l with
  | nil => intro w hw; simp [cut] at hw; subst hw; simp
  | cons b r ih =>
    intro w hw
    unfold cut at hw
    split at hw
    · rcases List.mem_cons.1 hw with rfl | hw
      · simp
      · exact ih w hw
    · rename_i hb
      cases hc : cut c r with
      | nil => exact absurd hc (cut_ne c r)
      | cons v vs =>
        rw [hc] at hw ih
        rcases List.mem_cons.1 hw with rfl | hw
        · intro h
          rcases List.mem_cons.1 h with h | h
          · exact hb h.symm
          · exact ih v (List.mem_cons_self ..) h
        · exact ih w (List.mem_cons_of_mem _ hw)
theorem cut_cons {c b : UInt8} {r w : List UInt8} {ws : List (List UInt8)} (h : b ≠ c) (hr : cut c r = w :: ws) : cut c (b :: r) = (b :: w) :: ws := by
  rw [cut, if_neg h, hr]
theorem cut_word {c : UInt8} {w : List UInt8} (h : c ∉ w) : cut c w = [w] := by
  induction w with
  | nil => rfl
  | cons b w ih =>
    rw [List.mem_cons, not_or] at h
    unfold cut
    rw [if_neg (fun e => h.1 e.symm), ih h.2]
theorem cut_app {c : UInt8} {w : List UInt8} (h : c ∉ w) (r : List UInt8) : cut c (w ++ c :: r) = w :: cut c r := by
  induction w with
  | nil => simp [cut]
  | cons b w ih =>
    rw [List.mem_cons, not_or] at h
    rw [List.cons_append, cut_cons (fun e => h.1 e.symm) (ih h.2)]
theorem cut_join {c : UInt8} : ∀ {ws : List (List UInt8)}, ws ≠ [] → (∀ w ∈ ws, c ∉ w) → cut c (join c ws) = ws
  | [], h, _ => absurd rfl h
  | [w], _, h => cut_word (h w (List.mem_cons_self ..))
  | w :: v :: ws, _, h => by
    rw [join_cons (by simp), cut_app (h w (List.mem_cons_self ..)), cut_join (by simp) (fun x hx => h x (List.mem_cons_of_mem _ hx))]

/-- a digit. -/
def isDig (b : UInt8) : Bool := decide (48 ≤ b.toNat) && decide (b.toNat ≤ 57)
/-- the digits of a number. -/
def dig (n : Nat) : List UInt8 := if n < 10 then [(48 + n).toUInt8] else dig (n / 10) ++ [(48 + n % 10).toUInt8]
termination_by n
/-- the number of some digits. -/
def val (l : List UInt8) : Nat := l.foldl (fun n b => n * 10 + (b.toNat - 48)) 0
/-- a whole number of at most so many digits, without a needless 0. -/
def whole (most : Nat) (l : List UInt8) : Option Nat := if l = [] ∨ most < l.length ∨ (l.head? = some 48 ∧ 1 < l.length) then none else if l.all isDig then some (val l) else none

theorem dig_small {n : Nat} (h : n < 10) : dig n = [(48 + n).toUInt8] := by rw [dig, if_pos h]
theorem dig_big {n : Nat} (h : ¬ n < 10) : dig n = dig (n / 10) ++ [(48 + n % 10).toUInt8] := by rw [dig, if_neg h]
theorem sign_nat {d : Nat} (h : d < 10) : ((48 + d).toUInt8).toNat = 48 + d := by
  show (48 + d) % 256 = 48 + d
  omega
theorem val_snoc (l : List UInt8) (b : UInt8) : val (l ++ [b]) = val l * 10 + (b.toNat - 48) := by
  unfold val
  rw [List.foldl_append]
  rfl
theorem dig_ne (n : Nat) : dig n ≠ [] := by
  rw [dig]
  split <;> simp
theorem dig_all (n : Nat) : (dig n).all isDig = true := by
  induction n using Nat.strongRecOn with
  | ind n ih =>
    by_cases h : n < 10
    · rw [dig_small h]
      simp [isDig]
      omega
    · rw [dig_big h, List.all_append, ih (n / 10) (by omega)]
      simp [isDig]
      omega
theorem val_dig (n : Nat) : val (dig n) = n := by
  induction n using Nat.strongRecOn with
  | ind n ih =>
    by_cases h : n < 10
    · rw [dig_small h]
      show 0 * 10 + (((48 + n).toUInt8).toNat - 48) = n
      rw [sign_nat h]
      omega
    · rw [dig_big h, val_snoc, ih (n / 10) (by omega), sign_nat (show n % 10 < 10 by omega)]
      omega
theorem dig_head (n : Nat) : (dig n).head? = some 48 → n = 0 := by
  induction n using Nat.strongRecOn with
  | ind n ih =>
    intro h
    by_cases hn : n < 10
    · rw [dig_small hn] at h
      simp only [List.head?_cons, Option.some.injEq] at h
      have h2 : ((48 + n).toUInt8).toNat = 48 := by rw [h]; rfl
      rw [sign_nat hn] at h2
      omega
    · rw [dig_big hn] at h
      cases hd : dig (n / 10) with
      | nil => exact absurd hd (dig_ne _)
      | cons b r =>
        rw [hd] at h
        have := ih (n / 10) (by omega) (by rw [hd]; simpa using h)
        omega
theorem dig_len {n : Nat} : ∀ {k : Nat}, 0 < k → n < 10 ^ k → (dig n).length ≤ k := by
  induction n using Nat.strongRecOn with
  | ind n ih =>
    intro k hk h
    by_cases hn : n < 10
    · rw [dig_small hn]
      simp
      omega
    · rw [dig_big hn, List.length_append]
      cases k with
      | zero => omega
      | succ k =>
        have hk0 : 0 < k := by
          rcases Nat.eq_zero_or_pos k with rfl | hp
          · simp at h; omega
          · exact hp
        have h2 : n / 10 < 10 ^ k := by
          rw [Nat.pow_succ] at h
          omega
        have := ih (n / 10) (by omega) hk0 h2
        simp
        omega
theorem whole_dig {n most : Nat} (h0 : 0 < most) (h : n < 10 ^ most) : whole most (dig n) = some n := by
  unfold whole
  rw [if_neg, if_pos (dig_all n), val_dig]
  rintro (h1 | h1 | ⟨h1, h2⟩)
  · exact dig_ne n h1
  · have := dig_len h0 h
    omega
  · have := dig_head n h1
    subst this
    rw [dig_small (by decide)] at h2
    simp at h2
theorem dig_val : ∀ (k : Nat) (l : List UInt8), l.length = k → l ≠ [] → ¬ (l.head? = some 48 ∧ 1 < l.length) → l.all isDig = true → dig (val l) = l := by
  intro k
  induction k with
  | zero => intro l h1 h2; exact absurd (List.length_eq_zero_iff.1 h1) h2
  | succ k ih =>
    intro l hl hne hz hd
    obtain ⟨r, b, rfl⟩ : ∃ r b, l = r ++ [b] := ⟨l.dropLast, l.getLast hne, (List.dropLast_concat_getLast hne).symm⟩
    have hb : isDig b = true := by
      rw [List.all_append] at hd
      simp at hd
      exact hd.2
    have hbn : 48 ≤ b.toNat ∧ b.toNat ≤ 57 := by
      unfold isDig at hb
      simpa using hb
    have back : ((48 + (b.toNat - 48)).toUInt8) = b := by
      rw [show 48 + (b.toNat - 48) = b.toNat by omega]
      simp
    rw [val_snoc]
    by_cases hr : r = []
    · subst hr
      rw [show val [] = 0 from rfl, Nat.zero_mul, Nat.zero_add, dig_small (by omega), back]
      rfl
    · have hrd : r.all isDig = true := by
        rw [List.all_append] at hd
        simp at hd
        rw [List.all_eq_true]
        exact hd.1
      have hrl : r.length = k := by simpa using hl
      have hhead : (r ++ [b]).head? = r.head? := by
        cases r with
        | nil => exact absurd rfl hr
        | cons a r => rfl
      have hr0 : 0 < r.length := List.length_pos_iff.2 hr
      have hz' : ¬ r.head? = some 48 := fun h => hz ⟨by rw [hhead]; exact h, by simp; omega⟩
      have hi := ih r hrl hr (fun h => hz' h.1) hrd
      have hv : val r ≠ 0 := by
        intro h
        rw [h, dig_small (by decide)] at hi
        rw [← hi] at hz'
        exact hz' rfl
      have e : (val r * 10 + (b.toNat - 48)) / 10 = val r := by omega
      have e2 : (val r * 10 + (b.toNat - 48)) % 10 = b.toNat - 48 := by omega
      rw [dig_big (by omega), e, e2, hi, back]
theorem dig_whole {most n : Nat} {l : List UInt8} (h : whole most l = some n) : dig n = l := by
  unfold whole at h
  split at h
  · cases h
  · rename_i hc
    rw [not_or, not_or] at hc
    split at h
    · rename_i hd
      injection h with h
      rw [← h]
      exact dig_val l.length l rfl hc.1 hc.2.2 hd
    · cases h
theorem whole_lt {most n : Nat} {l : List UInt8} (h : whole most l = some n) : l.length ≤ most := by
  unfold whole at h
  split at h
  · cases h
  · rename_i hc
    rw [not_or, not_or] at hc
    omega
theorem whole_ne {most n : Nat} {l : List UInt8} (h : whole most l = some n) : l ≠ [] := by
  rintro rfl
  simp [whole] at h
/-- digits are no blank and no end of a line. -/
theorem dig_free (n : Nat) (c : UInt8) (h : c.toNat < 48) : c ∉ dig n := by
  intro hm
  have := List.all_eq_true.1 (dig_all n) c hm
  unfold isDig at this
  simp at this
  omega
end Go.Proofs.YtelbdcljdfadbaaDoor.Tx

namespace Go.Proofs.YtelbdcljdfadbaaDoor.Tx

/-- the lines of a text, each with its end, if it has one. -/
def lines : List UInt8 → List (List UInt8)
  | [] => []
  | b :: r => if b = 10 then [10] :: lines r else match lines r with
    | [] => [[b]]
    | w :: ws => (b :: w) :: ws

theorem lines_app : ∀ {w : List UInt8}, (10 : UInt8) ∉ w → ∀ r, lines (w ++ 10 :: r) = (w ++ [10]) :: lines r
  | [], _, r => by simp [lines]
  | b :: w, h, r => by
    rw [List.mem_cons, not_or] at h
    rw [List.cons_append, lines, if_neg (fun e => h.1 e.symm), lines_app h.2 r]
    rfl
theorem lines_word : ∀ {w : List UInt8}, (10 : UInt8) ∉ w → w ≠ [] → lines w = [w]
  | [], _, h => absurd rfl h
  | [b], h, _ => by
    rw [List.mem_cons, not_or] at h
    rw [lines, if_neg (fun e => h.1 e.symm)]
    rfl
  | b :: c :: w, h, _ => by
    rw [List.mem_cons, not_or] at h
    rw [lines, if_neg (fun e => h.1 e.symm), lines_word h.2 (by simp)]
/-- a text has no end of a line, or a first one. -/
theorem first10 : ∀ s : List UInt8, (10 : UInt8) ∉ s ∨ ∃ w r, (10 : UInt8) ∉ w ∧ s = w ++ 10 :: r
  | [] => .inl (by simp)
  | b :: s => by
    by_cases h : b = 10
    · subst h
      exact .inr ⟨[], s, by simp, rfl⟩
    · rcases first10 s with h1 | ⟨w, r, h1, rfl⟩
      · left
        rw [List.mem_cons, not_or]
        exact ⟨fun e => h e.symm, h1⟩
      · right
        refine ⟨b :: w, r, ?_, rfl⟩
        rw [List.mem_cons, not_or]
        exact ⟨fun e => h e.symm, h1⟩
/-- what lines say, by their ends alone: what is read of a text at each end of a line is what is read of its lines. -/
theorem lines_ind {p : List UInt8 → Prop} (h0 : p []) (h1 : ∀ w, (10 : UInt8) ∉ w → w ≠ [] → p w) (h2 : ∀ w r, (10 : UInt8) ∉ w → p r → p (w ++ 10 :: r)) : ∀ s, p s := by
  intro s
  obtain ⟨n, hn⟩ : ∃ n, s.length = n := ⟨_, rfl⟩
  induction n using Nat.strongRecOn generalizing s with
  | ind n ih =>
    rcases first10 s with h | ⟨w, r, h, rfl⟩
    · by_cases e : s = []
      · subst e; exact h0
      · exact h1 s h e
    · refine h2 w r h (ih r.length ?_ r rfl)
      rw [← hn, List.length_append, List.length_cons]
      omega
theorem lines_sum (s : List UInt8) : (lines s).flatten = s := by
  refine lines_ind (p := fun s => (lines s).flatten = s) rfl (fun w h e => ?_) (fun w r h ih => ?_) s
  · rw [lines_word h e]; simp
  · rw [lines_app h, List.flatten_cons, ih]; simp
theorem lines_len {s x : List UInt8} (h : x ∈ lines s) : x.length ≤ s.length := by
  have h1 := lines_sum s
  obtain ⟨a, b, e⟩ := List.append_of_mem h
  rw [e] at h1
  rw [← h1]
  simp
  omega
theorem lines_ne {s x : List UInt8} : x ∈ lines s → x ≠ [] := by
  refine lines_ind (p := fun s => x ∈ lines s → x ≠ []) (fun h => by simp [lines] at h) (fun w h e hx => ?_) (fun w r h ih hx => ?_) s
  · rw [lines_word h e] at hx
    simp at hx
    subst hx
    exact e
  · rw [lines_app h] at hx
    rcases List.mem_cons.1 hx with rfl | hx
    · simp
    · exact ih hx
end Go.Proofs.YtelbdcljdfadbaaDoor.Tx

namespace Go.Proofs.YtelbdcljdfadbaaDoor
open Go.RowKit

/-- nothing below has turned but block z. -/
structure Kp (z : Nat) (w w' : World) : Prop where
  os : w'.os = w.os
  tape : w'.tape = w.tape
  output : w'.output = w.output
  size : w.heap.size ≤ w'.heap.size
  block : ∀ k, k < w.heap.size → k ≠ z → w'.heap[k]? = w.heap[k]?

theorem Kp.of {z : Nat} {w w' : World} (h : Below w.heap.size w w') : Kp z w w' := ⟨h.os, h.tape, h.output, h.size, fun k hk _ => h.block k hk⟩
theorem Kp.refl (z : Nat) (w : World) : Kp z w w := Kp.of (Below.refl _ _)
theorem Kp.trans {z : Nat} {a b c : World} (h : Kp z a b) (k : Kp z b c) : Kp z a c :=
  ⟨k.os.trans h.os, k.tape.trans h.tape, k.output.trans h.output, Nat.le_trans h.size k.size, fun i hi hz => (k.block i (Nat.lt_of_lt_of_le hi h.size) hz).trans (h.block i hi hz)⟩
theorem Kp.set {z : Nat} (w : World) (i : Nat) (u : Value) : Kp z w (w.setCell ⟨z, i, none⟩ u) :=
  ⟨rfl, rfl, rfl, by simp [World.setCell], fun k _ hz => Below.heap_setCell _ _ _ _ hz⟩
theorem Kp.below {z B : Nat} {a w w' : World} (h : Below B a w) (k : Kp z w w') (hB : B ≤ w.heap.size) (hz : B ≤ z) : Below B a w' :=
  h.trans ⟨k.os, k.tape, k.output, k.size, fun i hi => k.block i (by omega) (by omega)⟩

theorem Kp.set_new {z b : Nat} {w W : World} (h : Kp z w W) (hb : w.heap.size ≤ b) (i : Nat) (u : Value) : Kp z w (W.setCell ⟨b, i, none⟩ u) :=
  ⟨h.os, h.tape, h.output, by simpa [World.setCell] using h.size, fun k hk hz => (Below.heap_setCell _ _ _ _ (by show k ≠ b; omega)).trans (h.block k hk hz)⟩
theorem Kp.drewN {z : Nat} {w W : World} (h : Kp z w W) (n : Nat) : Kp z w (W.drewN n) := ⟨h.os, h.tape, h.output, h.size, h.block⟩

theorem lt_of_block {w : World} {b : Nat} {o : Obj} (h : w.heap[b]? = some o) : b < w.heap.size := by
  rcases Nat.lt_or_ge b w.heap.size with h1 | h1
  · exact h1
  · rw [Array.getElem?_eq_none h1] at h; cases h

end Go.Proofs.YtelbdcljdfadbaaDoor

namespace Go.Proofs.YtelbdcljdfadbaaDoor

/-- nil, or a row of cells: the numbers zs, of which the first len are the elements. -/
def IsRow (k : IntKind) (w : World) (a : Option Addr) (len cap : Nat) (zs : List Int) : Prop :=
  (a = none ∧ len = 0 ∧ cap = 0 ∧ zs = []) ∨
  ∃ x, a = some x ∧ len ≤ cap ∧ cap ≤ maxLen ∧ zs.length = cap ∧ (∀ i, i < zs.length → w.cell? (x.add i) = some (.int k (zs.getD i 0))) ∧ ∀ n ∈ zs, (Lit.int k n).wf = true
end Go.Proofs.YtelbdcljdfadbaaDoor

namespace Go.Proofs.YtelbdcljdfadbaaDoor
open Go.RowKit

/-- the cells of a list, from an address on. -/
def Cells (w : World) (a : Option Addr) (xs : List Int) : Prop := xs ≠ [] → ∃ x, a = some x ∧ x.block < w.heap.size ∧ ∀ i d, xs[i]? = some d → w.cell? (x.add i) = some (.int .i64 d)
/-- v is a slice of the integers xs. -/
def Ro (w : World) (v : Value) (xs : List Int) : Prop := ∃ (a : Option Addr) (c : Nat), v = .slice a xs.length c ∧ xs.length ≤ c ∧ c ≤ 9223372036854775807 ∧ Cells w a xs

theorem cell_lt {w : World} {x : Addr} {v : Value} (h : w.cell? x = some v) : x.block < w.heap.size := by
  rcases Nat.lt_or_ge x.block w.heap.size with h1 | h1
  · exact h1
  · simp [World.cell?, Array.getElem?_eq_none h1] at h

theorem add_block (x : Addr) (i : Nat) : (x.add i).block = x.block := by unfold Addr.add; split <;> rfl

theorem Cells.below {w w' : World} {a : Option Addr} {xs : List Int} (h : Cells w a xs) (hb : Below w.heap.size w w') : Cells w' a xs := fun hx => by
  obtain ⟨x, ha, hl, hc⟩ := h hx
  refine ⟨x, ha, Nat.lt_of_lt_of_le hl hb.size, fun i d hd => ?_⟩
  rw [hb.cell (p := x.add i) (by rw [add_block]; exact hl)]
  exact hc i d hd
theorem Ro.below {w w' : World} {v : Value} {xs : List Int} (h : Ro w v xs) (hb : Below w.heap.size w w') : Ro w' v xs := by
  obtain ⟨a, c, h1, h2, h3, h4⟩ := h
  exact ⟨a, c, h1, h2, h3, h4.below hb⟩
theorem Ro.drewN {w : World} {v : Value} {xs : List Int} (h : Ro w v xs) (n : Nat) : Ro (w.drewN n) v xs := h.below (_root_.Go.below_drewN (Below.refl _ _) n)

/-- what came in. -/
theorem IsRow.ro {w : World} {a : Option Addr} {len cap : Nat} {zs : List Int} (h : IsRow .i64 w a len cap zs) : Ro w (.slice a len cap) (zs.take len) := by
  rcases h with ⟨rfl, rfl, rfl, rfl⟩ | ⟨x, rfl, h1, h2, h3, h4, h5⟩
  · exact ⟨none, 0, rfl, Nat.le_refl _, by omega, fun h => absurd rfl h⟩
  · have hl : (zs.take len).length = len := by rw [List.length_take]; omega
    refine ⟨some x, cap, by rw [hl], by omega, by unfold maxLen at h2; omega, fun hx => ⟨x, rfl, ?_, fun i d hd => ?_⟩⟩
    · have h0 : 0 < zs.length := by
        rcases Nat.eq_zero_or_pos zs.length with h | h
        · exact absurd (by rw [List.length_eq_zero_iff.1 h]; simp) hx
        · exact h
      have := cell_lt (x := x.add 0) (h4 0 h0)
      rwa [add_block] at this
    · rw [List.getElem?_take] at hd
      split at hd
      · obtain ⟨hi, he⟩ := List.getElem?_eq_some_iff.1 hd
        rw [h4 i hi, List.getD_eq_getElem?_getD, hd]
        rfl
      · cases hd
end Go.Proofs.YtelbdcljdfadbaaDoor

namespace Go.Proofs.YtelbdcljdfadbaaDoor
open Go.RowKit
set_option linter.unusedVariables false

structure OrV where
  player : Int
  unit : Int
  what : Int
  arg : Int
def OrV.val (k : OrV) : Value := .agg #[.int .i64 k.player, .int .i64 k.unit, .int .i64 k.what, .int .i64 k.arg]
/-- its cells, from an address on. -/
structure Orc (w : World) (y : Addr) (k : OrV) : Prop where
  c0 : w.cell? y = some (.int .i64 k.player)
  c1 : w.cell? ⟨y.block, y.off + 1, none⟩ = some (.int .i64 k.unit)
  c2 : w.cell? ⟨y.block, y.off + 2, none⟩ = some (.int .i64 k.what)
  c3 : w.cell? ⟨y.block, y.off + 3, none⟩ = some (.int .i64 k.arg)
theorem Orc.lt {w : World} {y : Addr} {k : OrV} (h : Orc w y k) : y.block < w.heap.size := cell_lt h.c0
theorem Orc.below {w w' : World} {y : Addr} {k : OrV} {B : Nat} (h : Orc w y k) (hb : Below B w w') (hy : y.block < B) : Orc w' y k :=
  ⟨by rw [hb.cell (p := y) hy]; exact h.c0, by rw [hb.cell (p := ⟨y.block, y.off + 1, none⟩) hy]; exact h.c1, by rw [hb.cell (p := ⟨y.block, y.off + 2, none⟩) hy]; exact h.c2, by rw [hb.cell (p := ⟨y.block, y.off + 3, none⟩) hy]; exact h.c3⟩
/-- v is a slice of them. -/
def Orl (w : World) (v : Value) (ks : List OrV) : Prop := ∃ a c, v = .slice a ks.length c ∧ ks.length ≤ c ∧ c ≤ 9223372036854775807 ∧ (ks ≠ [] → ∃ x, a = some x ∧ x.block < w.heap.size ∧ ∀ (i : Nat) k, ks[i]? = some k → Orc w (x.add (i * 4)) k)
theorem Orl.below {w w' : World} {v : Value} {ks : List OrV} (h : Orl w v ks) (hb : Below w.heap.size w w') : Orl w' v ks := by
  obtain ⟨a, c, h1, h2, h3, h4⟩ := h
  refine ⟨a, c, h1, h2, h3, fun hn => ?_⟩
  obtain ⟨x, e, hx, hk⟩ := h4 hn
  exact ⟨x, e, Nat.lt_of_lt_of_le hx hb.size, fun i k hi => (hk i k hi).below hb (by rw [add_block]; exact hx)⟩
theorem Orc.mk' {w : World} {z : Nat} (k : OrV) (hz : w.heap.size = z) : Orc (w.alloc (.cells #[.int .i64 k.player, .int .i64 k.unit, .int .i64 k.what, .int .i64 k.arg] 63)) ⟨z, 0, none⟩ k := by
  subst hz
  constructor <;> simp
end Go.Proofs.YtelbdcljdfadbaaDoor

namespace Go.Proofs.YtelbdcljdfadbaaDoor.Od
open Tx
set_option linter.unusedVariables false

def bad (o : OrV) : Prop := o.player < 0 ∨ 3 < o.player ∨ o.unit < 0 ∨ 1000000 < o.unit ∨ o.arg < 0 ∨ 1000000 < o.arg ∨ o.what < 0 ∨ 3 < o.what ∨ (o.what = 0 ∧ o.arg ≠ 0)
instance (o : OrV) : Decidable (bad o) := by unfold bad; infer_instance
/-- what is wrong with one. -/
def fault (o : OrV) : Int := if bad o then 1 else 0
theorem fault_bad {o : OrV} (h : bad o) : fault o = 1 := if_pos h
theorem fault_ok {o : OrV} (h : ¬ bad o) : fault o = 0 := if_neg h
/-- what is wrong with some. -/
def faults (l : List OrV) : Int := if 60 < l.length then 4 else if l.any (fun o => decide (bad o)) then 1 else 0

def nStop : List UInt8 := [115, 116, 111, 112]
def nMarch : List UInt8 := [109, 97, 114, 99, 104]
def nGather : List UInt8 := [103, 97, 116, 104, 101, 114]
def nTrain : List UInt8 := [116, 114, 97, 105, 110]
/-- the word for What. -/
def name (n : Int) : List UInt8 := if n = 0 then nStop else if n = 1 then nMarch else if n = 2 then nGather else nTrain
def unname (l : List UInt8) : Option Int := if l = nStop then some 0 else if l = nMarch then some 1 else if l = nGather then some 2 else if l = nTrain then some 3 else none
def words (o : OrV) : List (List UInt8) := dig o.player.toNat :: dig o.unit.toNat :: name o.what :: (if o.what = 0 then [] else [dig o.arg.toNat])
def oline (o : OrV) : List UInt8 := join 32 (words o)
def prt (l : List OrV) : List UInt8 := l.flatMap fun o => oline o ++ [10]

/-- the order of a line's words. -/
def ofWords : List (List UInt8) → Option OrV
  | [a, b, c] => match unname c, whole 7 a, whole 7 b with
    | some n, some x, some y => if n = 0 then some ⟨x, y, 0, 0⟩ else none
    | _, _, _ => none
  | [a, b, c, d] => match unname c, whole 7 a, whole 7 b, whole 7 d with
    | some n, some x, some y, some z => if n = 0 then none else some ⟨x, y, n, z⟩
    | _, _, _, _ => none
  | _ => none
/-- the order of a line: it ends, and has these words. -/
def ofLine (l : List UInt8) : Option OrV := if l.getLast? = some 10 then ofWords (cut 32 l.dropLast) else none
/-- the orders of some lines; else the line, and the fault. -/
def go (acc : List OrV) : List (List UInt8) → (Nat × Int) ⊕ List OrV
  | [] => .inr acc
  | l :: r => match ofLine l with
    | none => .inl (acc.length, 2)
    | some o => if acc.length = 60 then .inl (acc.length, 4) else if fault o = 0 then go (acc ++ [o]) r else .inl (acc.length, fault o)
def parse (s : List UInt8) : (Nat × Int) ⊕ List OrV := go [] (lines s)

theorem unname_name {n : Int} (h0 : 0 ≤ n) (h3 : n ≤ 3) : unname (name n) = some n := by
  rcases (by omega : n = 0 ∨ n = 1 ∨ n = 2 ∨ n = 3) with rfl | rfl | rfl | rfl <;> rfl
theorem name_unname {l : List UInt8} {n : Int} (h : unname l = some n) : name n = l ∧ 0 ≤ n ∧ n ≤ 3 := by
  unfold unname at h
  split at h
  · rename_i e; injection h with h; subst h; exact ⟨e.symm, by decide, by decide⟩
  · split at h
    · rename_i e; injection h with h; subst h; exact ⟨e.symm, by decide, by decide⟩
    · split at h
      · rename_i e; injection h with h; subst h; exact ⟨e.symm, by decide, by decide⟩
      · split at h
        · rename_i e; injection h with h; subst h; exact ⟨e.symm, by decide, by decide⟩
        · cases h
theorem ok_of {o : OrV} (h : ¬ bad o) : 0 ≤ o.player ∧ o.player ≤ 3 ∧ 0 ≤ o.unit ∧ o.unit ≤ 1000000 ∧ 0 ≤ o.arg ∧ o.arg ≤ 1000000 ∧ 0 ≤ o.what ∧ o.what ≤ 3 ∧ (o.what = 0 → o.arg = 0) := by
  unfold bad at h
  omega
theorem name_free (n : Int) (c : UInt8) (h : c.toNat < 97) : c ∉ name n := by
  unfold name
  have : ∀ l : List UInt8, (l.all fun b => decide (97 ≤ b.toNat)) = true → c ∉ l := fun l hl hm => by
    have := List.all_eq_true.1 hl c hm
    simp at this
    omega
  split
  · exact this _ (by decide)
  · split
    · exact this _ (by decide)
    · split
      · exact this _ (by decide)
      · exact this _ (by decide)
theorem words_free (o : OrV) (c : UInt8) (hc : c.toNat < 48) : ∀ w ∈ words o, c ∉ w := by
  intro w hw
  unfold words at hw
  simp only [List.mem_cons] at hw
  rcases hw with rfl | rfl | rfl | hw
  · exact dig_free _ c hc
  · exact dig_free _ c hc
  · exact name_free _ c (by omega)
  · split at hw
    · simp at hw
    · simp at hw
      subst hw
      exact dig_free _ c hc
theorem mem_join {c d : UInt8} : ∀ {ws : List (List UInt8)}, d ∈ join c ws → d = c ∨ ∃ w ∈ ws, d ∈ w
  | [], h => by simp [join] at h
  | [w], h => .inr ⟨w, List.mem_cons_self .., h⟩
  | w :: v :: ws, h => by
    rw [join_cons (by simp), List.mem_append, List.mem_cons] at h
    rcases h with h | h | h
    · exact .inr ⟨w, List.mem_cons_self .., h⟩
    · exact .inl h
    · rcases mem_join h with h | ⟨x, hx, hd⟩
      · exact .inl h
      · exact .inr ⟨x, List.mem_cons_of_mem _ hx, hd⟩
theorem oline_free (o : OrV) : (10 : UInt8) ∉ oline o := by
  intro h
  rcases mem_join h with h | ⟨w, hw, hd⟩
  · revert h; decide
  · exact words_free o 10 (by decide) w hw hd
theorem whole7 {n : Int} (h0 : 0 ≤ n) (h : n ≤ 1000000) : whole 7 (dig n.toNat) = some n.toNat := whole_dig (by decide) (by show n.toNat < 10000000; omega)
theorem ofWords_words {o : OrV} (h : ¬ bad o) : ofWords (words o) = some o := by
  obtain ⟨p, u, n, a⟩ := o
  obtain ⟨h1, h2, h3, h4, h5, h6, h7, h8, h9⟩ := ok_of h
  simp only at *
  have e1 := whole7 h1 (by omega)
  have e2 := whole7 h3 h4
  have e3 := whole7 h5 h6
  have e4 := unname_name h7 h8
  by_cases hn : n = 0
  · subst hn
    have ha := h9 rfl
    subst ha
    show ofWords [dig p.toNat, dig u.toNat, name 0] = _
    simp only [ofWords, e4, e1, e2]
    simp
    omega
  · have : words ⟨p, u, n, a⟩ = [dig p.toNat, dig u.toNat, name n, dig a.toNat] := by
      unfold words
      simp [hn]
    rw [this]
    simp only [ofWords, e4, e1, e2, e3]
    simp [hn]
    omega
theorem words_ofWords {ws : List (List UInt8)} {o : OrV} (h : ofWords ws = some o) : words o = ws := by
  match ws, h with
  | [], h => simp [ofWords] at h
  | [a], h => simp [ofWords] at h
  | [a, b], h => simp [ofWords] at h
  | [a, b, c], h =>
    simp only [ofWords] at h
    cases h1 : unname c with
    | none => rw [h1] at h; simp at h
    | some n =>
      cases h2 : whole 7 a with
      | none => rw [h2] at h; simp at h
      | some x =>
        cases h3 : whole 7 b with
        | none => rw [h3] at h; simp at h
        | some y =>
          rw [h1, h2, h3] at h
          by_cases hn : n = 0
          · subst hn
            simp at h
            subst h
            have e := (name_unname h1).1
            show [dig (x : Int).toNat, dig (y : Int).toNat, name 0] = [a, b, c]
            rw [Int.toNat_natCast, Int.toNat_natCast, dig_whole h2, dig_whole h3, e]
          · simp [hn] at h
  | [a, b, c, d], h =>
    simp only [ofWords] at h
    cases h1 : unname c with
    | none => rw [h1] at h; simp at h
    | some n =>
      cases h2 : whole 7 a with
      | none => rw [h2] at h; simp at h
      | some x =>
        cases h3 : whole 7 b with
        | none => rw [h3] at h; simp at h
        | some y =>
          cases h4 : whole 7 d with
          | none => rw [h4] at h; simp at h
          | some z =>
            rw [h1, h2, h3, h4] at h
            simp only at h
            split at h
            · cases h
            · rename_i hn
              injection h with h
              subst h
              have e := (name_unname h1).1
              unfold words
              simp only [if_neg hn]
              rw [Int.toNat_natCast, Int.toNat_natCast, Int.toNat_natCast, dig_whole h2, dig_whole h3, dig_whole h4, e]
  | a :: b :: c :: d :: e :: r, h => simp [ofWords] at h
theorem ofLine_end (l : List UInt8) : ofLine (l ++ [10]) = ofWords (cut 32 l) := by
  unfold ofLine
  simp
theorem ofLine_open {l : List UInt8} (h : (10 : UInt8) ∉ l) : ofLine l = none := by
  unfold ofLine
  rw [if_neg]
  intro e
  exact h (List.mem_of_getLast? e)
theorem lines_prt : ∀ l : List OrV, lines (prt l) = l.map fun o => oline o ++ [10]
  | [] => rfl
  | o :: l => by
    show lines ((oline o ++ [10]) ++ prt l) = _
    rw [List.append_assoc]
    show lines (oline o ++ 10 :: prt l) = _
    rw [lines_app (oline_free o), lines_prt l]
    rfl
theorem go_lines : ∀ {l acc : List OrV}, (∀ o ∈ l, ¬ bad o) → acc.length + l.length ≤ 60 → go acc (l.map fun o => oline o ++ [10]) = .inr (acc ++ l)
  | [], acc, _, _ => by simp [go]
  | o :: l, acc, h, hn => by
    have ho := h o (List.mem_cons_self ..)
    have e : cut 32 (oline o) = words o := cut_join (by simp [words]) (words_free o 32 (by decide))
    simp only [List.length_cons] at hn
    rw [List.map_cons, go, ofLine_end, e, ofWords_words ho]
    simp only
    rw [if_neg (by omega), if_pos (fault_ok ho), go_lines (fun x hx => h x (List.mem_cons_of_mem _ hx)) (by simp; omega)]
    simp
theorem faults_ok {l : List OrV} (h : faults l = 0) : l.length ≤ 60 ∧ ∀ o ∈ l, ¬ bad o := by
  unfold faults at h
  split at h
  · omega
  · split at h
    · omega
    · rename_i h1 h2
      rw [Bool.not_eq_true, List.any_eq_false] at h2
      exact ⟨by omega, fun o ho => by simpa using h2 o ho⟩
theorem faults_of {l : List OrV} (h : l.length ≤ 60) (hb : ∀ o ∈ l, ¬ bad o) : faults l = 0 := by
  unfold faults
  rw [if_neg (by omega), if_neg]
  rw [Bool.not_eq_true, List.any_eq_false]
  intro o ho
  simpa using hb o ho
/-- what is printed is read as it was. -/
theorem parse_prt {l : List OrV} (h : faults l = 0) : parse (prt l) = .inr l := by
  obtain ⟨h1, h2⟩ := faults_ok h
  unfold parse
  rw [lines_prt, go_lines h2 (by simpa using h1)]
  rfl
theorem go_back : ∀ {ls : List (List UInt8)} {acc l : List OrV}, go acc ls = .inr l → acc.length ≤ 60 → ∃ l', l = acc ++ l' ∧ prt l' = ls.flatten ∧ l.length ≤ 60 ∧ ∀ o ∈ l', ¬ bad o
  | [], acc, l, h, ha => by
    unfold go at h
    injection h with h
    subst h
    exact ⟨[], by simp, rfl, ha, by simp⟩
  | x :: r, acc, l, h, ha => by
    unfold go at h
    split at h
    · cases h
    · rename_i o ho
      split at h
      · cases h
      · rename_i h60
        split at h
        · rename_i h0
          obtain ⟨l', e1, e2, e3, e4⟩ := go_back h (by simp; omega)
          refine ⟨o :: l', by rw [e1]; simp, ?_, e3, ?_⟩
          · show (oline o ++ [10]) ++ prt l' = _
            unfold ofLine at ho
            split at ho
            · rename_i hx
              have hw := words_ofWords ho
              have : oline o = x.dropLast := by unfold oline; rw [hw, join_cut]
              obtain ⟨ys, hy⟩ := List.getLast?_eq_some_iff.1 hx
              rw [List.flatten_cons, e2, this, hy]
              simp
            · cases ho
          · intro y hy
            rcases List.mem_cons.1 hy with rfl | hy
            · intro hb
              rw [fault_bad hb] at h0
              omega
            · exact e4 y hy
        · cases h
/-- what any text is read as is printed as that text. -/
theorem prt_parse {s : List UInt8} {l : List OrV} (h : parse s = .inr l) : prt l = s ∧ faults l = 0 := by
  unfold parse at h
  obtain ⟨l', e1, e2, e3, e4⟩ := go_back h (by simp)
  rw [List.nil_append] at e1
  subst e1
  exact ⟨by rw [e2, lines_sum], faults_of e3 e4⟩

/-- the same, at each end of a line: what the document's way gives. -/
def goCut (acc : List OrV) : List (List UInt8) → (Nat × Int) ⊕ List OrV
  | [] => .inr acc
  | [w] => if w = [] then .inr acc else .inl (acc.length, 2)
  | w :: v :: r => match ofWords (cut 32 w) with
    | none => .inl (acc.length, 2)
    | some o => if acc.length = 60 then .inl (acc.length, 4) else if fault o = 0 then goCut (acc ++ [o]) (v :: r) else .inl (acc.length, fault o)
theorem goCut_go (s : List UInt8) : ∀ acc, goCut acc (cut 10 s) = go acc (lines s) := by
  refine lines_ind (p := fun s => ∀ acc, goCut acc (cut 10 s) = go acc (lines s)) (fun acc => rfl) (fun w h e acc => ?_) (fun w r h ih acc => ?_) s
  · rw [cut_word h, lines_word h e]
    unfold goCut go
    rw [if_neg e, ofLine_open h]
  · rw [cut_app h, lines_app h]
    cases hc : cut 10 r with
    | nil => exact absurd hc (cut_ne 10 r)
    | cons v vs =>
      unfold goCut go
      rw [ofLine_end]
      cases ofWords (cut 32 w) with
      | none => rfl
      | some o =>
        simp only
        rw [← ih, hc]
end Go.Proofs.YtelbdcljdfadbaaDoor.Od

namespace Go.Proofs.YtelbdcljdfadbaaDoor
open Go.RowKit
set_option linter.unusedVariables false

set_option maxRecDepth 100000 in
set_option maxHeartbeats 4000000 in
theorem ref_order (o : OrV) (w : World) : Calls Tryd.prog 58 #[o.val] w fun e w' => e = .returned (.int .i64 (Od.fault o)) ∧ Below w.heap.size w w' := by
  obtain ⟨p, u, n, a⟩ := o
  have BB : Hid (Below w.heap.size w (w.alloc (Obj.cells #[.int .i64 p, .int .i64 u, .int .i64 n, .int .i64 a] 63))) := (Below.refl _ _).alloc (Nat.le_refl _) _
  have B1 : Hid (Od.bad ⟨p, u, n, a⟩ → Od.fault ⟨p, u, n, a⟩ = 1) := Od.fault_bad
  have B0 : Hid (¬ Od.bad ⟨p, u, n, a⟩ → Od.fault ⟨p, u, n, a⟩ = 0) := Od.fault_ok
  unfold OrV.val
  simp only
  by_cases h0 : p < 0
  · go_enter Tryd.func58, Tryd.ntmps58
    go_wp2
    go_ret
    exact ⟨by rw [B1.out (by unfold Od.bad; simp only; omega)]; rfl, BB⟩
  · skip
    by_cases h1 : 3 < p
    · go_enter Tryd.func58, Tryd.ntmps58
      go_wp2
      go_ret
      exact ⟨by rw [B1.out (by unfold Od.bad; simp only; omega)]; rfl, BB⟩
    · skip
      by_cases h2 : u < 0
      · go_enter Tryd.func58, Tryd.ntmps58
        go_wp2
        go_ret
        exact ⟨by rw [B1.out (by unfold Od.bad; simp only; omega)]; rfl, BB⟩
      · skip
        by_cases h3 : 1000000 < u
        · go_enter Tryd.func58, Tryd.ntmps58
          go_wp2
          go_ret
          exact ⟨by rw [B1.out (by unfold Od.bad; simp only; omega)]; rfl, BB⟩
        · skip
          by_cases h4 : a < 0
          · go_enter Tryd.func58, Tryd.ntmps58
            go_wp2
            go_ret
            exact ⟨by rw [B1.out (by unfold Od.bad; simp only; omega)]; rfl, BB⟩
          · skip
            by_cases h5 : 1000000 < a
            · go_enter Tryd.func58, Tryd.ntmps58
              go_wp2
              go_ret
              exact ⟨by rw [B1.out (by unfold Od.bad; simp only; omega)]; rfl, BB⟩
            · skip
              by_cases h6 : n < 0
              · go_enter Tryd.func58, Tryd.ntmps58
                go_wp2
                go_ret
                exact ⟨by rw [B1.out (by unfold Od.bad; simp only; omega)]; rfl, BB⟩
              · skip
                by_cases h7 : 3 < n
                · go_enter Tryd.func58, Tryd.ntmps58
                  go_wp2
                  go_ret
                  exact ⟨by rw [B1.out (by unfold Od.bad; simp only; omega)]; rfl, BB⟩
                · skip
                  by_cases h8 : n = 0
                  · subst h8
                    by_cases h9 : a = 0
                    · subst h9
                      go_enter Tryd.func58, Tryd.ntmps58
                      go_wp2
                      go_ret
                      exact ⟨by rw [B0.out (by unfold Od.bad; simp only; omega)]; rfl, BB⟩
                    · have h9b : (a == 0) = false := beq_eq_false_iff_ne.2 h9
                      go_enter Tryd.func58, Tryd.ntmps58
                      go_wp2
                      go_ret
                      exact ⟨by rw [B1.out (.inr (.inr (.inr (.inr (.inr (.inr (.inr (.inr ⟨rfl, h9⟩))))))))]; rfl, BB⟩
                  · have h8b : (n == 0) = false := beq_eq_false_iff_ne.2 h8
                    go_enter Tryd.func58, Tryd.ntmps58
                    go_wp2
                    go_ret
                    exact ⟨by rw [B0.out (by unfold Od.bad; simp only; omega)]; rfl, BB⟩
end Go.Proofs.YtelbdcljdfadbaaDoor

namespace Go.Proofs.YtelbdcljdfadbaaDoor
open Go.RowKit
set_option linter.unusedVariables false

def sgn (x y : Int) : Int := if x < y then -1 else if y < x then 1 else 0
def or3 (x y z : Int) : Int := if x ≠ 0 then x else if y ≠ 0 then y else z
def rnk (o : OrV) : Int := if o.what = 3 then 0 else 1
/-- how two orders compare. -/
def cmpo (a b : OrV) : Int := or3 (sgn a.player b.player) (sgn a.unit b.unit) (sgn (rnk a) (rnk b))

theorem isnan_any (x : Int) (w : World) : Calls Tryd.prog 122 #[.int .i64 x] w fun e w' => e = .returned (.bool false) ∧ w' = w := by
  go_enter Tryd.func122, Tryd.ntmps122
  go_wp2
  go_ret
  exact ⟨by simp, rfl⟩
theorem cmpint_any (x y : Int) (w : World) : Calls Tryd.prog 85 #[.int .i64 x, .int .i64 y] w fun e w' => e = .returned (.int .i64 (sgn x y)) ∧ w' = w := by
  have NA : Hid (∀ x w, Calls Tryd.prog 122 #[.int .i64 x] w fun e w' => e = .returned (.bool false) ∧ w' = w) := isnan_any
  by_cases h1 : x < y
  · go_enter Tryd.func85, Tryd.ntmps85
    go_wp2_with fail
    refine (NA.out _ _).mono ?_
    rintro e w' ⟨rfl, rfl⟩
    go_wp2_with fail
    refine (NA.out _ _).mono ?_
    rintro e w' ⟨rfl, rfl⟩
    go_wp2
    go_ret
    exact ⟨by simp [sgn, h1], rfl⟩
  · by_cases h2 : y < x
    · go_enter Tryd.func85, Tryd.ntmps85
      go_wp2_with fail
      refine (NA.out _ _).mono ?_
      rintro e w' ⟨rfl, rfl⟩
      go_wp2_with fail
      refine (NA.out _ _).mono ?_
      rintro e w' ⟨rfl, rfl⟩
      go_wp2
      go_ret
      exact ⟨by simp [sgn, h1, h2], rfl⟩
    · go_enter Tryd.func85, Tryd.ntmps85
      go_wp2_with fail
      refine (NA.out _ _).mono ?_
      rintro e w' ⟨rfl, rfl⟩
      go_wp2_with fail
      refine (NA.out _ _).mono ?_
      rintro e w' ⟨rfl, rfl⟩
      go_wp2
      go_ret
      exact ⟨by unfold sgn; rw [if_neg (by omega), if_neg (by omega)]; rfl, rfl⟩
theorem rank_any (o : OrV) (w : World) : Calls Tryd.prog 86 #[o.val] w fun e w' => e = .returned (.int .i64 (rnk o)) ∧ Below w.heap.size w w' := by
  obtain ⟨p, u, n, a⟩ := o
  have BB : Hid (Below w.heap.size w (w.alloc (Obj.cells #[.int .i64 p, .int .i64 u, .int .i64 n, .int .i64 a] 63))) := (Below.refl _ _).alloc (Nat.le_refl _) _
  unfold OrV.val rnk
  simp only
  by_cases h : n = 3
  · subst h
    go_enter Tryd.func86, Tryd.ntmps86
    go_wp2
    go_ret
    exact ⟨rfl, BB⟩
  · have hb : (n == 3) = false := beq_eq_false_iff_ne.2 h
    rw [if_neg h]
    go_enter Tryd.func86, Tryd.ntmps86
    go_wp2
    go_ret
    exact ⟨rfl, BB⟩
theorem or_any (x y z : Int) (b : Nat) (w : World) (h0 : w.cell? ⟨b, 0, none⟩ = some (.int .i64 x)) (h1 : w.cell? ⟨b, 1, none⟩ = some (.int .i64 y)) (h2 : w.cell? ⟨b, 2, none⟩ = some (.int .i64 z)) :
    Calls Tryd.prog 84 #[.slice (some ⟨b, 0, none⟩) 3 3] w fun e w' => e = .returned (.int .i64 (or3 x y z)) ∧ w' = w := by
  by_cases hx : x = 0
  · subst hx
    by_cases hy : y = 0
    · subst hy
      by_cases hz : z = 0
      · subst hz
        go_enter Tryd.func84, Tryd.ntmps84
        go_wp2
        refine wp_loop_rounds 4 ?_
        rw [rounds_succ]
        go_wp2
        rw [rounds_succ]
        go_wp2
        rw [rounds_succ]
        go_wp2
        rw [rounds_succ]
        go_wp2
        go_ret
        exact ⟨rfl, rfl⟩
      · have hzb : (z == 0) = false := beq_eq_false_iff_ne.2 hz
        go_enter Tryd.func84, Tryd.ntmps84
        go_wp2
        refine wp_loop_rounds 3 ?_
        rw [rounds_succ]
        go_wp2
        rw [rounds_succ]
        go_wp2
        rw [rounds_succ]
        go_wp2
        go_ret
        exact ⟨by simp [or3], rfl⟩
    · have hyb : (y == 0) = false := beq_eq_false_iff_ne.2 hy
      go_enter Tryd.func84, Tryd.ntmps84
      go_wp2
      refine wp_loop_rounds 2 ?_
      rw [rounds_succ]
      go_wp2
      rw [rounds_succ]
      go_wp2
      go_ret
      exact ⟨by simp [or3, hy], rfl⟩
  · have hxb : (x == 0) = false := beq_eq_false_iff_ne.2 hx
    go_enter Tryd.func84, Tryd.ntmps84
    go_wp2
    refine wp_loop_rounds 1 ?_
    rw [rounds_succ]
    go_wp2
    go_ret
    exact ⟨by simp [or3, hx], rfl⟩
end Go.Proofs.YtelbdcljdfadbaaDoor

namespace Go.Proofs.YtelbdcljdfadbaaDoor.So
set_option linter.unusedVariables false

abbrev T := OrV × Nat
/-- the key of an order stands ahead of another one's. -/
def klt (a b : OrV) : Prop := a.player < b.player ∨ (a.player = b.player ∧ (a.unit < b.unit ∨ (a.unit = b.unit ∧ rnk a < rnk b)))
theorem sgn_neg {x y : Int} : sgn x y < 0 ↔ x < y := by
  unfold sgn
  split
  · omega
  · split <;> omega
theorem sgn_zero {x y : Int} : sgn x y = 0 ↔ x = y := by
  unfold sgn
  split
  · omega
  · split <;> omega
theorem klt_iff (a b : OrV) : cmpo a b < 0 ↔ klt a b := by
  unfold cmpo or3 klt
  by_cases h1 : sgn a.player b.player = 0
  · rw [if_neg (fun h => h h1)]
    have e1 := sgn_zero.1 h1
    by_cases h2 : sgn a.unit b.unit = 0
    · rw [if_neg (fun h => h h2), sgn_neg]
      have e2 := sgn_zero.1 h2
      omega
    · rw [if_pos h2, sgn_neg]
      have e2 : ¬ a.unit = b.unit := fun e => h2 (sgn_zero.2 e)
      omega
  · rw [if_pos h1, sgn_neg]
    have e2 : ¬ a.player = b.player := fun e => h1 (sgn_zero.2 e)
    omega
instance (a b : OrV) : Decidable (klt a b) := by unfold klt; infer_instance
theorem klt_irr (a : OrV) : ¬ klt a a := by unfold klt; omega
theorem klt_trans {a b c : OrV} (h : klt a b) (k : klt b c) : klt a c := by unfold klt at *; omega
theorem klt_asym {a b : OrV} (h : klt a b) : ¬ klt b a := by unfold klt at *; omega
theorem klt_neg {a b c : OrV} (h : ¬ klt b a) (k : ¬ klt c b) : ¬ klt c a := by unfold klt at *; omega
/-- x stands ahead of y: by the key, then by the place that it had. -/
def lt (x y : T) : Prop := klt x.1 y.1 ∨ (¬ klt y.1 x.1 ∧ x.2 < y.2)
theorem lt_trans {x y z : T} (h : lt x y) (k : lt y z) : lt x z := by
  unfold lt klt at *
  omega
theorem lt_irr (x : T) : ¬ lt x x := by
  unfold lt klt
  omega
/-- where x had its place ahead of y: what the program asks tells which stands ahead. -/
theorem ask_lt {x y : T} (h : x.2 < y.2) : klt y.1 x.1 ↔ lt y x := by
  unfold lt klt
  omega
theorem ask_ge {x y : T} (h : x.2 < y.2) : ¬ klt y.1 x.1 ↔ lt x y := by
  unfold lt klt
  omega
/-- a list that rises has one order alone. -/
theorem rise_unique : ∀ {l l' : List T}, l.Perm l' → l.Pairwise lt → l'.Pairwise lt → l = l'
  | [], l', p, _, _ => by
    have := p.length_eq
    cases l' with
    | nil => rfl
    | cons x l' => simp at this
  | x :: l, [], p, _, _ => by
    have := p.length_eq
    simp at this
  | x :: l, y :: l', p, h, h' => by
    rw [List.pairwise_cons] at h h'
    have exy : x = y := by
      have hx : x ∈ y :: l' := p.mem_iff.1 (List.mem_cons_self ..)
      have hy : y ∈ x :: l := p.mem_iff.2 (List.mem_cons_self ..)
      rcases List.mem_cons.1 hx with e | hx
      · exact e
      · rcases List.mem_cons.1 hy with e | hy
        · exact e.symm
        · exact absurd (lt_trans (h.1 y hy) (h'.1 x hx)) (lt_irr x)
    subst exy
    rw [rise_unique (List.Perm.cons_inv p) h.2 h'.2]
/-- x is put among those that rise. -/
theorem put_rise {S1 S2 : List T} {x : T} (h : (S1 ++ S2).Pairwise lt) (h1 : ∀ y ∈ S1, lt y x) (h2 : ∀ y ∈ S2, lt x y) : (S1 ++ x :: S2).Pairwise lt := by
  rw [List.pairwise_append] at h ⊢
  refine ⟨h.1, List.pairwise_cons.2 ⟨h2, h.2.1⟩, fun a ha b hb => ?_⟩
  rcases List.mem_cons.1 hb with rfl | hb
  · exact h1 a ha
  · exact h.2.2 a ha b hb
/-- two that rise, one behind the other. -/
theorem cat_rise {S1 S2 : List T} (h1 : S1.Pairwise lt) (h2 : S2.Pairwise lt) (h : ∀ x ∈ S1, ∀ y ∈ S2, lt x y) : (S1 ++ S2).Pairwise lt := List.pairwise_append.2 ⟨h1, h2, h⟩
end Go.Proofs.YtelbdcljdfadbaaDoor.So

namespace Go.Proofs.YtelbdcljdfadbaaDoor
open Go.RowKit
set_option linter.unusedVariables false
set_option maxRecDepth 100000

theorem um_laid : laidOutB Tryd.prog = true := by kernel_rfl
theorem um_row : (103 : TypeId) < Tryd.prog.types.size := of_decide_eq_true (by kernel_rfl)
theorem um_wide : (match Tryd.prog.underlying 103 with | some (.array _ _) | some (.struct _) => true | _ => false) = true := by kernel_rfl
theorem um_deep : Tryd.prog.keyTypeAt 3 103 = true := by kernel_rfl
theorem um_law : Maps.Keyed Tryd.prog 103 := Maps.Keyed.of_law (deep_law_laid um_laid (m := 3) (by omega) um_row um_deep um_wide)
theorem um_cells : Tryd.prog.cellsOf 103 = 2 := by kernel_rfl
theorem um_int : Tryd.prog.cellsOf 3 = 1 := by kernel_rfl
theorem um_type : Tryd.prog.keyType 103 = true := by kernel_rfl
theorem um_size : ∃ m, Tryd.prog.types.size = m + 1 := ⟨Tryd.prog.types.size - 1, by have h : 0 < Tryd.prog.types.size := Nat.lt_of_le_of_lt (Nat.zero_le _) um_row; omega⟩
theorem um_key {p u : Int} (hp : (Lit.int .i64 p).wf = true) (hu : (Lit.int .i64 u).wf = true) : ∃ kl, keyOf Tryd.prog 103 (.agg #[.int .i64 p, .int .i64 u]) = some kl := by
  obtain ⟨m, hm⟩ := um_size
  have ht := um_type
  have hc := um_cells
  have hi := um_int
  unfold keyOf
  simp only [Tryd.underlying103]
  rw [if_pos (by simp [ht, Value.formed, Tryd.underlying103, hc]), hm]
  unfold Program.keyLits
  simp only [Tryd.underlying103, Value.cells]
  rw [if_pos ⟨by rw [hc]; rfl, by kernel_rfl⟩]
  simp [Program.keyLits, Tryd.underlying3, hp, hu, hi]
theorem um_zero (w : World) : (zeroValue 3).run Tryd.prog w = .ok (.int .i64 0) w := by kernel_rfl
theorem wf64 {n : Int} (h0 : -9223372036854775808 ≤ n) (h1 : n ≤ 9223372036854775807) : (Lit.int .i64 n).wf = true := WalkArith.wf_i64 (by omega)
/-- block b is a map: f tells what stands at each player and unit. -/
def Um (w : World) (b n : Nat) (f : Int → Int → Int) : Prop := ∃ D : DataW Unit, w.ownsMap Tryd.prog 103 (plainElem Tryd.prog 3) b n D ∧ Maps.IsMap D ∧ ∀ p u kl, keyOf Tryd.prog 103 (.agg #[.int .i64 p, .int .i64 u]) = some kl → D.atKey kl (.lit (.int .i64 0)) = .lit (.int .i64 (f p u))
def updAt (f : Int → Int → Int) (p u v : Int) : Int → Int → Int := fun p' u' => if p' = p ∧ u' = u then v else f p' u'
theorem um_made (w : World) : Um (w.alloc (.map #[] 0)) w.heap.size 0 (fun _ _ => 0) :=
  ⟨.map [], World.ownsMap_made _ _ _ _, Maps.isMap_empty, fun p u kl _ => Maps.atKey_of_not_has rfl _⟩
theorem Um.lt {w : World} {b n : Nat} {f : Int → Int → Int} (h : Um w b n f) : b < w.heap.size := by
  obtain ⟨D, h1, -⟩ := h
  exact h1.lt
theorem Um.gb {w w' : World} {b n : Nat} {f : Int → Int → Int} {r : Option Nat} (h : Um w b n f) (g : w.grownBy w' r) (hr : some b ≠ r) : Um w' b n f := by
  obtain ⟨D, h1, h2⟩ := h
  exact ⟨D, h1.kept g hr, h2⟩
theorem Um.below {w w' : World} {b n : Nat} {f : Int → Int → Int} (h : Um w b n f) (g : Below w.heap.size w w') : Um w' b n f :=
  h.gb (r := none) ⟨g.os, g.tape, g.output, g.size, fun k hk _ => g.block k hk⟩ (by simp)
theorem Um.put {w : World} {b n : Nat} {f : Int → Int → Int} (h : Um w b n f) (hn : n < maxLen) {p u v : Int} (hp : (Lit.int .i64 p).wf = true) (hu : (Lit.int .i64 u).wf = true) (hv : (Lit.int .i64 v).wf = true) :
    ∃ w', (Instr.mapUpdate 100 (.map (some b)) (.agg #[.int .i64 p, .int .i64 u]) (.int .i64 v)).run Tryd.prog w = .ok () w' ∧ Um w' b (n + 1) (updAt f p u v) ∧ w.grownBy w' (some b) := by
  obtain ⟨D, h1, hD, h2⟩ := h
  obtain ⟨kl, hk⟩ := um_key hp hu
  obtain ⟨w', r, o, g⟩ := World.ownsMap.update h1 um_law Tryd.underlying100 hn hk (plainElem_int Tryd.underlying3 hv)
  refine ⟨w', r, ⟨_, o, hD.put _ _, fun p' u' kl' hk' => ?_⟩, g⟩
  unfold updAt
  by_cases e : kl' = kl
  · subst e
    have ei := um_law.inj hk hk'
    simp only [Value.agg.injEq, Array.mk.injEq, List.cons.injEq, Value.int.injEq, true_and, and_true] at ei
    rw [if_pos ⟨ei.1.symm, ei.2.symm⟩]
    exact Maps.atKey_put_same hD (um_law.key hk) _ _
  · rw [Maps.atKey_put_other e, if_neg, h2 p' u' kl' hk']
    rintro ⟨rfl, rfl⟩
    exact e (Option.some.inj (hk'.symm.trans hk))
theorem Um.look {w : World} {b n : Nat} {f : Int → Int → Int} (h : Um w b n f) {p u : Int} (hp : (Lit.int .i64 p).wf = true) (hu : (Lit.int .i64 u).wf = true) :
    (Instr.lookup 100 (.map (some b)) (.agg #[.int .i64 p, .int .i64 u]) false).run Tryd.prog w = .ok (.int .i64 (f p u)) w := by
  obtain ⟨D, h1, hD, h2⟩ := h
  obtain ⟨kl, hk⟩ := um_key hp hu
  obtain ⟨c, hr, hat, -⟩ := h1.lookup_int um_law Tryd.underlying100 Tryd.underlying3 (um_zero w) hk
  rw [h2 p u kl hk] at hat
  injection hat with e
  injection e with _ e
  rw [e]
  exact hr
end Go.Proofs.YtelbdcljdfadbaaDoor

namespace Go.Proofs.YtelbdcljdfadbaaDoor
namespace So
set_option linter.unusedVariables false
/-- where each unit's last order stands, among the first q. -/
def lf (l : List OrV) : Nat → Int → Int → Int
  | 0 => fun _ _ => 0
  | q + 1 => match l[q]? with
    | some o => if o.what = 3 then lf l q else updAt (lf l q) o.player o.unit (q : Nat)
    | none => lf l q
/-- those that count, of the first q, with their places. -/
def kp (l : List OrV) : Nat → List T
  | 0 => []
  | q + 1 => match l[q]? with
    | some o => if o.what = 3 ∨ lf l l.length o.player o.unit = (q : Nat) then kp l q ++ [(o, q)] else kp l q
    | none => kp l q
theorem lf_train {l : List OrV} {q : Nat} {o : OrV} (h : l[q]? = some o) (h3 : o.what = 3) : lf l (q + 1) = lf l q := by rw [lf]; simp only [h]; rw [if_pos h3]
theorem lf_other {l : List OrV} {q : Nat} {o : OrV} (h : l[q]? = some o) (h3 : ¬ o.what = 3) : lf l (q + 1) = updAt (lf l q) o.player o.unit (q : Nat) := by rw [lf]; simp only [h]; rw [if_neg h3]
theorem kp_yes {l : List OrV} {q : Nat} {o : OrV} (h : l[q]? = some o) (h3 : o.what = 3 ∨ lf l l.length o.player o.unit = (q : Nat)) : kp l (q + 1) = kp l q ++ [(o, q)] := by rw [kp]; simp only [h]; rw [if_pos h3]
theorem kp_no {l : List OrV} {q : Nat} {o : OrV} (h : l[q]? = some o) (h3 : ¬ (o.what = 3 ∨ lf l l.length o.player o.unit = (q : Nat))) : kp l (q + 1) = kp l q := by rw [kp]; simp only [h]; rw [if_neg h3]
theorem kp_mem {l : List OrV} : ∀ {q : Nat} {x : T}, x ∈ kp l q → x.2 < q ∧ l[x.2]? = some x.1 ∧ (x.1.what = 3 ∨ lf l l.length x.1.player x.1.unit = (x.2 : Nat))
  | 0, x, h => by simp [kp] at h
  | q + 1, x, h => by
    rw [kp] at h
    cases ho : l[q]? with
    | none =>
      simp only [ho] at h
      obtain ⟨h1, h2⟩ := kp_mem h
      exact ⟨by omega, h2⟩
    | some o =>
      simp only [ho] at h
      split at h
      · rename_i hc
        rcases List.mem_append.1 h with h | h
        · obtain ⟨h1, h2⟩ := kp_mem h
          exact ⟨by omega, h2⟩
        · simp at h
          subst h
          exact ⟨by simp, ho, hc⟩
      · obtain ⟨h1, h2⟩ := kp_mem h
        exact ⟨by omega, h2⟩
theorem kp_in {l : List OrV} {i : Nat} {o : OrV} (ho : l[i]? = some o) (hc : o.what = 3 ∨ lf l l.length o.player o.unit = (i : Nat)) : ∀ {q : Nat}, i < q → (o, i) ∈ kp l q
  | 0, h => by omega
  | q + 1, h => by
    by_cases e : i = q
    · subst e
      rw [kp_yes ho hc]
      simp
    · have ih := kp_in ho hc (q := q) (by omega)
      rw [kp]
      cases hq : l[q]? with
      | none => exact ih
      | some o' =>
        simp only
        split
        · exact List.mem_append_left _ ih
        · exact ih
theorem kp_tags {l : List OrV} : ∀ (q : Nat), (kp l q).Pairwise (fun x y => x.2 < y.2)
  | 0 => List.Pairwise.nil
  | q + 1 => by
    rw [kp]
    cases hq : l[q]? with
    | none => exact kp_tags q
    | some o =>
      simp only
      split
      · refine List.pairwise_append.2 ⟨kp_tags q, by simp, fun x hx y hy => ?_⟩
        simp at hy
        subst hy
        exact (kp_mem hx).1
      · exact kp_tags q
theorem kp_len {l : List OrV} : ∀ (q : Nat), (kp l q).length ≤ q
  | 0 => Nat.le_refl _
  | q + 1 => by
    rw [kp]
    have := kp_len (l := l) q
    cases hq : l[q]? with
    | none => simp only; omega
    | some o =>
      simp only
      split
      · simp; omega
      · omega
/-- the last order of a unit is told. -/
theorem lf_last {l : List OrV} {i : Nat} {o : OrV} (ho : l[i]? = some o) (h3 : ¬ o.what = 3) : ∀ {q : Nat}, i < q → (∀ k x, i < k → k < q → l[k]? = some x → x.what = 3 ∨ x.player ≠ o.player ∨ x.unit ≠ o.unit) → lf l q o.player o.unit = (i : Nat)
  | 0, h, _ => by omega
  | q + 1, h, hn => by
    by_cases e : i = q
    · subst e
      rw [lf_other ho h3]
      unfold updAt
      rw [if_pos ⟨rfl, rfl⟩]
    · have ih := lf_last ho h3 (q := q) (by omega) (fun k x h1 h2 hx => hn k x h1 (by omega) hx)
      rw [lf]
      cases hq : l[q]? with
      | none => exact ih
      | some x =>
        simp only
        split
        · exact ih
        · rename_i hx3
          unfold updAt
          rw [if_neg]
          · exact ih
          · rintro ⟨h1, h2⟩
            rcases hn q x (by omega) (by omega) hq with h | h | h
            · exact hx3 h
            · exact h h1.symm
            · exact h h2.symm
/-- of orders l, those that count. -/
def LastSays (l out : List OrV) : Prop := ∃ S : List T, S.Perm (kp l l.length) ∧ S.Pairwise lt ∧ out = S.map Prod.fst
theorem LastSays.one {l out out' : List OrV} (h : LastSays l out) (h' : LastSays l out') : out = out' := by
  obtain ⟨S, p, r, rfl⟩ := h
  obtain ⟨S', p', r', rfl⟩ := h'
  rw [rise_unique (p.trans p'.symm) r r']
theorem LastSays.len {l out : List OrV} (h : LastSays l out) : out.length ≤ l.length := by
  obtain ⟨S, p, r, rfl⟩ := h
  have := kp_len (l := l) l.length
  rw [List.length_map, p.length_eq]
  exact this
theorem LastSays.mem {l out : List OrV} (h : LastSays l out) {o : OrV} (ho : o ∈ out) : o ∈ l := by
  obtain ⟨S, p, r, rfl⟩ := h
  obtain ⟨x, hx, rfl⟩ := List.mem_map.1 ho
  exact List.mem_of_getElem? (kp_mem (p.mem_iff.1 hx)).2.1
end So
end Go.Proofs.YtelbdcljdfadbaaDoor

namespace Go.Proofs.YtelbdcljdfadbaaDoor
open Go.RowKit Go.Proofs.YtelbdcljdfadbaaDoor.So
set_option linter.unusedVariables false

def RcI (ks : List OrV) (w : World) (j : Value) (W' : World) : Prop := ∃ q : Nat, q ≤ ks.length ∧ j = .int .i64 (q : Nat) ∧ (∀ (i : Nat) o, i < q → ks[i]? = some o → ¬ Od.bad o) ∧ Below w.heap.size w W'
set_option maxRecDepth 100000 in
set_option maxHeartbeats 4000000 in
theorem ref_orders (v : Value) (ks : List OrV) (w : World) (h : Orl w v ks) :
    Calls Tryd.prog 26 #[v] w fun e w' => e = .returned (.int .i64 (Od.faults ks)) ∧ Below w.heap.size w w' := by
  have K0 : Hid (Orl w v ks) := h
  obtain ⟨R, hR⟩ : ∃ R, Od.faults ks = R := ⟨_, rfl⟩
  have HR : Hid (Od.faults ks = R) := hR
  rw [hR]
  clear hR
  obtain ⟨a, c, rfl, c1, c2, -⟩ := h
  by_cases h8 : 60 < ks.length
  · have E : Hid (R = 4) := by unfold Hid; rw [← HR.out]; unfold Od.faults; rw [if_pos h8]
    have h8' : (60 : Int) < (ks.length : Int) := by omega
    go_enter Tryd.func26, Tryd.ntmps26
    go_wp2
    go_ret
    exact ⟨by rw [E.out]; rfl, Below.refl _ _⟩
  · have h8' : ¬ (60 : Int) < (ks.length : Int) := by omega
    have LE : Hid (ks.length ≤ 60) := by unfold Hid; omega
    go_enter Tryd.func26, Tryd.ntmps26
    go_wp2_with fail
    go_loopw [3] (fun j W' => RcI ks w j W') (fun j _ => ks.length - (intOf j).toNat)
    case atStart => exact ⟨0, Nat.zero_le _, rfl, fun i o hi => by omega, Below.refl _ _⟩
    case round =>
      obtain ⟨q, hq, rfl, hg, hb⟩ := hrel
      have Gq : Hid (∀ (i : Nat) o, i < q → ks[i]? = some o → ¬ Od.bad o) := hg
      have B : Hid (Below w.heap.size w wr) := hb
      clear hg hb
      by_cases hql : q = ks.length
      · have E : Hid (R = 0) := by
          unfold Hid
          rw [← HR.out]
          refine Od.faults_of LE.out fun o ho => ?_
          obtain ⟨i, hi⟩ := List.mem_iff_getElem?.1 ho
          exact Gq.out i o (by rw [hql]; exact (List.getElem?_eq_some_iff.1 hi).1) hi
        subst hql
        go_wp2
        go_ret
        exact ⟨by rw [E.out]; rfl, B⟩
      · have hqk : q < ks.length := by omega
        obtain ⟨k, hk⟩ : ∃ k, ks[q]? = some k := ⟨_, List.getElem?_eq_getElem hqk⟩
        have HK : Hid (ks[q]? = some k) := hk
        have K1 := K0.out.below B.out
        have CK : Hid (∀ W : World, Calls Tryd.prog 58 #[k.val] W fun e w' => e = .returned (.int .i64 (Od.fault k)) ∧ Below W.heap.size W w') := fun W => ref_order k W
        obtain ⟨a', c', e, -, -, h3⟩ := K1
        injection e with e1 e2 e3
        subst e1 e3
        obtain ⟨x, rfl, hx1, hx⟩ := h3 (by rintro rfl; simp at hqk)
        have Yc := hx q k hk
        clear hx h3 e2 hk
        obtain ⟨q0, q1, q2, q3⟩ := Yc
        unfold OrV.val at CK
        go_wp2_with fail
        refine Calls.mono (CK.out wr) ?_
        rintro e w2 ⟨rfl, b2⟩
        have B3 : Hid (Below w.heap.size w w2) := B.out.trans (b2.mono B.out.size)
        clear b2 CK q0 q1 q2 q3
        by_cases hbad : Od.bad k
        · have E : Hid (R = 1) := by
            unfold Hid
            rw [← HR.out]
            unfold Od.faults
            rw [if_neg (by have := LE.out; omega), if_pos (List.any_eq_true.2 ⟨k, List.mem_of_getElem? HK.out, decide_eq_true hbad⟩)]
          rw [Od.fault_bad hbad]
          clear hbad
          go_wp2
          go_ret
          exact ⟨by rw [E.out]; rfl, B3⟩
        · have G2 : Hid (∀ (i : Nat) o, i < q + 1 → ks[i]? = some o → ¬ Od.bad o) := fun i o hi ho => by
            by_cases e : i = q
            · subst e
              rw [HK.out] at ho
              obtain rfl := Option.some.inj ho
              exact hbad
            · exact Gq.out i o (by omega) ho
          rw [Od.fault_ok hbad]
          clear hbad
          go_wp2
          go_round
          case rel => exact ⟨q + 1, by omega, by go_num, G2, B3⟩
          case measure => simp [intOf]; omega
set_option maxRecDepth 100000 in
set_option maxHeartbeats 4000000 in
theorem ref_behind (a b : OrV) (w : World) : Calls Tryd.prog 61 #[a.val, b.val] w fun e w' => e = .returned (.bool (decide (klt b a))) ∧ Below w.heap.size w w' := by
  have BB : Hid (∀ o1 o2, Below w.heap.size w ((w.alloc o1).alloc o2)) := fun o1 o2 => ((Below.refl _ _).alloc (Nat.le_refl _) _).alloc (by simp) _
  have KT : Hid (klt b a ↔ klt b a) := Iff.rfl
  unfold OrV.val
  by_cases h1 : a.player = b.player
  · by_cases h2 : a.unit = b.unit
    · by_cases h3 : a.what = 3
      · have E : Hid (decide (klt b a) = false) := decide_eq_false (by unfold klt rnk; rw [if_pos h3]; split <;> omega)
        go_enter Tryd.func61, Tryd.ntmps61
        go_wp2
        go_ret
        exact ⟨by rw [E.out]; rfl, BB.out _ _⟩
      · by_cases h4 : b.what = 3
        · have E : Hid (decide (klt b a) = true) := decide_eq_true (by unfold klt rnk; rw [if_neg h3, if_pos h4]; omega)
          have H3 : Hid ((a.what != 3) = true) := bne_iff_ne.2 h3
          have h3b : (a.what == 3) = false := beq_eq_false_iff_ne.2 h3
          go_enter Tryd.func61, Tryd.ntmps61
          go_wp2
          go_ret
          exact ⟨by rw [E.out]; show Ending.returned (Value.bool (a.what != 3)) = _; rw [H3.out], BB.out _ _⟩
        · have E : Hid (decide (klt b a) = false) := decide_eq_false (by unfold klt rnk; rw [if_neg h3, if_neg h4]; omega)
          have h3b : (a.what == 3) = false := beq_eq_false_iff_ne.2 h3
          have h4b : (b.what == 3) = false := beq_eq_false_iff_ne.2 h4
          go_enter Tryd.func61, Tryd.ntmps61
          go_wp2
          go_ret
          exact ⟨by rw [E.out]; rfl, BB.out _ _⟩
    · have h2b : (a.unit == b.unit) = false := beq_eq_false_iff_ne.2 h2
      have E : Hid (decide (klt b a) = decide (b.unit < a.unit)) := by
        unfold Hid
        congr 1
        unfold klt
        exact propext ⟨fun h => by omega, fun h => by omega⟩
      go_enter Tryd.func61, Tryd.ntmps61
      go_wp2
      go_ret
      exact ⟨by rw [E.out]; rfl, BB.out _ _⟩
  · have h1b : (a.player == b.player) = false := beq_eq_false_iff_ne.2 h1
    have E : Hid (decide (klt b a) = decide (b.player < a.player)) := by
      unfold Hid
      congr 1
      unfold klt
      exact propext ⟨fun h => by omega, fun h => by omega⟩
    go_enter Tryd.func61, Tryd.ntmps61
    go_wp2
    go_ret
    exact ⟨by rw [E.out]; rfl, BB.out _ _⟩
end Go.Proofs.YtelbdcljdfadbaaDoor

namespace Go.Proofs.YtelbdcljdfadbaaDoor
namespace So
set_option linter.unusedVariables false
theorem lf_later {l : List OrV} {k : Nat} {x : OrV} (hx : l[k]? = some x) (h3 : ¬ x.what = 3) : ∀ {q : Nat}, k < q → ((k : Nat) : Int) ≤ lf l q x.player x.unit
  | 0, h => by omega
  | q + 1, h => by
    by_cases e : k = q
    · subst e
      rw [lf_other hx h3]
      unfold updAt
      rw [if_pos ⟨rfl, rfl⟩]
      omega
    · have ih := lf_later hx h3 (q := q) (by omega)
      rw [lf]
      cases hq : l[q]? with
      | none => exact ih
      | some y =>
        simp only
        split
        · exact ih
        · unfold updAt
          split
          · omega
          · exact ih
/-- no later one takes its place. -/
def Stays (l : List OrV) (i : Nat) (o : OrV) : Prop := ∀ (k : Nat) x, i < k → k < l.length → l[k]? = some x → ¬ (¬ o.what = 3 ∧ ¬ x.what = 3 ∧ x.player = o.player ∧ x.unit = o.unit)
theorem stays_iff {l : List OrV} {i : Nat} {o : OrV} (ho : l[i]? = some o) : Stays l i o ↔ (o.what = 3 ∨ lf l l.length o.player o.unit = (i : Nat)) := by
  have hi : i < l.length := (List.getElem?_eq_some_iff.1 ho).1
  constructor
  · intro h
    by_cases h3 : o.what = 3
    · exact .inl h3
    · refine .inr (lf_last ho h3 hi fun k x h1 h2 hx => ?_)
      have := h k x h1 h2 hx
      by_cases hx3 : x.what = 3
      · exact .inl hx3
      · by_cases hp : x.player = o.player
        · exact .inr (.inr fun hu => this ⟨h3, hx3, hp, hu⟩)
        · exact .inr (.inl hp)
  · rintro (h | h) k x h1 h2 hx ⟨h3, hx3, hp, hu⟩
    · exact h3 h
    · have := lf_later hx hx3 h2
      rw [hp, hu, h] at this
      omega
theorem stays_yes {l : List OrV} {i : Nat} {o : OrV} (ho : l[i]? = some o) (h : Stays l i o) : kp l (i + 1) = kp l i ++ [(o, i)] := kp_yes ho ((stays_iff ho).1 h)
theorem stays_no {l : List OrV} {i : Nat} {o : OrV} (ho : l[i]? = some o) (h : ¬ Stays l i o) : kp l (i + 1) = kp l i := kp_no ho (fun hc => h ((stays_iff ho).2 hc))
/-- x, with the greatest tag, put in its place. -/
theorem put_place {S1 S2 : List T} {x : T} (h : (S1 ++ S2).Pairwise lt) (ht : ∀ y ∈ S1 ++ S2, y.2 < x.2) (h2 : ∀ y ∈ S2, klt x.1 y.1) (h1 : ∀ y, S1.getLast? = some y → ¬ klt x.1 y.1) : (S1 ++ x :: S2).Pairwise lt := by
  refine put_rise h (fun y hy => ?_) (fun y hy => .inl (h2 y hy))
  rcases List.eq_nil_or_concat S1 with rfl | ⟨S, z, rfl⟩
  · cases hy
  · have hz : lt z x := (ask_ge (ht z (by simp))).1 (h1 z (by simp))
    rw [List.concat_eq_append] at hy h
    rcases List.mem_append.1 hy with hy | hy
    · rw [List.append_assoc, List.pairwise_append] at h
      exact lt_trans (h.2.2 y hy z (by simp)) hz
    · simp at hy
      subst hy
      exact hz
end So
end Go.Proofs.YtelbdcljdfadbaaDoor

namespace Go.Proofs.YtelbdcljdfadbaaDoor
open Go.RowKit
set_option linter.unusedVariables false

theorem info_or : (Tryd.prog.info? 63).map (fun i => (i.zero, i.size, i.bytes)) = some (some (.agg #[.int .i64 0, .int .i64 0, .int .i64 0, .int .i64 0]), 4, 32) := by kernel_rfl
def OrV.cs (k : OrV) : List Value := [.int .i64 k.player, .int .i64 k.unit, .int .i64 k.what, .int .i64 k.arg]
theorem flat_or : ∀ (ks : List OrV) (i j : Nat) (k : OrV), ks[i]? = some k → j < 4 → (ks.flatMap OrV.cs)[i * 4 + j]? = k.cs[j]?
  | [], i, j, k, h, _ => by simp at h
  | x :: ks, 0, j, k, h, hj => by
    simp at h
    subst h
    rw [List.flatMap_cons, List.getElem?_append_left (by simp [OrV.cs]; omega)]
    simp
  | x :: ks, i + 1, j, k, h, hj => by
    rw [List.flatMap_cons, List.getElem?_append_right (by simp [OrV.cs]; omega)]
    have : (i + 1) * 4 + j - (OrV.cs x).length = i * 4 + j := by simp [OrV.cs]; omega
    rw [this]
    exact flat_or ks i j k (by simpa using h) hj
/-- v is a slice of them, in a block of its own from base on. -/
def Oro (w : World) (base : Nat) (v : Value) (ks : List OrV) : Prop := w.ownsRow base 63 4 v ks.length (ks.flatMap OrV.cs)
theorem Oro.nil (w : World) (base : Nat) : Oro w base (.slice none 0 0) [] := World.ownsRow_nil _ _ _ _
theorem Oro.below {w w' : World} {base : Nat} {v : Value} {ks : List OrV} (h : Oro w base v ks) (hb : Below w.heap.size w w') : Oro w' base v ks :=
  World.ownsRow.kept h (row := none) ⟨hb.os, hb.tape, hb.output, hb.size, fun k hk _ => hb.block k hk⟩ (by cases v.ownBlock <;> simp)
theorem Oro.kept {w w' : World} {base : Nat} {v : Value} {ks : List OrV} {row : Option Nat} (h : Oro w base v ks) (hg : w.grownBy w' row) (hne : v.ownBlock = none ∨ v.ownBlock ≠ row) : Oro w' base v ks := World.ownsRow.kept h hg hne
theorem Oro.alloc {w : World} {base : Nat} {v : Value} {ks : List OrV} (h : Oro w base v ks) (o : Obj) : Oro (w.alloc o) base v ks := World.ownsRow.alloc h o
theorem Oro.block {w : World} {base : Nat} {v : Value} {ks : List OrV} (h : Oro w base v ks) : ∀ k, v.ownBlock = some k → base ≤ k ∧ k < w.heap.size := World.ownsRow.lt h
theorem Oro.mono {w : World} {base base' : Nat} {v : Value} {ks : List OrV} (h : Oro w base v ks) (hb : base' ≤ base) : Oro w base' v ks := by
  refine ⟨h.1, ?_⟩
  rcases h.2 with h1 | ⟨g, cap, cur, h1, h2, h3⟩
  · exact .inl h1
  · exact .inr ⟨g, cap, cur, h1, Nat.le_trans hb h2, h3⟩
theorem Oro.l {w : World} {base : Nat} {v : Value} {ks : List OrV} (h : Oro w base v ks) : Orl w v ks := by
  rcases h.2 with ⟨hv, h0⟩ | ⟨g, cap, cur, hv, hb, hg, h1, h2, h3, h4⟩
  · exact ⟨none, 0, by rw [hv, h0], by omega, by omega, fun hn => absurd (List.length_eq_zero_iff.1 h0) hn⟩
  · refine ⟨_, cap, hv, h1, by unfold maxLen at h2; omega, fun _ => ⟨_, rfl, lt_of_block hg, fun i k hi => ?_⟩⟩
    have hil : i < ks.length := (List.getElem?_eq_some_iff.1 hi).1
    have h5 : w.ownsRow base 63 4 (.slice (some ⟨g, 0, none⟩) ks.length cap) ks.length (ks.flatMap OrV.cs) := by rw [← hv]; exact h
    have hc : ∀ j u, j < 4 → k.cs[j]? = some u → w.cell? ⟨g, i * 4 + j, none⟩ = some u := fun j u hj hu => by
      rw [h5.cellAt (i * 4 + j) (by omega), flat_or ks i j k hi hj, hu]
    rw [Addr.add_lit, Nat.zero_add]
    exact ⟨hc 0 _ (by decide) rfl, hc 1 _ (by decide) rfl, hc 2 _ (by decide) rfl, hc 3 _ (by decide) rfl⟩
theorem Oro.len {w : World} {base : Nat} {v : Value} {ks : List OrV} (h : Oro w base v ks) : ∃ a c, v = .slice a ks.length c := by
  obtain ⟨a, c, h1, -⟩ := h.l
  exact ⟨a, c, h1⟩

/-- one more. -/
theorem app_or {ops : Array Oper} {rest : List Oper} {o : Oper} {a : Act} {Q : Exit → Act → World → Prop} (w : World) (hgd : o.guard = none) (s x : Operand)
    (ho : o.op = .call { callee := .builtin .append, args := #[s, x], argTypes := #[57, 57] }) (base : Nat) (v : Value) (ks : List OrV) (hs : a.eval s = v) (hown : Oro w base v ks)
    (b : Nat) (d : OrV) (hx : a.eval x = .slice (some ⟨b, 0, none⟩) 1 1) (hd : Orc w ⟨b, 0, none⟩ d) (hl : ks.length ≤ 1000000) (hbase : base ≤ w.heap.size)
    (h : ∀ g cap w', Oro w' base (.slice (some ⟨g, 0, none⟩) (ks.length + 1) cap) (ks ++ [d]) → w.grownBy w' v.ownBlock → (v.ownBlock = some g ∨ g = w.heap.size) → g < w'.heap.size → wpList Tryd.prog ops Q rest (a.put o.dst (.slice (some ⟨g, 0, none⟩) (ks.length + 1) cap)) w') :
    wpList Tryd.prog ops Q (o :: rest) a w := by
  obtain ⟨i0, hi, hz0, hz1, hz2⟩ := info_parts info_or
  refine wpList_append_lies w hgd s x 57 ho base 63 i0 (.agg #[.int .i64 0, .int .i64 0, .int .i64 0, .int .i64 0]) 4 32 Tryd.underlying57 hi hz0 hz1 hz2 rfl (by decide) v ks.length _ hs hown ⟨b, 0, none⟩ 1 1 d.cs hx rfl ?_ ?_ (by decide) (by unfold maxLen; omega) (by omega) hbase _ rfl ?_
  · intro j u hj
    have hjn : j < 4 := (List.getElem?_eq_some_iff.1 hj).1
    rw [Addr.add_lit, Nat.zero_add]
    match j, hjn, hj with
    | 0, _, hj => simp [OrV.cs] at hj; subst hj; exact hd.c0
    | 1, _, hj => simp [OrV.cs] at hj; subst hj; exact hd.c1
    | 2, _, hj => simp [OrV.cs] at hj; subst hj; exact hd.c2
    | 3, _, hj => simp [OrV.cs] at hj; subst hj; exact hd.c3
  · intro u hu
    simp [OrV.cs] at hu
    rcases hu with rfl | rfl | rfl | rfl <;> rfl
  · intro g cap w' h1 h2 h3 h4
    refine h g cap w' ?_ h2 h3 h4
    unfold Oro
    rw [List.length_append, List.flatMap_append]
    simpa using h1
end Go.Proofs.YtelbdcljdfadbaaDoor

namespace Go.Proofs.YtelbdcljdfadbaaDoor
open Go.RowKit
set_option linter.unusedVariables false

theorem info_int : (Tryd.prog.info? 3).map (fun i => (i.zero, i.size, i.bytes)) = some (some (.int .i64 0), 1, 8) := by kernel_rfl

/-- v is a slice of the integers xs, in a block of its own from base on. -/
def Ow (w : World) (base : Nat) (v : Value) (xs : List Int) : Prop := w.ownsRow base 3 1 v xs.length (xs.map (Value.int .i64))
theorem Ow.nil (w : World) (base : Nat) : Ow w base (.slice none 0 0) [] := World.ownsRow_nil _ _ _ _
theorem Ow.ro {w : World} {base : Nat} {v : Value} {xs : List Int} (h : Ow w base v xs) : Ro w v xs := by
  rcases h.2 with ⟨hv, h0⟩ | ⟨g, cap, cur, hv, hb, hg, h1, h2, h3, h4⟩
  · obtain rfl := List.length_eq_zero_iff.1 h0
    exact ⟨none, 0, hv, Nat.le_refl _, by omega, fun h => absurd rfl h⟩
  · refine ⟨_, cap, hv, h1, by unfold maxLen at h2; omega, fun _ => ⟨_, rfl, lt_of_block hg, fun i d hd => ?_⟩⟩
    have hi : i < xs.length := (List.getElem?_eq_some_iff.1 hd).1
    rw [Addr.add_lit, Nat.zero_add]
    have h5 : w.ownsRow base 3 1 (.slice (some ⟨g, 0, none⟩) xs.length cap) xs.length (xs.map (Value.int .i64)) := by rw [← hv]; exact h
    rw [h5.cellAt i (by omega), List.getElem?_map, hd]
    rfl
theorem Ow.kept {w w' : World} {base : Nat} {v : Value} {xs : List Int} {row : Option Nat} (h : Ow w base v xs) (hg : w.grownBy w' row) (hne : v.ownBlock = none ∨ v.ownBlock ≠ row) : Ow w' base v xs := World.ownsRow.kept h hg hne
theorem Ow.alloc {w : World} {base : Nat} {v : Value} {xs : List Int} (h : Ow w base v xs) (o : Obj) : Ow (w.alloc o) base v xs := World.ownsRow.alloc h o
theorem Ow.drewN {w : World} {base : Nat} {v : Value} {xs : List Int} (h : Ow w base v xs) (n : Nat) : Ow (w.drewN n) base v xs := h
theorem Ow.block {w : World} {base : Nat} {v : Value} {xs : List Int} (h : Ow w base v xs) : ∀ k, v.ownBlock = some k → base ≤ k ∧ k < w.heap.size := World.ownsRow.lt h
theorem Ow.below {w w' : World} {base : Nat} {v : Value} {xs : List Int} (h : Ow w base v xs) (hb : Below w.heap.size w w') : Ow w' base v xs :=
  h.kept (row := none) ⟨hb.os, hb.tape, hb.output, hb.size, fun k hk _ => hb.block k hk⟩ (by cases v.ownBlock <;> simp)
theorem Ow.mono {w : World} {base base' : Nat} {v : Value} {xs : List Int} (h : Ow w base v xs) (hb : base' ≤ base) : Ow w base' v xs := by
  refine ⟨h.1, ?_⟩
  rcases h.2 with h1 | ⟨g, cap, cur, h1, h2, h3⟩
  · exact .inl h1
  · exact .inr ⟨g, cap, cur, h1, Nat.le_trans hb h2, h3⟩
theorem Ow.len {w : World} {base : Nat} {v : Value} {xs : List Int} (h : Ow w base v xs) : ∃ a c, v = .slice a xs.length c := by
  obtain ⟨a, c, h1, -⟩ := h.ro
  exact ⟨a, c, h1⟩

/-- one more. -/
theorem app_int {ops : Array Oper} {rest : List Oper} {o : Oper} {a : Act} {Q : Exit → Act → World → Prop} (w : World) (hgd : o.guard = none) (s x : Operand)
    (ho : o.op = .call { callee := .builtin .append, args := #[s, x], argTypes := #[23, 23] }) (base : Nat) (v : Value) (xs : List Int) (hs : a.eval s = v) (hown : Ow w base v xs)
    (ad : Addr) (d : Int) (hx : a.eval x = .slice (some ad) 1 1) (hd : w.cell? ad = some (.int .i64 d)) (hl : xs.length ≤ 1000000000) (hbase : base ≤ w.heap.size)
    (h : ∀ g cap w', Ow w' base (.slice (some ⟨g, 0, none⟩) (xs.length + 1) cap) (xs ++ [d]) → w.grownBy w' v.ownBlock → (v.ownBlock = some g ∨ g = w.heap.size) → g < w'.heap.size → wpList Tryd.prog ops Q rest (a.put o.dst (.slice (some ⟨g, 0, none⟩) (xs.length + 1) cap)) w') :
    wpList Tryd.prog ops Q (o :: rest) a w := by
  obtain ⟨i0, hi, hz0, hz1, hz2⟩ := info_parts info_int
  refine wpList_append_lies w hgd s x 23 ho base 3 i0 (.int .i64 0) 1 8 Tryd.underlying23 hi hz0 hz1 hz2 rfl (by decide) v xs.length _ hs hown ad 1 1 [.int .i64 d] hx rfl ?_ ?_ (by decide) (by unfold maxLen; omega) (by omega) hbase _ rfl ?_
  · intro j u hj
    match j, hj with
    | 0, hj => simp at hj; subst hj; exact hd
  · intro u hu
    simp at hu
    subst hu
    rfl
  · intro g cap w' h1 h2 h3 h4
    refine h g cap w' ?_ h2 h3 h4
    unfold Ow
    rw [List.length_append, List.map_append]
    exact h1

/-- a list of one. -/
theorem Ow.one {w : World} {base z : Nat} (d : Int) (hb : base ≤ w.heap.size) (hz : w.heap.size = z) : Ow (w.alloc (.cells #[.int .i64 d] 3)) base (.slice (some ⟨z, 0, none⟩) 1 1) [d] := by
  subst hz
  exact ⟨rfl, .inr ⟨_, _, _, rfl, hb, heap_alloc_new w _, Nat.le_refl _, by unfold maxLen; decide, rfl, rfl⟩⟩
end Go.Proofs.YtelbdcljdfadbaaDoor

namespace Go.Proofs.YtelbdcljdfadbaaDoor
open Go.RowKit
set_option linter.unusedVariables false

theorem run_append_no {P : Program} {w : World} (base : Nat) (t ty e : TypeId) (i : TypeInfo) (size : Nat) (ht : P.underlying t = some (.slice e)) (hi : P.info? e = some i)
    (v : Value) (n : Nat) (xs : List Value) (hown : w.ownsRow base e size v n xs) (a : Option Addr) (c : Nat) :
    (Builtin.append_ #[t, t] ty #[v, .slice a 0 c]).run P w = .ok v w := by
  rcases hown.2 with ⟨rfl, rfl⟩ | ⟨g, cap, cur, rfl, _, _, hnc, _⟩
  · cases a <;> simp [Builtin.append_, run_underlying ht, sizeOf, typeInfo, hi, Builtin.lenOf, Builtin.firstCells, loadCells, loadCellsFrom]
  · cases a <;> simp [Builtin.append_, run_underlying ht, sizeOf, typeInfo, hi, Builtin.lenOf, Builtin.firstCells, hnc, storeCells, loadCells, loadCellsFrom]
theorem app_row {ops : Array Oper} {rest : List Oper} {o : Oper} {a : Act} {Q : Exit → Act → World → Prop} (w : World) (hgd : o.guard = none) (s x : Operand)
    (ho : o.op = .call { callee := .builtin .append, args := #[s, x], argTypes := #[23, 23] }) (base : Nat) (v : Value) (xs : List Int) (hs : a.eval s = v) (hown : Ow w base v xs)
    (u : Value) (ys : List Int) (hx : a.eval x = u) (hu : Ro w u ys) (hl : xs.length + ys.length ≤ 1000000000) (hbase : base ≤ w.heap.size)
    (h : ∀ v' w', Ow w' base v' (xs ++ ys) → w.grownBy w' v.ownBlock → (v'.ownBlock = v.ownBlock ∨ v'.ownBlock = some w.heap.size) → wpList Tryd.prog ops Q rest (a.put o.dst v') w') :
    wpList Tryd.prog ops Q (o :: rest) a w := by
  obtain ⟨i0, hi, hz0, hz1, hz2⟩ := info_parts info_int
  obtain ⟨ad, c, rfl, h1, h2, h3⟩ := hu
  by_cases hn : ys = []
  · subst hn
    refine wpList_plain hgd fun K hK => ?_
    have hrun := run_append_no (P := Tryd.prog) (w := w) base 23 o.type 3 i0 1 Tryd.underlying23 hi v xs.length _ hown ad c
    have hx' : a.eval x = .slice ad 0 c := hx
    unfold Oper.wp
    simp [execOp, ho, resolve, invoke, builtin, hs, hx', hrun, Result.andThen]
    exact hK _ _ (h v w (by simpa using hown) (World.grownBy.refl _ _) (.inl rfl))
  · obtain ⟨y, rfl, hy, hc⟩ := h3 hn
    refine wpList_append_lies w hgd s x 23 ho base 3 i0 (.int .i64 0) 1 8 Tryd.underlying23 hi hz0 hz1 hz2 rfl (by decide) v xs.length _ hs hown y ys.length c (ys.map (Value.int .i64)) hx (by simp) ?_ ?_ (List.length_pos_iff.2 hn) (by unfold maxLen; omega) (by omega) hbase _ rfl ?_
    · intro j u hj
      rw [List.getElem?_map] at hj
      cases hd : ys[j]? with
      | none => rw [hd] at hj; cases hj
      | some d => rw [hd] at hj; cases hj; exact hc j d hd
    · exact ints_oneCell _ _
    · intro g cap w' k1 k2 k3 _
      refine h _ w' ?_ k2 ?_
      · unfold Ow
        rw [List.length_append, List.map_append]
        exact k1
      · rcases k3 with k3 | k3
        · exact .inl k3.symm
        · exact .inr (by rw [k3]; rfl)
end Go.Proofs.YtelbdcljdfadbaaDoor

namespace Go.Proofs.YtelbdcljdfadbaaDoor
open Go.RowKit
set_option linter.unusedVariables false

theorem len_or (ks : List OrV) : (ks.flatMap OrV.cs).length = ks.length * 4 := by
  induction ks with
  | nil => rfl
  | cons x l ih => rw [List.flatMap_cons, List.length_append, ih, List.length_cons, Nat.succ_mul, Nat.add_comm]; rfl
theorem cell_or {w : World} {y : Addr} {ks : List OrV} (hc : ∀ (i : Nat) k, ks[i]? = some k → Orc w (y.add (i * 4)) k) (j : Nat) (u : Value) (hj : (ks.flatMap OrV.cs)[j]? = some u) : w.cell? (y.add j) = some u := by
  have hjl : j < ks.length * 4 := by rw [← len_or]; exact (List.getElem?_eq_some_iff.1 hj).1
  obtain ⟨i, r, hr, rfl⟩ : ∃ i r, r < 4 ∧ j = i * 4 + r := ⟨j / 4, j % 4, Nat.mod_lt _ (by decide), by omega⟩
  have hi : i < ks.length := by omega
  obtain ⟨k, hk⟩ : ∃ k, ks[i]? = some k := ⟨_, List.getElem?_eq_getElem hi⟩
  rw [flat_or ks i r k hk hr] at hj
  have h := hc i k hk
  rcases Nat.eq_zero_or_pos r with rfl | hr0
  · simp [OrV.cs] at hj
    subst hj
    exact h.c0
  · have ea : y.add (i * 4 + r) = ⟨(y.add (i * 4)).block, (y.add (i * 4)).off + r, none⟩ := by
      unfold Addr.add
      rw [if_neg (by omega)]
      split <;> simp <;> omega
    rw [ea]
    match r, hr, hr0, hj with
    | 1, _, _, hj => simp [OrV.cs] at hj; subst hj; exact h.c1
    | 2, _, _, hj => simp [OrV.cs] at hj; subst hj; exact h.c2
    | 3, _, _, hj => simp [OrV.cs] at hj; subst hj; exact h.c3

theorem app_ors {ops : Array Oper} {rest : List Oper} {o : Oper} {a : Act} {Q : Exit → Act → World → Prop} (w : World) (hgd : o.guard = none) (s x : Operand)
    (ho : o.op = .call { callee := .builtin .append, args := #[s, x], argTypes := #[57, 57] }) (base : Nat) (v : Value) (ks : List OrV) (hs : a.eval s = v) (hown : Oro w base v ks)
    (u : Value) (ys : List OrV) (hx : a.eval x = u) (hu : Orl w u ys) (hl : ks.length + ys.length ≤ 100000000) (hbase : base ≤ w.heap.size)
    (h : ∀ v' w', Oro w' base v' (ks ++ ys) → w.grownBy w' v.ownBlock → (v'.ownBlock = v.ownBlock ∨ v'.ownBlock = some w.heap.size) → wpList Tryd.prog ops Q rest (a.put o.dst v') w') :
    wpList Tryd.prog ops Q (o :: rest) a w := by
  obtain ⟨i0, hi, hz0, hz1, hz2⟩ := info_parts info_or
  obtain ⟨ad, c, rfl, h1, h2, h3⟩ := hu
  by_cases hn : ys = []
  · subst hn
    refine wpList_plain hgd fun K hK => ?_
    have hrun := run_append_no (P := Tryd.prog) (w := w) base 57 o.type 63 i0 4 Tryd.underlying57 hi v ks.length _ hown ad c
    have hx' : a.eval x = .slice ad 0 c := hx
    unfold Oper.wp
    simp [execOp, ho, resolve, invoke, builtin, hs, hx', hrun, Result.andThen]
    exact hK _ _ (h v w (by simpa using hown) (World.grownBy.refl _ _) (.inl rfl))
  · obtain ⟨y, rfl, hy, hc⟩ := h3 hn
    refine wpList_append_lies w hgd s x 57 ho base 63 i0 _ 4 32 Tryd.underlying57 hi hz0 hz1 hz2 rfl (by decide) v ks.length _ hs hown y ys.length c (ys.flatMap OrV.cs) hx (len_or ys) (cell_or hc) ?_ (List.length_pos_iff.2 hn) (by unfold maxLen; omega) (by omega) hbase _ rfl ?_
    · intro u hu
      obtain ⟨k, -, hk⟩ := List.mem_flatMap.1 hu
      simp [OrV.cs] at hk
      rcases hk with rfl | rfl | rfl | rfl <;> rfl
    · intro g cap w' k1 k2 k3 _
      refine h _ w' ?_ k2 ?_
      · unfold Oro
        rw [List.length_append, List.flatMap_append]
        exact k1
      · rcases k3 with k3 | k3
        · exact .inl k3.symm
        · exact .inr (by rw [k3]; rfl)
end Go.Proofs.YtelbdcljdfadbaaDoor

