/- Texts: their lines. Plain mathematics. · Orders: what is wrong with them, their text, and back. Plain mathematics. · The program's orders: what is wrong with one. · orders.Check, unitOf, lastOnes. · Orders in a block that may be sorted in place. · A region whose operations read, and call what makes memory, ahead of a tail in one order: it may be walked in the text's order. · The program's orders: compare. · slices.insertionSortCmpFunc of orders by compare. · slices.swapRangeCmpFunc of orders, by places. · slices.rotateCmpFunc of orders, by places. · slices.symMergeCmpFunc of orders: one in front. · slices.symMergeCmpFunc of orders: one behind. · slices.symMergeCmpFunc: where two rising lists are cut. · slices.symMergeCmpFunc: where the search has ended, the two lists are cut. · slices.symMergeCmpFunc of orders: what both ways share. · slices.symMergeCmpFunc of orders: mid < m. · slices.symMergeCmpFunc of orders: m <= mid. · slices.symMergeCmpFunc of orders. -/
import Derived.Test.YtbomnicnoanjlaaDoorZLockWaits1
import Derived.Laws.Closers25
import Derived.IntWalk
import Derived.LoopN
import Derived.Deep.DeepCutAuto
import Derived.StillTail
import Derived.Below
import Derived.BigRegion
import Derived.Shelf.Abstract
namespace Go.Proofs.YtbomnicnoanjlaaDoor.Tx

/-- the lines of a text, each with its end, if it has one. -/
def lines : List UInt8 → List (List UInt8)
  | [] => []
  | b :: r => if b = 10 then [10] :: lines r else match lines r with
    | [] => [[b]]
    | w :: ws => (b :: w) :: ws

theorem lines_app : ∀ {w : List UInt8}, (10 : UInt8) ∉ w → ∀ r, lines (w ++ 10 :: r) = (w ++ [10]) :: lines r
  | [], _, r => by simp [lines]
  | b :: w, h, r => by
    rw [List.mem_cons, not_or] at h
    rw [List.cons_append, lines, if_neg (fun e => h.1 e.symm), lines_app h.2 r]
    rfl
theorem lines_word : ∀ {w : List UInt8}, (10 : UInt8) ∉ w → w ≠ [] → lines w = [w]
  | [], _, h => absurd rfl h
  | [b], h, _ => by
    rw [List.mem_cons, not_or] at h
    rw [lines, if_neg (fun e => h.1 e.symm)]
    rfl
  | b :: c :: w, h, _ => by
    rw [List.mem_cons, not_or] at h
    rw [lines, if_neg (fun e => h.1 e.symm), lines_word h.2 (by simp)]
/-- a text has no end of a line, or a first one. -/
theorem first10 : ∀ s : List UInt8, (10 : UInt8) ∉ s ∨ ∃ w r, (10 : UInt8) ∉ w ∧ s = w ++ 10 :: r
  | [] => .inl (by simp)
  | b :: s => by
    by_cases h : b = 10
    · subst h
      exact .inr ⟨[], s, by simp, rfl⟩
    · rcases first10 s with h1 | ⟨w, r, h1, rfl⟩
      · left
        rw [List.mem_cons, not_or]
        exact ⟨fun e => h e.symm, h1⟩
      · right
        refine ⟨b :: w, r, ?_, rfl⟩
        rw [List.mem_cons, not_or]
        exact ⟨fun e => h e.symm, h1⟩
/-- what lines say, by their ends alone: what is read of a text at each end of a line is what is read of its lines. -/
theorem lines_ind {p : List UInt8 → Prop} (h0 : p []) (h1 : ∀ w, (10 : UInt8) ∉ w → w ≠ [] → p w) (h2 : ∀ w r, (10 : UInt8) ∉ w → p r → p (w ++ 10 :: r)) : ∀ s, p s := by
  intro s
  obtain ⟨n, hn⟩ : ∃ n, s.length = n := ⟨_, rfl⟩
  induction n using Nat.strongRecOn generalizing s with
  | ind n ih =>
    rcases first10 s with h | ⟨w, r, h, rfl⟩
    · by_cases e : s = []
      · subst e; exact h0
      · exact h1 s h e
    · refine h2 w r h (ih r.length ?_ r rfl)
      rw [← hn, List.length_append, List.length_cons]
      omega
theorem lines_sum (s : List UInt8) : (lines s).flatten = s := by
  refine lines_ind (p := fun s => (lines s).flatten = s) rfl (fun w h e => ?_) (fun w r h ih => ?_) s
  · rw [lines_word h e]; simp
  · rw [lines_app h, List.flatten_cons, ih]; simp
theorem lines_len {s x : List UInt8} (h : x ∈ lines s) : x.length ≤ s.length := by
  have h1 := lines_sum s
  obtain ⟨a, b, e⟩ := List.append_of_mem h
  rw [e] at h1
  rw [← h1]
  simp
  omega
theorem lines_ne {s x : List UInt8} : x ∈ lines s → x ≠ [] := by
  refine lines_ind (p := fun s => x ∈ lines s → x ≠ []) (fun h => by simp [lines] at h) (fun w h e hx => ?_) (fun w r h ih hx => ?_) s
  · rw [lines_word h e] at hx
    simp at hx
    subst hx
    exact e
  · rw [lines_app h] at hx
    rcases List.mem_cons.1 hx with rfl | hx
    · simp
    · exact ih hx
end Go.Proofs.YtbomnicnoanjlaaDoor.Tx

namespace Go.Proofs.YtbomnicnoanjlaaDoor.Od
open Tx
set_option linter.unusedVariables false

def bad (o : OrV) : Prop := o.player < 0 ∨ 3 < o.player ∨ o.unit < 0 ∨ 1000000 < o.unit ∨ o.arg < 0 ∨ 1000000 < o.arg ∨ o.what < 0 ∨ 3 < o.what ∨ (o.what = 0 ∧ o.arg ≠ 0)
instance (o : OrV) : Decidable (bad o) := by unfold bad; infer_instance
/-- what is wrong with one. -/
def fault (o : OrV) : Int := if bad o then 1 else 0
theorem fault_bad {o : OrV} (h : bad o) : fault o = 1 := if_pos h
theorem fault_ok {o : OrV} (h : ¬ bad o) : fault o = 0 := if_neg h
/-- what is wrong with some. -/
def faults (l : List OrV) : Int := if 60 < l.length then 4 else if l.any (fun o => decide (bad o)) then 1 else 0

def nStop : List UInt8 := [115, 116, 111, 112]
def nMarch : List UInt8 := [109, 97, 114, 99, 104]
def nGather : List UInt8 := [103, 97, 116, 104, 101, 114]
def nTrain : List UInt8 := [116, 114, 97, 105, 110]
/-- the word for What. -/
def name (n : Int) : List UInt8 := if n = 0 then nStop else if n = 1 then nMarch else if n = 2 then nGather else nTrain
def unname (l : List UInt8) : Option Int := if l = nStop then some 0 else if l = nMarch then some 1 else if l = nGather then some 2 else if l = nTrain then some 3 else none
def words (o : OrV) : List (List UInt8) := dig o.player.toNat :: dig o.unit.toNat :: name o.what :: (if o.what = 0 then [] else [dig o.arg.toNat])
def oline (o : OrV) : List UInt8 := join 32 (words o)
def prt (l : List OrV) : List UInt8 := l.flatMap fun o => oline o ++ [10]

/-- the order of a line's words. -/
def ofWords : List (List UInt8) → Option OrV
  | [a, b, c] => match unname c, whole 7 a, whole 7 b with
    | some n, some x, some y => if n = 0 then some ⟨x, y, 0, 0⟩ else none
    | _, _, _ => none
  | [a, b, c, d] => match unname c, whole 7 a, whole 7 b, whole 7 d with
    | some n, some x, some y, some z => if n = 0 then none else some ⟨x, y, n, z⟩
    | _, _, _, _ => none
  | _ => none
/-- the order of a line: it ends, and has these words. -/
def ofLine (l : List UInt8) : Option OrV := if l.getLast? = some 10 then ofWords (cut 32 l.dropLast) else none
/-- the orders of some lines; else the line, and the fault. -/
def go (acc : List OrV) : List (List UInt8) → (Nat × Int) ⊕ List OrV
  | [] => .inr acc
  | l :: r => match ofLine l with
    | none => .inl (acc.length, 2)
    | some o => if acc.length = 60 then .inl (acc.length, 4) else if fault o = 0 then go (acc ++ [o]) r else .inl (acc.length, fault o)
def parse (s : List UInt8) : (Nat × Int) ⊕ List OrV := go [] (lines s)

theorem unname_name {n : Int} (h0 : 0 ≤ n) (h3 : n ≤ 3) : unname (name n) = some n := by
  rcases (by omega : n = 0 ∨ n = 1 ∨ n = 2 ∨ n = 3) with rfl | rfl | rfl | rfl <;> rfl
theorem name_unname {l : List UInt8} {n : Int} (h : unname l = some n) : name n = l ∧ 0 ≤ n ∧ n ≤ 3 := by
  unfold unname at h
  split at h
  · rename_i e; injection h with h; subst h; exact ⟨e.symm, by decide, by decide⟩
  · split at h
    · rename_i e; injection h with h; subst h; exact ⟨e.symm, by decide, by decide⟩
    · split at h
      · rename_i e; injection h with h; subst h; exact ⟨e.symm, by decide, by decide⟩
      · split at h
        · rename_i e; injection h with h; subst h; exact ⟨e.symm, by decide, by decide⟩
        · cases h
theorem ok_of {o : OrV} (h : ¬ bad o) : 0 ≤ o.player ∧ o.player ≤ 3 ∧ 0 ≤ o.unit ∧ o.unit ≤ 1000000 ∧ 0 ≤ o.arg ∧ o.arg ≤ 1000000 ∧ 0 ≤ o.what ∧ o.what ≤ 3 ∧ (o.what = 0 → o.arg = 0) := by
  unfold bad at h
  omega
theorem name_free (n : Int) (c : UInt8) (h : c.toNat < 97) : c ∉ name n := by
  unfold name
  have : ∀ l : List UInt8, (l.all fun b => decide (97 ≤ b.toNat)) = true → c ∉ l := fun l hl hm => by
    have := List.all_eq_true.1 hl c hm
    simp at this
    omega
  split
  · exact this _ (by decide)
  · split
    · exact this _ (by decide)
    · split
      · exact this _ (by decide)
      · exact this _ (by decide)
theorem words_free (o : OrV) (c : UInt8) (hc : c.toNat < 48) : ∀ w ∈ words o, c ∉ w := by
  intro w hw
  unfold words at hw
  simp only [List.mem_cons] at hw
  rcases hw with rfl | rfl | rfl | hw
  · exact dig_free _ c hc
  · exact dig_free _ c hc
  · exact name_free _ c (by omega)
  · split at hw
    · simp at hw
    · simp at hw
      subst hw
      exact dig_free _ c hc
theorem mem_join {c d : UInt8} : ∀ {ws : List (List UInt8)}, d ∈ join c ws → d = c ∨ ∃ w ∈ ws, d ∈ w
  | [], h => by simp [join] at h
  | [w], h => .inr ⟨w, List.mem_cons_self .., h⟩
  | w :: v :: ws, h => by
    rw [join_cons (by simp), List.mem_append, List.mem_cons] at h
    rcases h with h | h | h
    · exact .inr ⟨w, List.mem_cons_self .., h⟩
    · exact .inl h
    · rcases mem_join h with h | ⟨x, hx, hd⟩
      · exact .inl h
      · exact .inr ⟨x, List.mem_cons_of_mem _ hx, hd⟩
theorem oline_free (o : OrV) : (10 : UInt8) ∉ oline o := by
  intro h
  rcases mem_join h with h | ⟨w, hw, hd⟩
  · revert h; decide
  · exact words_free o 10 (by decide) w hw hd
theorem whole7 {n : Int} (h0 : 0 ≤ n) (h : n ≤ 1000000) : whole 7 (dig n.toNat) = some n.toNat := whole_dig (by decide) (by show n.toNat < 10000000; omega)
theorem ofWords_words {o : OrV} (h : ¬ bad o) : ofWords (words o) = some o := by
  obtain ⟨p, u, n, a⟩ := o
  obtain ⟨h1, h2, h3, h4, h5, h6, h7, h8, h9⟩ := ok_of h
  simp only at *
  have e1 := whole7 h1 (by omega)
  have e2 := whole7 h3 h4
  have e3 := whole7 h5 h6
  have e4 := unname_name h7 h8
  by_cases hn : n = 0
  · subst hn
    have ha := h9 rfl
    subst ha
    show ofWords [dig p.toNat, dig u.toNat, name 0] = _
    simp only [ofWords, e4, e1, e2]
    simp
    omega
  · have : words ⟨p, u, n, a⟩ = [dig p.toNat, dig u.toNat, name n, dig a.toNat] := by
      unfold words
      simp [hn]
    rw [this]
    simp only [ofWords, e4, e1, e2, e3]
    simp [hn]
    omega
theorem words_ofWords {ws : List (List UInt8)} {o : OrV} (h : ofWords ws = some o) : words o = ws := by
  match ws, h with
  | [], h => simp [ofWords] at h
  | [a], h => simp [ofWords] at h
  | [a, b], h => simp [ofWords] at h
  | [a, b, c], h =>
    simp only [ofWords] at h
    cases h1 : unname c with
    | none => rw [h1] at h; simp at h
    | some n =>
      cases h2 : whole 7 a with
      | none => rw [h2] at h; simp at h
      | some x =>
        cases h3 : whole 7 b with
        | none => rw [h3] at h; simp at h
        | some y =>
          rw [h1, h2, h3] at h
          by_cases hn : n = 0
          · subst hn
            simp at h
            subst h
            have e := (name_unname h1).1
            show [dig (x : Int).toNat, dig (y : Int).toNat, name 0] = [a, b, c]
            rw [Int.toNat_natCast, Int.toNat_natCast, dig_whole h2, dig_whole h3, e]
          · simp [hn] at h
  | [a, b, c, d], h =>
    simp only [ofWords] at h
    cases h1 : unname c with
    | none => rw [h1] at h; simp at h
    | some n =>
      cases h2 : whole 7 a with
      | none => rw [h2] at h; simp at h
      | some x =>
        cases h3 : whole 7 b with
        | none => rw [h3] at h; simp at h
        | some y =>
          cases h4 : whole 7 d with
          | none => rw [h4] at h; simp at h
          | some z =>
            rw [h1, h2, h3, h4] at h
            simp only at h
            split at h
            · cases h
            · rename_i hn
              injection h with h
              subst h
              have e := (name_unname h1).1
              unfold words
              simp only [if_neg hn]
              rw [Int.toNat_natCast, Int.toNat_natCast, Int.toNat_natCast, dig_whole h2, dig_whole h3, dig_whole h4, e]
  | a :: b :: c :: d :: e :: r, h => simp [ofWords] at h
theorem ofLine_end (l : List UInt8) : ofLine (l ++ [10]) = ofWords (cut 32 l) := by
  unfold ofLine
  simp
theorem ofLine_open {l : List UInt8} (h : (10 : UInt8) ∉ l) : ofLine l = none := by
  unfold ofLine
  rw [if_neg]
  intro e
  exact h (List.mem_of_getLast? e)
theorem lines_prt : ∀ l : List OrV, lines (prt l) = l.map fun o => oline o ++ [10]
  | [] => rfl
  | o :: l => by
    show lines ((oline o ++ [10]) ++ prt l) = _
    rw [List.append_assoc]
    show lines (oline o ++ 10 :: prt l) = _
    rw [lines_app (oline_free o), lines_prt l]
    rfl
theorem go_lines : ∀ {l acc : List OrV}, (∀ o ∈ l, ¬ bad o) → acc.length + l.length ≤ 60 → go acc (l.map fun o => oline o ++ [10]) = .inr (acc ++ l)
  | [], acc, _, _ => by simp [go]
  | o :: l, acc, h, hn => by
    have ho := h o (List.mem_cons_self ..)
    have e : cut 32 (oline o) = words o := cut_join (by simp [words]) (words_free o 32 (by decide))
    simp only [List.length_cons] at hn
    rw [List.map_cons, go, ofLine_end, e, ofWords_words ho]
    simp only
    rw [if_neg (by omega), if_pos (fault_ok ho), go_lines (fun x hx => h x (List.mem_cons_of_mem _ hx)) (by simp; omega)]
    simp
theorem faults_ok {l : List OrV} (h : faults l = 0) : l.length ≤ 60 ∧ ∀ o ∈ l, ¬ bad o := by
  unfold faults at h
  split at h
  · omega
  · split at h
    · omega
    · rename_i h1 h2
      rw [Bool.not_eq_true, List.any_eq_false] at h2
      exact ⟨by omega, fun o ho => by simpa using h2 o ho⟩
theorem faults_of {l : List OrV} (h : l.length ≤ 60) (hb : ∀ o ∈ l, ¬ bad o) : faults l = 0 := by
  unfold faults
  rw [if_neg (by omega), if_neg]
  rw [Bool.not_eq_true, List.any_eq_false]
  intro o ho
  simpa using hb o ho
/-- what is printed is read as it was. -/
theorem parse_prt {l : List OrV} (h : faults l = 0) : parse (prt l) = .inr l := by
  obtain ⟨h1, h2⟩ := faults_ok h
  unfold parse
  rw [lines_prt, go_lines h2 (by simpa using h1)]
  rfl
theorem go_back : ∀ {ls : List (List UInt8)} {acc l : List OrV}, go acc ls = .inr l → acc.length ≤ 60 → ∃ l', l = acc ++ l' ∧ prt l' = ls.flatten ∧ l.length ≤ 60 ∧ ∀ o ∈ l', ¬ bad o
  | [], acc, l, h, ha => by
    unfold go at h
    injection h with h
    subst h
    exact ⟨[], by simp, rfl, ha, by simp⟩
  | x :: r, acc, l, h, ha => by
    unfold go at h
    split at h
    · cases h
    · rename_i o ho
      split at h
      · cases h
      · rename_i h60
        split at h
        · rename_i h0
          obtain ⟨l', e1, e2, e3, e4⟩ := go_back h (by simp; omega)
          refine ⟨o :: l', by rw [e1]; simp, ?_, e3, ?_⟩
          · show (oline o ++ [10]) ++ prt l' = _
            unfold ofLine at ho
            split at ho
            · rename_i hx
              have hw := words_ofWords ho
              have : oline o = x.dropLast := by unfold oline; rw [hw, join_cut]
              obtain ⟨ys, hy⟩ := List.getLast?_eq_some_iff.1 hx
              rw [List.flatten_cons, e2, this, hy]
              simp
            · cases ho
          · intro y hy
            rcases List.mem_cons.1 hy with rfl | hy
            · intro hb
              rw [fault_bad hb] at h0
              omega
            · exact e4 y hy
        · cases h
/-- what any text is read as is printed as that text. -/
theorem prt_parse {s : List UInt8} {l : List OrV} (h : parse s = .inr l) : prt l = s ∧ faults l = 0 := by
  unfold parse at h
  obtain ⟨l', e1, e2, e3, e4⟩ := go_back h (by simp)
  rw [List.nil_append] at e1
  subst e1
  exact ⟨by rw [e2, lines_sum], faults_of e3 e4⟩

/-- the same, at each end of a line: what the document's way gives. -/
def goCut (acc : List OrV) : List (List UInt8) → (Nat × Int) ⊕ List OrV
  | [] => .inr acc
  | [w] => if w = [] then .inr acc else .inl (acc.length, 2)
  | w :: v :: r => match ofWords (cut 32 w) with
    | none => .inl (acc.length, 2)
    | some o => if acc.length = 60 then .inl (acc.length, 4) else if fault o = 0 then goCut (acc ++ [o]) (v :: r) else .inl (acc.length, fault o)
theorem goCut_go (s : List UInt8) : ∀ acc, goCut acc (cut 10 s) = go acc (lines s) := by
  refine lines_ind (p := fun s => ∀ acc, goCut acc (cut 10 s) = go acc (lines s)) (fun acc => rfl) (fun w h e acc => ?_) (fun w r h ih acc => ?_) s
  · rw [cut_word h, lines_word h e]
    unfold goCut go
    rw [if_neg e, ofLine_open h]
  · rw [cut_app h, lines_app h]
    cases hc : cut 10 r with
    | nil => exact absurd hc (cut_ne 10 r)
    | cons v vs =>
      unfold goCut go
      rw [ofLine_end]
      cases ofWords (cut 32 w) with
      | none => rfl
      | some o =>
        simp only
        rw [← ih, hc]
end Go.Proofs.YtbomnicnoanjlaaDoor.Od

namespace Go.Proofs.YtbomnicnoanjlaaDoor
open Go.RowKit
set_option linter.unusedVariables false

set_option maxHeartbeats 400000 in
theorem owin_any (x b : Int) (w : World) :
    Calls Tryd.prog 40 #[.int .i64 x, .int .i64 b] w fun e w' => e = .returned (.bool (decide (0 ≤ x ∧ x ≤ b))) ∧ w' = w := by
  by_cases h1 : 0 ≤ x
  · by_cases h2 : x ≤ b
    · go_enter Tryd.func40, Tryd.ntmps40
      go_wp2
      go_ret
      exact ⟨by simp [h1, h2], rfl⟩
    · go_enter Tryd.func40, Tryd.ntmps40
      go_wp2
      go_ret
      exact ⟨by simp; omega, rfl⟩
  · go_enter Tryd.func40, Tryd.ntmps40
    go_wp2
    go_ret
    exact ⟨by simp; omega, rfl⟩
theorem owin_is (x b : Int) (r : Bool) (h : decide (0 ≤ x ∧ x ≤ b) = r) : Hid (∀ w, Calls Tryd.prog 40 #[.int .i64 x, .int .i64 b] w fun e w' => e = .returned (.bool r) ∧ w' = w) :=
  fun w => (owin_any x b w).mono fun e w' ⟨h', hw⟩ => ⟨by rw [h', h], hw⟩

def OrdSays (o : OrV) (w : World) (e : Ending) (w' : World) : Prop := ∃ v, e = .returned v ∧ Er v (Od.fault o) ∧ Below w.heap.size w w'
set_option maxRecDepth 100000 in
set_option maxHeartbeats 4000000 in
theorem checkOrder_any (o : OrV) (w : World) : Calls Tryd.prog 31 #[o.val] w (OrdSays o w) := by
  obtain ⟨p, u, n, a⟩ := o
  have BB : Hid (Below w.heap.size w (w.alloc (Obj.cells #[.int .i64 p, .int .i64 u, .int .i64 n, .int .i64 a] 38))) := (Below.refl _ _).alloc (Nat.le_refl _) _
  have bad1 : Od.bad ⟨p, u, n, a⟩ → ∀ w', Hid (Below w.heap.size w w') → OrdSays ⟨p, u, n, a⟩ w (.returned (.iface 52 (.int .i64 1))) w' := fun hb w' hB => ⟨_, rfl, by rw [Od.fault_bad hb]; exact Er.no (by decide), hB⟩
  have B1 : Hid (Od.bad ⟨p, u, n, a⟩ → ∀ w', Hid (Below w.heap.size w w') → OrdSays ⟨p, u, n, a⟩ w (.returned (.iface 52 (.int .i64 1))) w') := bad1
  clear bad1
  unfold OrV.val
  simp only
  by_cases h1 : 0 ≤ p ∧ p ≤ 3
  · have W1 := owin_is p 3 true (decide_eq_true h1)
    by_cases h2 : 0 ≤ u ∧ u ≤ 1000000
    · have W2 := owin_is u 1000000 true (decide_eq_true h2)
      by_cases h3 : 0 ≤ a ∧ a ≤ 1000000
      · have W3 := owin_is a 1000000 true (decide_eq_true h3)
        by_cases h4 : 0 ≤ n ∧ n ≤ 3
        · have W4 := owin_is n 3 true (decide_eq_true h4)
          by_cases h5 : n = 0
          · subst h5
            by_cases h6 : a = 0
            · subst h6
              go_enter Tryd.func31, Tryd.ntmps31
              go_wp2_with fail
              refine (W1.out _).mono ?_
              rintro e w' ⟨rfl, rfl⟩
              go_wp2_with fail
              refine (W2.out _).mono ?_
              rintro e w' ⟨rfl, rfl⟩
              go_wp2_with fail
              refine (W3.out _).mono ?_
              rintro e w' ⟨rfl, rfl⟩
              go_wp2_with fail
              refine (W4.out _).mono ?_
              rintro e w' ⟨rfl, rfl⟩
              go_wp2
              go_ret
              exact ⟨_, rfl, by rw [Od.fault_ok (by unfold Od.bad; simp only; omega)]; exact Er.nil, BB⟩
            · have h6b : (a == 0) = false := beq_eq_false_iff_ne.2 h6
              go_enter Tryd.func31, Tryd.ntmps31
              go_wp2_with fail
              refine (W1.out _).mono ?_
              rintro e w' ⟨rfl, rfl⟩
              go_wp2_with fail
              refine (W2.out _).mono ?_
              rintro e w' ⟨rfl, rfl⟩
              go_wp2_with fail
              refine (W3.out _).mono ?_
              rintro e w' ⟨rfl, rfl⟩
              go_wp2_with fail
              refine (W4.out _).mono ?_
              rintro e w' ⟨rfl, rfl⟩
              go_wp2
              go_ret
              exact B1.out (.inr (.inr (.inr (.inr (.inr (.inr (.inr (.inr ⟨rfl, h6⟩)))))))) _ BB
          · have h5b : (n == 0) = false := beq_eq_false_iff_ne.2 h5
            go_enter Tryd.func31, Tryd.ntmps31
            go_wp2_with fail
            refine (W1.out _).mono ?_
            rintro e w' ⟨rfl, rfl⟩
            go_wp2_with fail
            refine (W2.out _).mono ?_
            rintro e w' ⟨rfl, rfl⟩
            go_wp2_with fail
            refine (W3.out _).mono ?_
            rintro e w' ⟨rfl, rfl⟩
            go_wp2_with fail
            refine (W4.out _).mono ?_
            rintro e w' ⟨rfl, rfl⟩
            go_wp2
            go_ret
            exact ⟨_, rfl, by rw [Od.fault_ok (by unfold Od.bad; simp only; omega)]; exact Er.nil, BB⟩
        · have W4 := owin_is n 3 false (decide_eq_false h4)
          go_enter Tryd.func31, Tryd.ntmps31
          go_wp2_with fail
          refine (W1.out _).mono ?_
          rintro e w' ⟨rfl, rfl⟩
          go_wp2_with fail
          refine (W2.out _).mono ?_
          rintro e w' ⟨rfl, rfl⟩
          go_wp2_with fail
          refine (W3.out _).mono ?_
          rintro e w' ⟨rfl, rfl⟩
          go_wp2_with fail
          refine (W4.out _).mono ?_
          rintro e w' ⟨rfl, rfl⟩
          go_wp2
          go_ret
          exact B1.out (by unfold Od.bad; simp only; omega) _ BB
      · have W3 := owin_is a 1000000 false (decide_eq_false h3)
        go_enter Tryd.func31, Tryd.ntmps31
        go_wp2_with fail
        refine (W1.out _).mono ?_
        rintro e w' ⟨rfl, rfl⟩
        go_wp2_with fail
        refine (W2.out _).mono ?_
        rintro e w' ⟨rfl, rfl⟩
        go_wp2_with fail
        refine (W3.out _).mono ?_
        rintro e w' ⟨rfl, rfl⟩
        go_wp2
        go_ret
        exact B1.out (by unfold Od.bad; simp only; omega) _ BB
    · have W2 := owin_is u 1000000 false (decide_eq_false h2)
      go_enter Tryd.func31, Tryd.ntmps31
      go_wp2_with fail
      refine (W1.out _).mono ?_
      rintro e w' ⟨rfl, rfl⟩
      go_wp2_with fail
      refine (W2.out _).mono ?_
      rintro e w' ⟨rfl, rfl⟩
      go_wp2
      go_ret
      exact B1.out (by unfold Od.bad; simp only; omega) _ BB
  · have W1 := owin_is p 3 false (decide_eq_false h1)
    go_enter Tryd.func31, Tryd.ntmps31
    go_wp2_with fail
    refine (W1.out _).mono ?_
    rintro e w' ⟨rfl, rfl⟩
    go_wp2
    go_ret
    exact B1.out (by unfold Od.bad; simp only; omega) _ BB
end Go.Proofs.YtbomnicnoanjlaaDoor

namespace Go.Proofs.YtbomnicnoanjlaaDoor
open Go.RowKit Go.Proofs.YtbomnicnoanjlaaDoor.So
set_option linter.unusedVariables false

theorem Um.mono {w : World} {b n n' : Nat} {f : Int → Int → Int} (h : Um w b n f) (hn : n ≤ n') : Um w b n' f := by
  obtain ⟨D, h1, h2⟩ := h
  exact ⟨D, h1.mono hn, h2⟩
def OcI (ks : List OrV) (w : World) (j : Value) (W' : World) : Prop := ∃ q : Nat, q ≤ ks.length ∧ j = .int .i64 (q : Nat) ∧ (∀ (i : Nat) o, i < q → ks[i]? = some o → ¬ Od.bad o) ∧ Below w.heap.size w W'
set_option maxRecDepth 100000 in
set_option maxHeartbeats 4000000 in
theorem ocheck_any (v : Value) (ks : List OrV) (w : World) (h : Orl w v ks) :
    Calls Tryd.prog 19 #[v] w fun e w' => ∃ u, e = .returned u ∧ Er u (Od.faults ks) ∧ Below w.heap.size w w' := by
  have K0 : Hid (Orl w v ks) := h
  obtain ⟨R, hR⟩ : ∃ R, Od.faults ks = R := ⟨_, rfl⟩
  have HR : Hid (Od.faults ks = R) := hR
  rw [hR]
  clear hR
  obtain ⟨a, c, rfl, c1, c2, -⟩ := h
  by_cases h8 : 60 < ks.length
  · have E : Hid (R = 4) := by unfold Hid; rw [← HR.out]; unfold Od.faults; rw [if_pos h8]
    have h8' : (60 : Int) < (ks.length : Int) := by omega
    go_enter Tryd.func19, Tryd.ntmps19
    go_wp2
    go_ret
    exact ⟨_, rfl, by rw [E.out]; exact Er.no (by decide), Below.refl _ _⟩
  · have h8' : ¬ (60 : Int) < (ks.length : Int) := by omega
    have LE : Hid (ks.length ≤ 60) := by unfold Hid; omega
    go_enter Tryd.func19, Tryd.ntmps19
    go_wp2_with fail
    go_loopw [12] (fun j W' => OcI ks w j W') (fun j _ => ks.length - (intOf j).toNat)
    case atStart => exact ⟨0, Nat.zero_le _, rfl, fun i o hi => by omega, Below.refl _ _⟩
    case round =>
      obtain ⟨q, hq, rfl, hg, hb⟩ := hrel
      have Gq : Hid (∀ (i : Nat) o, i < q → ks[i]? = some o → ¬ Od.bad o) := hg
      have B : Hid (Below w.heap.size w wr) := hb
      clear hg hb
      by_cases hql : q = ks.length
      · have E : Hid (R = 0) := by
          unfold Hid
          rw [← HR.out]
          refine Od.faults_of LE.out fun o ho => ?_
          obtain ⟨i, hi⟩ := List.mem_iff_getElem?.1 ho
          exact Gq.out i o (by rw [hql]; exact (List.getElem?_eq_some_iff.1 hi).1) hi
        subst hql
        go_wp2
        go_ret
        exact ⟨_, rfl, by rw [E.out]; exact Er.nil, B⟩
      · have hqk : q < ks.length := by omega
        obtain ⟨k, hk⟩ : ∃ k, ks[q]? = some k := ⟨_, List.getElem?_eq_getElem hqk⟩
        have HK : Hid (ks[q]? = some k) := hk
        have K1 := K0.out.below B.out
        have CK : Hid (∀ W : World, Calls Tryd.prog 31 #[k.val] W (OrdSays k W)) := fun W => checkOrder_any k W
        obtain ⟨F, hF⟩ : ∃ F, Od.fault k = F := ⟨_, rfl⟩
        have HF : Hid (Od.fault k = F) := hF
        clear hF
        obtain ⟨a', c', e, -, -, h3⟩ := K1
        injection e with e1 e2 e3
        subst e1 e3
        obtain ⟨x, rfl, hx1, hx⟩ := h3 (by rintro rfl; simp at hqk)
        have Yc := hx q k hk
        clear hx h3 e2 hk
        obtain ⟨q0, q1, q2, q3⟩ := Yc
        unfold OrV.val at CK
        go_upto_region 6 with fail
        have B1 : Hid (Below wr.heap.size wr (wr.alloc (Obj.cells #[.int .i64 k.player, .int .i64 k.unit, .int .i64 k.what, .int .i64 k.arg] 38))) := (Below.refl _ _).alloc (Nat.le_refl _) _
        have X1 := Orc.mk' (w := wr) k rfl
        clear q0 q1 q2 q3
        generalize wr.alloc (Obj.cells #[.int .i64 k.player, .int .i64 k.unit, .int .i64 k.what, .int .i64 k.arg] 38) = w1 at *
        obtain ⟨x0, x1, x2, x3⟩ := X1
        simp only [Nat.zero_add] at x1 x2 x3
        go_wp2_with fail
        refine Calls.mono (CK.out w1) ?_
        rintro e w2 ⟨u, rfl, hu, b2⟩
        rw [HF.out] at hu
        have B3 : Hid (Below w.heap.size w w2) := B.out.trans ((B1.out.trans (b2.mono B1.out.size)).mono B.out.size)
        clear b2 CK x0 x1 x2 x3 B1
        rcases hu with ⟨hF, rfl⟩ | ⟨hF, rfl⟩
        · have G2 : Hid (∀ (i : Nat) o, i < q + 1 → ks[i]? = some o → ¬ Od.bad o) := fun i o hi ho => by
            by_cases e : i = q
            · subst e
              rw [HK.out] at ho
              obtain rfl := Option.some.inj ho
              intro hbad
              have := HF.out
              rw [Od.fault_bad hbad] at this
              omega
            · exact Gq.out i o (by omega) ho
          go_wp2
          go_round
          case rel => exact ⟨q + 1, by omega, by go_num, G2, B3⟩
          case measure => simp [intOf]; omega
        · have E : Hid (R = F ∧ F ≠ 0) := by
            have hbad : Od.bad k := by
              rcases Classical.em (Od.bad k) with h | h
              · exact h
              · exact absurd (HF.out.symm.trans (Od.fault_ok h)) hF
            refine ⟨?_, hF⟩
            rw [← HR.out, ← HF.out, Od.fault_bad hbad]
            unfold Od.faults
            rw [if_neg (by have := LE.out; omega), if_pos (List.any_eq_true.2 ⟨k, List.mem_of_getElem? HK.out, decide_eq_true hbad⟩)]
          clear hF
          go_wp2
          go_ret
          exact ⟨_, rfl, by rw [E.out.1]; exact Er.no E.out.2, B3⟩
set_option maxHeartbeats 1000000 in
theorem unitOf_any (o : OrV) (w : World) : Calls Tryd.prog 42 #[o.val] w fun e w' => e = .returned (.agg #[.int .i64 o.player, .int .i64 o.unit]) ∧ Below w.heap.size w w' := by
  unfold OrV.val
  go_enter Tryd.func42, Tryd.ntmps42
  go_wp2
  refine bodyPost_ret (v := .agg #[.int .i64 o.player, .int .i64 o.unit]) (by simp [results, Tryd.results42, go_sem]) rfl ⟨rfl, ?_⟩
  exact ((Below.refl _ _).alloc (Nat.le_refl _) _).alloc (by simp) _
def LoI (ks : List OrV) (w : World) (j : Value) (W' : World) : Prop := ∃ q : Nat, q ≤ ks.length ∧ j = .int .i64 (q : Nat) ∧ Um W' w.heap.size q (lf ks q) ∧ Below w.heap.size w W'
set_option maxRecDepth 100000 in
set_option maxHeartbeats 4000000 in
theorem lastOnes_any (v : Value) (ks : List OrV) (w : World) (h : Orl w v ks) (hl : ks.length ≤ 60) (hb : ∀ o ∈ ks, ¬ Od.bad o) :
    Calls Tryd.prog 41 #[v] w fun e w' => ∃ b n, e = .returned (.map (some b)) ∧ Um w' b n (lf ks ks.length) ∧ w.heap.size ≤ b ∧ Below w.heap.size w w' := by
  have K0 : Hid (Orl w v ks) := h
  have HB : Hid (∀ o ∈ ks, ¬ Od.bad o) := hb
  have LE : Hid (ks.length ≤ 60) := hl
  obtain ⟨a, c, rfl, c1, c2, -⟩ := h
  have hmm := @run_makeMap Tryd.prog
  clear hb
  go_enter Tryd.func41, Tryd.ntmps41
  go_wp2_with fail
  go_loopw [9] (fun j W' => LoI ks w j W') (fun j _ => ks.length - (intOf j).toNat)
  case atStart => exact ⟨0, Nat.zero_le _, rfl, um_made w, (Below.refl _ _).alloc (Nat.le_refl _) _⟩
  case round =>
    obtain ⟨q, hq, rfl, hg, hb⟩ := hrel
    have Gq : Hid (Um wr w.heap.size q (lf ks q)) := hg
    have B : Hid (Below w.heap.size w wr) := hb
    clear hg hb
    by_cases hql : q = ks.length
    · subst hql
      go_wp2
      go_ret
      exact ⟨_, _, rfl, Gq, Nat.le_refl _, B⟩
    · have hqk : q < ks.length := by omega
      obtain ⟨k, hk⟩ : ∃ k, ks[q]? = some k := ⟨_, List.getElem?_eq_getElem hqk⟩
      have HK : Hid (ks[q]? = some k) := hk
      have OK := Od.ok_of (HB.out k (List.mem_of_getElem? hk))
      have WF : Hid ((Lit.int .i64 k.player).wf = true ∧ (Lit.int .i64 k.unit).wf = true ∧ (Lit.int .i64 ((q : Nat) : Int)).wf = true) := ⟨wf64 (by omega) (by omega), wf64 (by omega) (by omega), wf64 (by omega) (by omega)⟩
      have K1 := K0.out.below B.out
      obtain ⟨a', c', e, -, -, h3⟩ := K1
      injection e with e1 e2 e3
      subst e1 e3
      obtain ⟨x, rfl, hx1, hx⟩ := h3 (by rintro rfl; simp at hqk)
      have Yc := hx q k hk
      clear hx h3 e2 hk OK
      obtain ⟨q0, q1, q2, q3⟩ := Yc
      go_upto_region 5 with fail
      have B1 : Hid (Below wr.heap.size wr (wr.alloc (Obj.cells #[.int .i64 k.player, .int .i64 k.unit, .int .i64 k.what, .int .i64 k.arg] 38))) := (Below.refl _ _).alloc (Nat.le_refl _) _
      have X1 := Orc.mk' (w := wr) k rfl
      clear q0 q1 q2 q3
      generalize wr.alloc (Obj.cells #[.int .i64 k.player, .int .i64 k.unit, .int .i64 k.what, .int .i64 k.arg] 38) = w1 at *
      have G1 : Hid (Um w1 w.heap.size q (lf ks q)) := Gq.out.below B1.out
      have B2 : Hid (Below w.heap.size w w1) := B.out.trans (B1.out.mono B.out.size)
      obtain ⟨x0, x1, x2, x3⟩ := X1
      simp only [Nat.zero_add] at x1 x2 x3
      by_cases h3 : k.what = 3
      · have NX : Hid (Um w1 w.heap.size (q + 1) (lf ks (q + 1))) := by unfold Hid; rw [lf_train HK.out h3]; exact G1.out.mono (by omega)
        go_wp2
        go_round
        case rel => exact ⟨q + 1, by omega, by go_num, NX, B2⟩
        case measure => simp [intOf]; omega
      · have h3b : (k.what == 3) = false := beq_eq_false_iff_ne.2 h3
        go_wp2_with fail
        refine Calls.mono (unitOf_any k w1) ?_
        rintro e w2 ⟨rfl, b2⟩
        have B3 : Hid (Below w.heap.size w w2) := B2.out.trans (b2.mono B2.out.size)
        have G2 : Hid (Um w2 w.heap.size q (lf ks q)) := G1.out.below b2
        obtain ⟨w3, r3, o3, g3⟩ := G2.out.put (by have := LE.out; unfold maxLen; omega) WF.out.1 WF.out.2.1 WF.out.2.2
        have NX : Hid (Um w3 w.heap.size (q + 1) (lf ks (q + 1))) := by unfold Hid; rw [lf_other HK.out h3]; exact o3
        have B4 : Hid (Below w.heap.size w w3) := B3.out.grown g3 B3.out.size (fun k hk => by cases hk; exact Nat.le_refl _)
        clear b2 o3 g3 x0 x1 x2 x3
        go_wp2
        go_round
        case rel => exact ⟨q + 1, by omega, by go_num, NX, B4⟩
        case measure => simp [intOf]; omega
end Go.Proofs.YtbomnicnoanjlaaDoor

namespace Go.Proofs.YtbomnicnoanjlaaDoor
open Go.RowKit
set_option linter.unusedVariables false

/-- block g has these orders, and more behind them. -/
def Rb (w : World) (g : Nat) (ks : List OrV) (rest : List Value) : Prop := w.heap[g]? = some (.cells (ks.flatMap OrV.cs ++ rest).toArray 38 (0, 0))
theorem Rb.lt {w : World} {g : Nat} {ks : List OrV} {rest : List Value} (h : Rb w g ks rest) : g < w.heap.size := lt_of_block h
theorem Rb.thaw {w : World} {g : Nat} {ks : List OrV} {rest : List Value} (h : Rb w g ks rest) (i : Nat) : w.frozen? ⟨g, i, none⟩ = false := by
  unfold Rb at h
  simp [World.frozen?, h]
theorem Rb.below {w w' : World} {g B : Nat} {ks : List OrV} {rest : List Value} (h : Rb w g ks rest) (hb : Below B w w') (hB : g < B) : Rb w' g ks rest := by
  unfold Rb at *
  rw [hb.block g hB]; exact h
theorem oflat_len (ks : List OrV) : (ks.flatMap OrV.cs).length = ks.length * 4 := by
  induction ks with
  | nil => rfl
  | cons k ks ih =>
    rw [List.flatMap_cons, List.length_append, ih, List.length_cons]
    simp [OrV.cs]
    omega
theorem Rb.at_ {w : World} {g : Nat} {ks : List OrV} {rest : List Value} (h : Rb w g ks rest) {i : Nat} {o : OrV} (ho : ks[i]? = some o) {j : Nat} (hj : j < 4) : w.cell? ⟨g, i * 4 + j, none⟩ = o.cs[j]? := by
  unfold Rb at h
  have hi : i < ks.length := (List.getElem?_eq_some_iff.1 ho).1
  simp only [World.cell?, h]
  have e : (ks.flatMap OrV.cs ++ rest).toArray[i * 4 + j]? = o.cs[j]? := by
    rw [List.getElem?_toArray, List.getElem?_append_left (by rw [oflat_len]; omega), flat_or ks i j o ho hj]
  simp only [e]
  simp
theorem Rb.cells {w : World} {g : Nat} {ks : List OrV} {rest : List Value} (h : Rb w g ks rest) {i : Nat} {o : OrV} (ho : ks[i]? = some o) :
    w.cell? ⟨g, i * 4, none⟩ = some (.int .i64 o.player) ∧ w.cell? ⟨g, i * 4 + 1, none⟩ = some (.int .i64 o.unit) ∧ w.cell? ⟨g, i * 4 + 2, none⟩ = some (.int .i64 o.what) ∧ w.cell? ⟨g, i * 4 + 3, none⟩ = some (.int .i64 o.arg) :=
  ⟨h.at_ ho (j := 0) (by decide), h.at_ ho (j := 1) (by decide), h.at_ ho (j := 2) (by decide), h.at_ ho (j := 3) (by decide)⟩
theorem oflat_set : ∀ (ks : List OrV) (i : Nat) (o : OrV) (rest : List Value), i < ks.length →
    (ks.set i o).flatMap OrV.cs ++ rest = ((((ks.flatMap OrV.cs ++ rest).set (i * 4) (.int .i64 o.player)).set (i * 4 + 1) (.int .i64 o.unit)).set (i * 4 + 2) (.int .i64 o.what)).set (i * 4 + 3) (.int .i64 o.arg)
  | [], i, o, rest, h => by simp at h
  | k :: ks, 0, o, rest, _ => by
    simp [OrV.cs]
  | k :: ks, i + 1, o, rest, h => by
    have ih := oflat_set ks i o rest (by simpa using h)
    rw [show (i + 1) * 4 = i * 4 + 4 by omega, show i * 4 + 4 + 1 = i * 4 + 1 + 4 by omega, show i * 4 + 4 + 2 = i * 4 + 2 + 4 by omega, show i * 4 + 4 + 3 = i * 4 + 3 + 4 by omega, List.set_cons_succ, List.flatMap_cons, List.append_assoc, ih, List.flatMap_cons]
    simp [OrV.cs]
theorem Rb.put {w : World} {g : Nat} {ks : List OrV} {rest : List Value} (h : Rb w g ks rest) {i : Nat} (hi : i < ks.length) (o : OrV) :
    Rb ((((w.setCell ⟨g, i * 4, none⟩ (.int .i64 o.player)).setCell ⟨g, i * 4 + 1, none⟩ (.int .i64 o.unit)).setCell ⟨g, i * 4 + 2, none⟩ (.int .i64 o.what)).setCell ⟨g, i * 4 + 3, none⟩ (.int .i64 o.arg)) g (ks.set i o) rest := by
  unfold Rb at *
  have h1 := heap_setCell_same w g (i * 4) _ _ (.int .i64 o.player) h
  have h2 := heap_setCell_same _ g (i * 4 + 1) _ _ (.int .i64 o.unit) h1
  have h3 := heap_setCell_same _ g (i * 4 + 2) _ _ (.int .i64 o.what) h2
  have h4 := heap_setCell_same _ g (i * 4 + 3) _ _ (.int .i64 o.arg) h3
  rw [h4, oflat_set ks i o rest hi]
  simp
theorem rb_below {B g : Nat} {w W : World} {i : Nat} (o : OrV) (h : Below B w W) (hb : B ≤ g) :
    Below B w ((((W.setCell ⟨g, i * 4, none⟩ (.int .i64 o.player)).setCell ⟨g, i * 4 + 1, none⟩ (.int .i64 o.unit)).setCell ⟨g, i * 4 + 2, none⟩ (.int .i64 o.what)).setCell ⟨g, i * 4 + 3, none⟩ (.int .i64 o.arg)) :=
  (((h.setCell (p := ⟨g, i * 4, none⟩) hb _).setCell (p := ⟨g, i * 4 + 1, none⟩) hb _).setCell (p := ⟨g, i * 4 + 2, none⟩) hb _).setCell (p := ⟨g, i * 4 + 3, none⟩) hb _
end Go.Proofs.YtbomnicnoanjlaaDoor

namespace Go.Proofs.YtbomnicnoanjlaaDoor
open Go Go.RowKit
set_option linter.unusedVariables false

section
variable {P : Program} {ops : Array Oper} {md : Region.Mode} {C : World → Prop}

/-- the operation gives v, in each of the worlds C, and leaves one of them. -/
def YieldsC (P : Program) (ops : Array Oper) (C : World → Prop) (o : Oper) (v : Value) (a : Act) : Prop :=
  (Region.wanted o (yielded ops a.tmps) = true ∧ ∀ W, C W → ((execOp a.eval o).run P W = .ok (.value v) W ∨ ((execOp a.eval o).run P W = .ok .skip W ∧ v = undef) ∨
    ∃ f args, (execOp a.eval o).run P W = .ok (.enter f args) W ∧ Calls P f args W (fun e w' => e = .returned v ∧ C w'))) ∨
  (Region.wanted o (yielded ops a.tmps) = false ∧ v = undef)
def stC (P : Program) (ops : Array Oper) (C : World → Prop) (i : Nat) (K : Act → Prop) (a : Act) : Prop :=
  match ops[i]? with
  | none => K a
  | some o => ∃ v, YieldsC P ops C o v a ∧ K (a.put o.dst v)
theorem stC_mono {i : Nat} {a : Act} {K K' : Act → Prop} (h : ∀ a, K a → K' a) (hh : stC P ops C i K a) : stC P ops C i K' a := by
  unfold stC at *
  split
  · rename_i ho
    simp only [ho] at hh
    exact h _ hh
  · rename_i o ho
    simp only [ho] at hh
    obtain ⟨v, h1, h2⟩ := hh
    exact ⟨v, h1, h _ h2⟩
theorem YieldsC.of_same {o : Oper} {v : Value} {a a' : Act} (hy : YieldsC P ops C o v a) (he : execOp a'.eval o = execOp a.eval o)
    (hw : Region.wanted o (yielded ops a'.tmps) = Region.wanted o (yielded ops a.tmps)) : YieldsC P ops C o v a' := by
  unfold YieldsC at *
  rw [he, hw]
  exact hy
theorem stC_put {j : Nat} {oi oj : Oper} {v : Value} (hj : ops[j]? = some oj) (hap : oi.apart ops oj = true)
    (hsi : ∀ cs b, oi.op ≠ .select cs b) (hsj : ∀ cs b, oj.op ≠ .select cs b) {K : Act → Prop} {a : Act}
    (hy : YieldsC P ops C oi v a) (h : stC P ops C j K (a.put oi.dst v)) :
    stC P ops C j (fun a' => YieldsC P ops C oi v a' ∧ K (a'.put oi.dst v)) a := by
  obtain ⟨h1, h2, h3⟩ := Oper.apart_spec hap
  unfold stC at *
  simp only [hj] at *
  obtain ⟨u, hu, hk⟩ := h
  refine ⟨u, hu.of_same (execOp_put oj hsj a oi.dst v h1).symm (wanted_put oj a oi.dst v h1).symm, hy.of_same (execOp_put oi hsi a oj.dst u h3) (wanted_put oi a oj.dst u h3), ?_⟩
  rw [← Act.put_comm a v u h2]
  exact hk
theorem wpOp_of_stC {i : Nat} {a : Act} {W : World} {K : Act → Prop} {K' : Act → World → Prop} {Q' : Exit → Act → World → Prop} (h : ∀ a W, K a → C W → K' a W) (hh : stC P ops C i K a) (hW : C W) : wpOp P ops Q' i K' a W := by
  unfold stC at hh
  unfold wpOp
  split
  · rename_i ho
    simp only [ho] at hh
    exact h _ _ hh hW
  · rename_i o ho
    simp only [ho] at hh
    obtain ⟨v, hy, hk⟩ := hh
    rcases hy with ⟨hw, hr⟩ | ⟨hw, rfl⟩
    · simp only [hw, if_true]
      refine .inl ?_
      unfold Oper.wp
      rcases hr W hW with e | ⟨e, rfl⟩ | ⟨f, args, e, hc⟩
      · rw [e]
        exact h _ _ hk hW
      · rw [e]
        exact h _ _ hk hW
      · rw [e]
        exact hc.mono fun e w' ⟨he, hw'⟩ => by subst he; exact h _ _ hk hw'
    · simp only [hw]
      exact h _ _ hk hW
def wpAnyC (P : Program) (md : Region.Mode) (ops : Array Oper) (C : World → Prop) (n : Nat) (L : Array Bool → Act → Prop) : Nat → Array Bool → Act → Prop
  | 0, listed, a => L listed a
  | f + 1, listed, a =>
    Region.ready md ops listed ≠ [] ∧ ∀ i ∈ Region.ready md ops listed, i < n ∧ stC P ops C i (wpAnyC P md ops C n L f (listed.setIfInBounds i true)) a
theorem wpAny_of_headC {n g : Nat} {L : Array Bool → Act → Prop} {Q' : Exit → Act → World → Prop} (hL : ∀ listed a W, L listed a → C W → wpAny P md ops Q' g listed a W) :
    ∀ (f : Nat) (listed : Array Bool) (a : Act) (W : World), wpAnyC P md ops C n L f listed a → C W → wpAny P md ops Q' (f + g) listed a W
  | 0, listed, a, W, h, hW => by rw [Nat.zero_add]; exact hL _ _ _ h hW
  | f + 1, listed, a, W, h, hW => by
    rw [show f + 1 + g = (f + g) + 1 by omega]
    exact ⟨fun h0 => absurd h0 h.1, fun i hi => wpOp_of_stC (fun a' W' h' hW' => wpAny_of_headC hL f _ a' W' h' hW') (h.2 i hi).2 hW⟩
theorem wpAnyC_first {n i : Nat} {oi : Oper} {v : Value} {L : Array Bool → Act → Prop} (hi : ops[i]? = some oi) (hsel : ∀ (j : Nat) (o : Oper) cs b, ops[j]? = some o → o.op ≠ .select cs b)
    (hs : Region.sinkB md ops n = true) (hc : Region.chainB md ops n = true) (hn : n < ops.size) (hin : i < n)
    (hdone : ∀ listed a, L listed a → ∀ j ∈ Region.ready md ops listed, n ≤ j) :
    ∀ (f : Nat) (listed : Array Bool) (a : Act), HeadInv md ops n listed →
      (∀ j oj, ops[j]? = some oj → j ≠ i → listed.getD j true = false → (∀ e ∈ oj.after, Region.binds md e = true → e.on ≠ i) → oi.apart ops oj = true) →
      i ∈ Region.ready md ops listed → YieldsC P ops C oi v a →
      wpAnyC P md ops C n L f (listed.setIfInBounds i true) (a.put oi.dst v) → wpAnyC P md ops C n L (f + 1) listed a := by
  have hit : ∀ {K : Act → Prop} {a : Act}, YieldsC P ops C oi v a → K (a.put oi.dst v) → stC P ops C i K a := fun hy hk => by
    unfold stC
    simp only [hi]
    exact ⟨v, hy, hk⟩
  intro f
  induction f with
  | zero =>
    intro listed a inv _ hr hy H
    have hun := (mem_ready.1 hr).1
    refine ⟨fun h => (by rw [h] at hr; cases hr), fun j hj => ?_⟩
    have hjn : j < n := by
      rcases Nat.lt_or_ge j n with h | h
      · exact h
      · exact absurd hj (tail_waits hs hc hn inv _ i rfl hin hun j h)
    refine ⟨hjn, ?_⟩
    by_cases hji : j = i
    · subst hji; exact hit hy H
    · have := hdone _ _ H j (ready_mono hj hji)
      omega
  | succ f ih =>
    intro listed a inv hfree hr hy H
    have hun := (mem_ready.1 hr).1
    refine ⟨fun h => (by rw [h] at hr; cases hr), fun j hj => ?_⟩
    have hjn : j < n := by
      rcases Nat.lt_or_ge j n with h | h
      · exact h
      · exact absurd hj (tail_waits hs hc hn inv _ i rfl hin hun j h)
    refine ⟨hjn, ?_⟩
    by_cases hji : j = i
    · subst hji; exact hit hy H
    · have h1 := (H.2 j (ready_mono hj hji)).2
      obtain ⟨hjun, oj, hoj, hall⟩ := mem_ready.1 hj
      have hnot : ∀ e ∈ oj.after, Region.binds md e = true → e.on ≠ i := fun e he hb heq => by
        have h1 := hall e he hb
        rw [heq, getD_both hun] at h1
        cases h1
      have h2 := stC_put hoj (hfree j oj hoj hji hjun hnot) (fun cs b => hsel i oi cs b hi) (fun cs b => hsel j oj cs b hoj) hy h1
      have hfree' : ∀ k ok, ops[k]? = some ok → k ≠ i → (listed.setIfInBounds j true).getD k true = false →
          (∀ e ∈ ok.after, Region.binds md e = true → e.on ≠ i) → oi.apart ops ok = true := fun k ok hk hki hun hno => by
        refine hfree k ok hk hki ?_ hno
        by_cases hjk : j = k
        · subst hjk; exact hjun
        · rw [getD_set_ne true hjk] at hun; exact hun
      refine stC_mono (fun a' h3 => ih (listed.setIfInBounds j true) a' (inv.set hj hjn) hfree' (ready_mono hr (Ne.symm hji)) h3.1 ?_) h2
      rw [Array.setIfInBounds_comm _ _ hji]
      exact h3.2
/-- the head, in the text's order. -/
def wpHead (P : Program) (ops : Array Oper) (C : World → Prop) (Q : Act → Prop) : List Oper → Act → Prop
  | [], a => Q a
  | o :: rest, a => ∃ v, YieldsC P ops C o v a ∧ wpHead P ops C Q rest (a.put o.dst v)
theorem wpAnyC_lex {n g : Nat} {Lq : Act → Prop} (hsel : Region.noSelect ops = true) (hs : Region.sinkB md ops n = true) (hc : Region.chainB md ops n = true) (hn : n < ops.size) :
    ∀ (l : List Oper) (k : Nat) (listed : Array Bool) (a : Act), (∀ j, j < l.length → l[j]? = ops[k + j]?) → k + l.length = n → HeadInv md ops n listed →
    Region.lexHead md ops g l.length k listed = true → wpHead P ops C Lq l a →
    wpAnyC P md ops C n (fun listed' a' => Region.seqB md ops g n listed' = true ∧ Lq a') l.length listed a
  | [], k, listed, a, _, hk, _, hB, h => by
    have : k = n := by simpa using hk
    subst this
    exact ⟨by simpa [Region.lexHead] using hB, h⟩
  | o :: l, k, listed, a, hl, hk, inv, hB, h => by
    have h0 : ops[k]? = some o := by simpa using (hl 0 (by simp)).symm
    simp only [List.length_cons, Region.lexHead, Bool.and_eq_true] at hB
    obtain ⟨⟨hr, hf⟩, hB'⟩ := hB
    have hkn : k < n := by simp only [List.length_cons] at hk; omega
    have hr' : k ∈ Region.ready md ops listed := by simpa using hr
    obtain ⟨v, hy, hK⟩ := h
    exact wpAnyC_first h0 (Region.noSelect_spec hsel) hs hc hn hkn (fun listed' a' hL => seqB_ready hL.1) l.length listed a inv (Region.free_spec h0 hf) hr' hy
      (wpAnyC_lex hsel hs hc hn l (k + 1) _ _ (fun j hj => by have := hl (j + 1) (by simp; omega); simpa [Nat.add_assoc, Nat.add_comm 1 j] using this) (by simp only [List.length_cons] at hk; omega) (inv.set hr' hkn) hB' hK)
/-- the region: its head in the text's order, in each of the worlds C; its tail behind it. -/
theorem wp_region_class {id : Nat} {Q : Exit → Act → World → Prop} {a : Act} {w : World} {l : List Oper} (n : Nat) (C : World → Prop) (hm : P.follows .mixedOrders = true) (hB : Region.lexTailB .any l.toArray n = true)
    (hC : C { w with drawn := w.drawn + 1 }) (h : wpHead P l.toArray C (fun a' => ∀ W, C W → wpList P l.toArray Q (l.drop n) a' W) (l.take n) a) : (Code.region id l.toArray true).wp P Q a w := by
  simp only [Region.lexTailB, Bool.and_eq_true, decide_eq_true_eq] at hB
  obtain ⟨⟨⟨⟨hsel, hn⟩, hs⟩, hc⟩, hlex⟩ := hB
  have hn' : n < l.length := by simpa using hn
  have htl : (l.take n).length = n := by simp; omega
  have hdl : (l.drop n).length = l.toArray.size - n := by simp
  have inv0 : HeadInv .any l.toArray n (Array.replicate l.toArray.size false) :=
    ⟨by simp, fun j oj _ hl => (by rw [getD_replicate_false] at hl; cases hl), fun t _ ht => getD_in (by simpa using ht) (getD_replicate_false _ _)⟩
  have H := wpAnyC_lex (md := .any) (g := l.toArray.size - n) hsel hs hc hn (l.take n) 0 _ a (fun j hj => by
    have hj' : j < n := by rw [htl] at hj; exact hj
    simp [hj']) (by simpa using htl) inv0 (by rw [htl]; exact hlex) h
  refine wp_region_any hm ?_
  have := wpAny_of_headC (Q' := Q) (g := l.toArray.size - n) (fun listed a' W hL hW => by
    have := wpAny_of_seq (md := .any) (Q' := Q) (l.drop n) n listed a' W (fun j => by simp [List.getElem?_drop]) (by rw [hdl]; exact hL.1) (hL.2 W hW)
    rwa [hdl] at this) _ _ _ _ H hC
  rw [htl, show n + (l.toArray.size - n) = l.toArray.size by omega] at this
  exact this
end
theorem head_step {P : Program} {ops : Array Oper} {C : World → Prop} {Q : Act → Prop} {o : Oper} {rest : List Oper} {a : Act} (v : Value) (hw : Region.wanted o (yielded ops a.tmps) = true) (hr : ∀ W, C W → (execOp a.eval o).run P W = .ok (.value v) W) (h : wpHead P ops C Q rest (a.put o.dst v)) : wpHead P ops C Q (o :: rest) a :=
  ⟨v, .inl ⟨hw, fun W hW => .inl (hr W hW)⟩, h⟩
theorem head_call {P : Program} {ops : Array Oper} {C : World → Prop} {Q : Act → Prop} {o : Oper} {rest : List Oper} {a : Act} (v : Value) (f : FuncId) (args : Array Value) (hw : Region.wanted o (yielded ops a.tmps) = true) (hr : ∀ W, C W → (execOp a.eval o).run P W = .ok (.enter f args) W)
    (hc : ∀ W, C W → Calls P f args W (fun e w' => e = .returned v ∧ C w')) (h : wpHead P ops C Q rest (a.put o.dst v)) : wpHead P ops C Q (o :: rest) a :=
  ⟨v, .inl ⟨hw, fun W hW => .inr (.inr ⟨f, args, hr W hW, hc W hW⟩)⟩, h⟩

end Go.Proofs.YtbomnicnoanjlaaDoor

namespace Go.Proofs.YtbomnicnoanjlaaDoor
open Go.RowKit
set_option linter.unusedVariables false

set_option maxRecDepth 100000 in
set_option maxHeartbeats 4000000 in
theorem compare_any (a b : OrV) (w : World) : Calls Tryd.prog 44 #[a.val, b.val] w fun e w' => e = .returned (.int .i64 (cmpo a b)) ∧ Below w.heap.size w w' := by
  obtain ⟨p, u, n, x⟩ := a
  obtain ⟨p', u', n', x'⟩ := b
  have ba := (Below.refl w.heap.size w).alloc (Nat.le_refl _) (Obj.cells #[.int .i64 p, .int .i64 u, .int .i64 n, .int .i64 x] 38)
  have B0 : Hid (Below w.heap.size w ((w.alloc (Obj.cells #[.int .i64 p, .int .i64 u, .int .i64 n, .int .i64 x] 38)).alloc (Obj.cells #[.int .i64 p', .int .i64 u', .int .i64 n', .int .i64 x'] 38))) := ba.alloc (by simp) _
  have Oa : Hid (Orc ((w.alloc (Obj.cells #[.int .i64 p, .int .i64 u, .int .i64 n, .int .i64 x] 38)).alloc (Obj.cells #[.int .i64 p', .int .i64 u', .int .i64 n', .int .i64 x'] 38)) ⟨w.heap.size, 0, none⟩ ⟨p, u, n, x⟩) := (Orc.mk' (w := w) ⟨p, u, n, x⟩ rfl).below ((Below.refl _ _).alloc (Nat.le_refl _) _) (by simp)
  have Ob : Hid (Orc ((w.alloc (Obj.cells #[.int .i64 p, .int .i64 u, .int .i64 n, .int .i64 x] 38)).alloc (Obj.cells #[.int .i64 p', .int .i64 u', .int .i64 n', .int .i64 x'] 38)) ⟨w.heap.size + 1, 0, none⟩ ⟨p', u', n', x'⟩) := Orc.mk' ⟨p', u', n', x'⟩ (by simp)
  clear ba
  unfold OrV.val
  simp only
  go_enter Tryd.func44, Tryd.ntmps44
  go_upto_region 1 with fail
  generalize ((w.alloc (Obj.cells #[.int .i64 p, .int .i64 u, .int .i64 n, .int .i64 x] 38)).alloc (Obj.cells #[.int .i64 p', .int .i64 u', .int .i64 n', .int .i64 x'] 38)) = w2 at *
  have FC : Hid (∀ W, Below w2.heap.size w2 W → W.cell? ⟨w.heap.size, 0, none⟩ = some (.int .i64 p) ∧ W.cell? ⟨w.heap.size, 1, none⟩ = some (.int .i64 u) ∧ W.cell? ⟨w.heap.size, 2, none⟩ = some (.int .i64 n) ∧ W.cell? ⟨w.heap.size, 3, none⟩ = some (.int .i64 x) ∧ W.cell? ⟨w.heap.size + 1, 0, none⟩ = some (.int .i64 p') ∧ W.cell? ⟨w.heap.size + 1, 1, none⟩ = some (.int .i64 u') ∧ W.cell? ⟨w.heap.size + 1, 2, none⟩ = some (.int .i64 n') ∧ W.cell? ⟨w.heap.size + 1, 3, none⟩ = some (.int .i64 x')) := fun W hW => by
    have a := Oa.out.below hW Oa.out.lt
    have b := Ob.out.below hW Ob.out.lt
    obtain ⟨a0, a1, a2, a3⟩ := a
    obtain ⟨b0, b1, b2, b3⟩ := b
    simp only [Nat.zero_add] at a0 a1 a2 a3 b0 b1 b2 b3
    exact ⟨a0, a1, a2, a3, b0, b1, b2, b3⟩
  have CI : Hid (∀ (i j : Int) W, Below w2.heap.size w2 W → Calls Tryd.prog 50 #[.int .i64 i, .int .i64 j] W fun e w' => e = .returned (.int .i64 (sgn i j)) ∧ Below w2.heap.size w2 w') := fun i j W hW => (cmpint_any i j W).mono fun e w' ⟨h1, h2⟩ => ⟨h1, by rw [h2]; exact hW⟩
  have CR : Hid (∀ (o : OrV) W, Below w2.heap.size w2 W → Calls Tryd.prog 51 #[.agg #[.int .i64 o.player, .int .i64 o.unit, .int .i64 o.what, .int .i64 o.arg]] W fun e w' => e = .returned (.int .i64 (rnk o)) ∧ Below w2.heap.size w2 w') := fun o W hW => (rank_any o W).mono fun e w' ⟨h1, h2⟩ => ⟨h1, hW.trans (h2.mono hW.size)⟩
  refine wp_region_class 15 (fun W => Below w2.heap.size w2 W) (by kernel_rfl) (by kernel_rfl) (Below.refl _ _).drew ?_
  simp only [List.take_succ_cons, List.take_zero, List.drop_succ_cons, List.drop_zero]
  refine head_step (.pointer (some ⟨w.heap.size, 0, none⟩)) (by go_simp) (fun W hW => by go_simp) ?_
  go_simp
  refine head_step (.int .i64 p) (by go_simp) (fun W hW => by obtain ⟨a0, -, -, -, -, -, -, -⟩ := FC.out W hW; go_simp) ?_
  go_simp
  refine head_step (.pointer (some ⟨w.heap.size + 1, 0, none⟩)) (by go_simp) (fun W hW => by go_simp) ?_
  go_simp
  refine head_step (.int .i64 p') (by go_simp) (fun W hW => by obtain ⟨-, -, -, -, b0, -, -, -⟩ := FC.out W hW; go_simp) ?_
  go_simp
  refine head_call (Value.int .i64 (sgn p p')) 50 #[.int .i64 p, .int .i64 p'] (by go_simp) (fun W hW => by go_simp) (fun W hW => CI.out p p' W hW) ?_
  go_simp
  refine head_step (.pointer (some ⟨w.heap.size, 1, none⟩)) (by go_simp) (fun W hW => by go_simp) ?_
  go_simp
  refine head_step (.int .i64 u) (by go_simp) (fun W hW => by obtain ⟨-, a1, -, -, -, -, -, -⟩ := FC.out W hW; go_simp) ?_
  go_simp
  refine head_step (.pointer (some ⟨w.heap.size + 1, 1, none⟩)) (by go_simp) (fun W hW => by go_simp) ?_
  go_simp
  refine head_step (.int .i64 u') (by go_simp) (fun W hW => by obtain ⟨-, -, -, -, -, b1, -, -⟩ := FC.out W hW; go_simp) ?_
  go_simp
  refine head_call (Value.int .i64 (sgn u u')) 50 #[.int .i64 u, .int .i64 u'] (by go_simp) (fun W hW => by go_simp) (fun W hW => CI.out u u' W hW) ?_
  go_simp
  refine head_step (.agg #[.int .i64 p, .int .i64 u, .int .i64 n, .int .i64 x]) (by go_simp) (fun W hW => by obtain ⟨a0, a1, a2, a3, -, -, -, -⟩ := FC.out W hW; go_simp) ?_
  go_simp
  refine head_call (Value.int .i64 (rnk ⟨p, u, n, x⟩)) 51 #[.agg #[.int .i64 p, .int .i64 u, .int .i64 n, .int .i64 x]] (by go_simp) (fun W hW => by go_simp) (fun W hW => CR.out ⟨p, u, n, x⟩ W hW) ?_
  go_simp
  refine head_step (Value.agg #[.int .i64 p', .int .i64 u', .int .i64 n', .int .i64 x']) (by go_simp) (fun W hW => by obtain ⟨-, -, -, -, b0, b1, b2, b3⟩ := FC.out W hW; go_simp) ?_
  go_simp
  refine head_call (Value.int .i64 (rnk ⟨p', u', n', x'⟩)) 51 #[Value.agg #[.int .i64 p', .int .i64 u', .int .i64 n', .int .i64 x']] (by go_simp) (fun W hW => by go_simp) (fun W hW => CR.out ⟨p', u', n', x'⟩ W hW) ?_
  go_simp
  refine head_call (Value.int .i64 (sgn (rnk ⟨p, u, n, x⟩) (rnk ⟨p', u', n', x'⟩))) 50 #[Value.int .i64 (rnk ⟨p, u, n, x⟩), .int .i64 (rnk ⟨p', u', n', x'⟩)] (by go_simp) (fun W hW => by go_simp) (fun W hW => CI.out _ _ W hW) ?_
  go_simp
  intro W hW
  obtain ⟨s1, hs1⟩ : ∃ s, sgn p p' = s := ⟨_, rfl⟩
  obtain ⟨s2, hs2⟩ : ∃ s, sgn u u' = s := ⟨_, rfl⟩
  obtain ⟨s3, hs3⟩ : ∃ s, sgn (rnk ⟨p, u, n, x⟩) (rnk ⟨p', u', n', x'⟩) = s := ⟨_, rfl⟩
  have HC : Hid (cmpo ⟨p, u, n, x⟩ ⟨p', u', n', x'⟩ = or3 s1 s2 s3) := by unfold Hid cmpo; rw [hs3]; simp only; rw [hs1, hs2]
  rw [hs1, hs2, hs3]
  have OR := or_any s1 s2 s3 W.heap.size (W.alloc (Obj.cells #[.int .i64 s1, .int .i64 s2, .int .i64 s3] 3)) (by simp) (by simp) (by simp)
  have OR' : Hid (Calls Tryd.prog 49 #[.slice (some ⟨W.heap.size, 0, none⟩) 3 3] (W.alloc (Obj.cells #[.int .i64 s1, .int .i64 s2, .int .i64 s3] 3)) fun e w' => e = .returned (.int .i64 (or3 s1 s2 s3)) ∧ w' = (W.alloc (Obj.cells #[.int .i64 s1, .int .i64 s2, .int .i64 s3] 3))) := OR
  have BB : Hid (Below w.heap.size w (W.alloc (Obj.cells #[.int .i64 s1, .int .i64 s2, .int .i64 s3] 3))) := (B0.out.trans (hW.mono B0.out.size)).alloc (Nat.le_trans B0.out.size hW.size) _
  clear OR hW FC CI CR hs1 hs2 hs3
  go_wp2_with fail
  refine OR'.out.mono ?_
  rintro e w' ⟨rfl, rfl⟩
  go_wp2
  go_ret
  exact ⟨by rw [HC.out]; rfl, BB⟩
end Go.Proofs.YtbomnicnoanjlaaDoor

namespace Go.Proofs.YtbomnicnoanjlaaDoor
open Go.RowKit Go.Proofs.YtbomnicnoanjlaaDoor.So
set_option linter.unusedVariables false

abbrev fs (l : List T) : List OrV := l.map Prod.fst
theorem ecmp : ∀ args w, (callFunc 44 args).run Tryd.prog w = .ok (.enter 44 args) w := enters_of Tryd.func44 (by kernel_rfl) rfl
theorem at_x (A S1 : List T) (x : T) (R : List T) : (fs (A ++ S1 ++ x :: R))[A.length + S1.length]? = some x.1 := by
  simp [fs]
theorem at_y (A S1 : List T) (y : T) (R : List T) : (fs (A ++ (S1 ++ [y]) ++ R))[A.length + S1.length]? = some y.1 := by
  simp [fs]

theorem swap_two {α : Type} : ∀ (P : List α) (y x : α) (R : List α), ((P ++ y :: x :: R).set (P.length + 1) y).set P.length x = P ++ x :: y :: R
  | [], y, x, R => rfl
  | p :: P, y, x, R => by
    have := swap_two P y x R
    simp only [List.cons_append, List.length_cons, List.set_cons_succ]
    rw [this]
/-- between two rounds of the outer loop. -/
def IsoO (A UU B : List T) (g : Nat) (rest : List Value) (w : World) (m a : Nat) (iv : Value) (W : World) : Prop := ∃ (S V : List T), S.Pairwise lt ∧ S ≠ [] ∧ S.Perm (UU.take S.length) ∧ V = UU.drop S.length ∧ S.length ≤ m ∧ iv = .int .i64 ((a + S.length : Nat) : Int) ∧ Rb W g (fs (A ++ S ++ (V ++ B))) rest ∧ Kp g w W
/-- between two rounds of the inner loop. -/
def IsoI (A S : List T) (x : T) (VB : List T) (g : Nat) (rest : List Value) (w : World) (a : Nat) (jv : Value) (W : World) : Prop := ∃ (S1 S2 : List T), jv = .int .i64 ((a + S1.length : Nat) : Int) ∧ S1 ++ S2 = S ∧ (∀ y ∈ S2, lt x y) ∧ Rb W g (fs (A ++ S1 ++ x :: (S2 ++ VB))) rest ∧ Kp g w W
def SortSays (A U B : List T) (g : Nat) (rest : List Value) (w : World) (e : Ending) (w' : World) : Prop := e = .returned (.tuple #[]) ∧ ∃ S, S.Perm U ∧ S.Pairwise lt ∧ Rb w' g (fs (A ++ S ++ B)) rest ∧ Kp g w w'
set_option maxRecDepth 100000 in
set_option maxHeartbeats 8000000 in
theorem isort_any (A U B : List T) (g cap : Nat) (rest : List Value) (w : World) (hU : U.Pairwise (fun x y => x.2 < y.2)) (hr : Rb w g (fs (A ++ U ++ B)) rest) (hn : (A ++ U ++ B).length ≤ 1000) :
    Calls Tryd.prog 52 #[.slice (some ⟨g, 0, none⟩) (A ++ U ++ B).length cap, .int .i64 (A.length : Nat), .int .i64 ((A.length + U.length : Nat) : Int), .func (.func 44) #[] #[]] w
      (SortSays A U B g rest w) := by
  obtain ⟨L, hL⟩ : ∃ L, (A ++ U ++ B).length = L := ⟨_, rfl⟩
  have HL : Hid ((A ++ U ++ B).length = L) := hL
  have HL2 : Hid (A.length + U.length + B.length = L) := by unfold Hid; rw [← hL]; simp; omega
  obtain ⟨a, ha⟩ : ∃ a, A.length = a := ⟨_, rfl⟩
  obtain ⟨m, hm⟩ : ∃ m, U.length = m := ⟨_, rfl⟩
  have Ha : Hid (A.length = a) := ha
  have Hm : Hid (U.length = m) := hm
  have hle : a + m ≤ L := by have := HL2.out; omega
  have R0 : Hid (Rb w g (fs (A ++ U ++ B)) rest) := hr
  have HU : Hid (U.Pairwise (fun x y => x.2 < y.2)) := hU
  rw [hL, ha, hm]
  obtain ⟨q, hq⟩ : ∃ q, a + m = q := ⟨_, rfl⟩
  rw [hq]
  rw [hL] at hn
  clear hL ha hm hr hU
  go_enter Tryd.func52, Tryd.ntmps52
  go_wp2
  cases U with
  | nil =>
    have hm0 : m = 0 := by have := Hm.out; simpa using this.symm
    have hqa : ¬ ((a : Nat) : Int) + 1 < (q : Int) := by omega
    refine wp_loop_rounds 1 ?_
    rw [rounds_succ]
    go_wp2
    go_end0
    exact ⟨rfl, [], List.Perm.refl _, List.Pairwise.nil, R0, Kp.refl _ _⟩
  | cons u U' =>
    have hm1 : 1 ≤ m := by have := Hm.out; simp at this; omega
    go_loopw [8] (fun iv W => IsoO A (u :: U') B g rest w m a iv W) (fun iv _ => q - (intOf iv).toNat)
    case atStart =>
      refine ⟨[u], U', by simp, by simp, by simp, by simp, hm1, by simp, ?_, Kp.refl _ _⟩
      have := R0.out
      simpa using this
    case round =>
      obtain ⟨S, V, hS, hne, hp, hV, hle2, rfl, hrb, hk⟩ := hrel
      have RB : Hid (Rb wr g (fs (A ++ S ++ (V ++ B))) rest) := hrb
      have KK : Hid (Kp g w wr) := hk
      have HS : Hid (S.Pairwise lt ∧ S.Perm ((u :: U').take S.length)) := ⟨hS, hp⟩
      clear hrb hk hS hp
      obtain ⟨i, hi⟩ : ∃ i, a + S.length = i := ⟨_, rfl⟩
      rw [hi]
      by_cases he : S.length = m
      · have hlt : ¬ ((i : Nat) : Int) < ((q : Nat) : Int) := by omega
        have FIN : Hid (∃ S', S'.Perm (u :: U') ∧ S'.Pairwise lt ∧ Rb wr g (fs (A ++ S' ++ B)) rest ∧ Kp g w wr) := by
          have h1 : (u :: U').length = m := Hm.out
          have h2 : V = [] := by rw [hV]; exact List.drop_eq_nil_of_le (by omega)
          have h3 := HS.out.2
          rw [List.take_of_length_le (by omega)] at h3
          have h4 := RB.out
          rw [h2] at h4
          exact ⟨S, h3, HS.out.1, by simpa using h4, KK.out⟩
        clear hV
        go_wp2
        go_end0
        exact ⟨rfl, FIN⟩
      · have hlt : ((i : Nat) : Int) < ((q : Nat) : Int) := by omega
        have hUl : (u :: U').length = m := Hm.out
        obtain ⟨x, V', hVx⟩ : ∃ x V', V = x :: V' := by
          cases hv : V with
          | nil =>
            rw [hV] at hv
            have := List.drop_eq_nil_iff.1 hv
            omega
          | cons x V' => exact ⟨x, V', rfl⟩
        have HX : Hid (∀ y ∈ S, y.2 < x.2) := fun y hy => by
          have hy2 := HS.out.2.mem_iff.1 hy
          have hsp : (u :: U') = (u :: U').take S.length ++ x :: V' := by rw [← hVx, hV, List.take_append_drop]
          have h2 := HU.out
          rw [hsp, List.pairwise_append] at h2
          exact h2.2.2 y hy2 x (List.mem_cons_self ..)
        have HV : Hid ((u :: U').take (S.length + 1) = (u :: U').take S.length ++ [x] ∧ (u :: U').drop (S.length + 1) = V') := by
          have hsp : (u :: U').drop S.length = x :: V' := by rw [← hV, hVx]
          refine ⟨?_, ?_⟩
          · rw [List.take_add_one, ← List.head?_drop, hsp]; rfl
          · rw [← List.drop_drop, hsp]; rfl
        have RX : Hid (Rb wr g (fs (A ++ S ++ x :: (V' ++ B))) rest) := by
          have := RB.out
          rw [hVx] at this
          exact this
        clear hV RB hVx
        go_wp2_with fail
        go_loopw [9] (fun jv W => IsoI A S x (V' ++ B) g rest w a jv W) (fun jv _ => (intOf jv).toNat)
        case atStart => exact ⟨S, [], by rw [hi], by simp, by simp, RX, KK⟩
        case round =>
          obtain ⟨S1, S2, rfl, h12, h2x, hrb, hk⟩ := hrel
          have RB : Hid (Rb wr g (fs (A ++ S1 ++ x :: (S2 ++ (V' ++ B)))) rest) := hrb
          have K1 : Hid (Kp g w wr) := hk
          have H2 : Hid (∀ y ∈ S2, lt x y) := h2x
          have H12 : Hid (S1 ++ S2 = S) := h12
          have hj : a + S1.length < L := by
            have h1 := congrArg List.length h12
            simp at h1
            omega
          have hji : ((a + S1.length : Nat) : Int) < (L : Int) := by omega
          clear hrb hk h2x h12
          rcases List.eq_nil_or_concat S1 with h0 | ⟨S1', y, h0⟩
          · subst h0
            have hgt : ¬ ((a : Nat) : Int) < ((a + ([] : List T).length : Nat) : Int) := by simp
            have NEXT : Hid (∃ (S' V2 : List T), S'.Pairwise lt ∧ S' ≠ [] ∧ S'.Perm ((u :: U').take S'.length) ∧ V2 = (u :: U').drop S'.length ∧ S'.length ≤ m ∧ S'.length = S.length + 1 ∧ Rb wr g (fs (A ++ S' ++ (V2 ++ B))) rest ∧ Kp g w wr) := by
              have e := H12.out
              simp only [List.nil_append] at e
              have hl : (x :: S2).length = S.length + 1 := by rw [e]; rfl
              refine ⟨x :: S2, V', ?_, by simp, ?_, ?_, by omega, hl, ?_, K1.out⟩
              · exact List.pairwise_cons.2 ⟨H2.out, by rw [e]; exact HS.out.1⟩
              · rw [hl, HV.out.1, e]
                exact ((HS.out.2.cons x).trans (List.perm_append_singleton x _).symm)
              · rw [hl, HV.out.2]
              · have := RB.out
                simpa using this
            simp only [List.length_nil, Nat.add_zero]
            go_upto_region 4 with fail
            go_quiet (fail)
            go_wp2
            go_round
            case rel =>
              obtain ⟨S', V2, q1, q2, q3, q4, q5, q6, q7, q8⟩ := NEXT.out
              exact ⟨S', V2, q1, q2, q3, q4, q5, by rw [q6, ← Nat.add_assoc, hi]; go_num, q7, q8.drewN _⟩
            case measure => simp [intOf]; omega
          · subst h0
            obtain ⟨k, hk⟩ : ∃ k, a + S1'.length = k := ⟨_, rfl⟩
            have hk1 : a + (S1'.concat y).length = k + 1 := by rw [← hk]; simp; omega
            have hkL : k + 1 < L := by omega
            have Hx : Hid ((fs (A ++ S1'.concat y ++ x :: (S2 ++ (V' ++ B))))[k + 1]? = some x.1) := by
              unfold Hid
              rw [← hk1, ← Ha.out]
              exact at_x A _ x _
            have Hy : Hid ((fs (A ++ S1'.concat y ++ x :: (S2 ++ (V' ++ B))))[k]? = some y.1) := by
              unfold Hid
              rw [← hk, ← Ha.out, List.concat_eq_append]
              exact at_y A _ y _
            have FC : Hid (∀ W, Below wr.heap.size wr W → W.cell? ⟨g, (k + 1) * 4, none⟩ = some (.int .i64 x.1.player) ∧ W.cell? ⟨g, (k + 1) * 4 + 1, none⟩ = some (.int .i64 x.1.unit) ∧ W.cell? ⟨g, (k + 1) * 4 + 2, none⟩ = some (.int .i64 x.1.what) ∧ W.cell? ⟨g, (k + 1) * 4 + 3, none⟩ = some (.int .i64 x.1.arg) ∧ W.cell? ⟨g, k * 4, none⟩ = some (.int .i64 y.1.player) ∧ W.cell? ⟨g, k * 4 + 1, none⟩ = some (.int .i64 y.1.unit) ∧ W.cell? ⟨g, k * 4 + 2, none⟩ = some (.int .i64 y.1.what) ∧ W.cell? ⟨g, k * 4 + 3, none⟩ = some (.int .i64 y.1.arg)) := fun W hW => by
              have r := RB.out.below hW RB.out.lt
              obtain ⟨x0, x1, x2, x3⟩ := r.cells Hx.out
              obtain ⟨y0, y1, y2, y3⟩ := r.cells Hy.out
              exact ⟨x0, x1, x2, x3, y0, y1, y2, y3⟩
            have CC : Hid (∀ W, Below wr.heap.size wr W → Calls Tryd.prog 44 #[.agg #[.int .i64 x.1.player, .int .i64 x.1.unit, .int .i64 x.1.what, .int .i64 x.1.arg], .agg #[.int .i64 y.1.player, .int .i64 y.1.unit, .int .i64 y.1.what, .int .i64 y.1.arg]] W fun e w' => e = .returned (.int .i64 (cmpo x.1 y.1)) ∧ Below wr.heap.size wr w') := fun W hW => (compare_any x.1 y.1 W).mono fun e w' ⟨h1, h2⟩ => ⟨h1, hW.trans (h2.mono hW.size)⟩
            have ec := ecmp
            have hgt : ((a : Nat) : Int) < ((k : Nat) : Int) + 1 := by omega
            have kpos : ¬ ((k : Nat) : Int) + 1 < 0 := by omega
            have hki : ((k : Nat) : Int) + 1 < (L : Int) := by omega
            have hki0 : ((k : Nat) : Int) < (L : Int) := by omega
            have kk1 : ((k : Nat) : Int) + 1 - 1 = k := by omega
            have kw : IntKind.i64.wrap ((k : Nat) : Int) = k := by rw [IntKind.wrap_i64]; omega
            have e1 : ((a + (S1'.concat y).length : Nat) : Int) = (k : Int) + 1 := by rw [hk1]; rfl
            rw [e1]
            clear hji hj
            go_upto_region 4 with fail
            refine wp_region_class 16 (fun W => Below wr.heap.size wr W) (by kernel_rfl) (by kernel_rfl) (Below.refl _ _).drew ?_
            simp only [List.take_succ_cons, List.take_zero, List.drop_succ_cons, List.drop_zero]
            refine head_step (.int .i64 ((k : Int) + 1)) (by go_simp) (fun W hW => by go_simp) ?_
            go_simp
            refine head_step (.int .i64 (a : Int)) (by go_simp) (fun W hW => by go_simp) ?_
            go_simp
            refine head_step (.bool true) (by go_simp) (fun W hW => by go_simp) ?_
            go_simp
            refine head_step (.bool true) (by go_simp) (fun W hW => by go_simp) ?_
            go_simp
            refine head_step (.func (.func 44) #[] #[]) (by go_simp) (fun W hW => by go_simp) ?_
            go_simp
            refine head_step (.slice (some ⟨g, 0, none⟩) L cap) (by go_simp) (fun W hW => by go_simp) ?_
            go_simp
            refine head_step (.int .i64 ((k : Int) + 1)) (by go_simp) (fun W hW => by go_simp) ?_
            go_simp
            refine head_step (.pointer (some ⟨g, (k + 1) * 4, none⟩)) (by go_simp) (fun W hW => by go_simp) ?_
            go_simp
            refine head_step (.agg #[.int .i64 x.1.player, .int .i64 x.1.unit, .int .i64 x.1.what, .int .i64 x.1.arg]) (by go_simp) (fun W hW => by obtain ⟨x0, x1, x2, x3, -⟩ := FC.out W hW; go_simp) ?_
            go_simp
            refine head_step (.slice (some ⟨g, 0, none⟩) L cap) (by go_simp) (fun W hW => by go_simp) ?_
            go_simp
            refine head_step (.int .i64 ((k : Int) + 1)) (by go_simp) (fun W hW => by go_simp) ?_
            go_simp
            refine head_step (.int .i64 (k : Int)) (by go_simp) (fun W hW => by go_simp) ?_
            go_simp
            refine head_step (.pointer (some ⟨g, k * 4, none⟩)) (by go_simp) (fun W hW => by go_simp) ?_
            go_simp
            refine head_step (.agg #[.int .i64 y.1.player, .int .i64 y.1.unit, .int .i64 y.1.what, .int .i64 y.1.arg]) (by go_simp) (fun W hW => by obtain ⟨-, -, -, -, y0, y1, y2, y3⟩ := FC.out W hW; go_simp) ?_
            go_simp
            refine head_call (.int .i64 (cmpo x.1 y.1)) 44 #[.agg #[.int .i64 x.1.player, .int .i64 x.1.unit, .int .i64 x.1.what, .int .i64 x.1.arg], .agg #[.int .i64 y.1.player, .int .i64 y.1.unit, .int .i64 y.1.what, .int .i64 y.1.arg]] (by go_simp) (fun W hW => by go_simp) (fun W hW => CC.out W hW) ?_
            go_simp
            refine head_step (.bool (decide (cmpo x.1 y.1 < 0))) (by go_simp) (fun W hW => by go_simp) ?_
            go_simp
            intro W hW
            have RW : Hid (Rb W g (fs (A ++ S1'.concat y ++ x :: (S2 ++ (V' ++ B)))) rest) := RB.out.below hW RB.out.lt
            have KW : Hid (Kp g w W) := K1.out.trans (Kp.of hW)
            have IX : Hid (∀ z ∈ S1'.concat y, z.2 < x.2) := fun z hz => HX.out z (by rw [← H12.out]; exact List.mem_append_left _ hz)
            have PW : Hid ((S1'.concat y ++ S2).Pairwise lt) := by unfold Hid; rw [H12.out]; exact HS.out.1
            by_cases hc : cmpo x.1 y.1 < 0
            · have LX : Hid (lt x y) := (ask_lt (IX.out y (by simp))).1 ((klt_iff _ _).1 hc)
              obtain ⟨x0, x1, x2, x3, y0, y1, y2, y3⟩ := FC.out W hW
              have f0 := RW.out.thaw ((k + 1) * 4)
              have f1 := RW.out.thaw ((k + 1) * 4 + 1)
              have f2 := RW.out.thaw ((k + 1) * 4 + 2)
              have f3 := RW.out.thaw ((k + 1) * 4 + 3)
              have f4 := RW.out.thaw (k * 4)
              have f5 := RW.out.thaw (k * 4 + 1)
              have f6 := RW.out.thaw (k * 4 + 2)
              have f7 := RW.out.thaw (k * 4 + 3)
              clear hW FC CC
              go_wp2_with fail
              go_region
              have hlen : (fs (A ++ S1'.concat y ++ x :: (S2 ++ (V' ++ B)))).length = L := by
                have h1 := HL2.out
                have h2 := congrArg List.length H12.out
                have h3 := congrArg List.length HV.out.2
                simp [fs] at h2 h3 ⊢
                have h4 : (u :: U').length = m := Hm.out
                have h5 := Ha.out
                simp at h4 h1
                omega
              have rr := (RW.out.put (i := k + 1) (by rw [hlen]; exact hkL) y.1).put (i := k) (by rw [List.length_set, hlen]; omega) x.1
              have el : ((fs (A ++ S1'.concat y ++ x :: (S2 ++ (V' ++ B)))).set (k + 1) y.1).set k x.1 = fs (A ++ S1' ++ x :: (y :: S2 ++ (V' ++ B))) := by
                have hP : (fs (A ++ S1')).length = k := by simp [fs, ← hk, Ha.out]
                have h1 := swap_two (fs (A ++ S1')) y.1 x.1 (fs (S2 ++ (V' ++ B)))
                rw [hP] at h1
                have e1 : fs (A ++ S1'.concat y ++ x :: (S2 ++ (V' ++ B))) = fs (A ++ S1') ++ y.1 :: x.1 :: fs (S2 ++ (V' ++ B)) := by simp [fs]
                have e2 : fs (A ++ S1' ++ x :: (y :: S2 ++ (V' ++ B))) = fs (A ++ S1') ++ x.1 :: y.1 :: fs (S2 ++ (V' ++ B)) := by simp [fs]
                rw [e1, e2]
                exact h1
              rw [el] at rr
              have RR : Hid (Rb _ g (fs (A ++ S1' ++ x :: (y :: S2 ++ (V' ++ B)))) rest) := rr
              have KR : Hid (Kp g w _) := (((((((KW.out.trans (Kp.set W ((k + 1) * 4) (.int .i64 y.1.player))).trans (Kp.set _ ((k + 1) * 4 + 1) (.int .i64 y.1.unit))).trans (Kp.set _ ((k + 1) * 4 + 2) (.int .i64 y.1.what))).trans (Kp.set _ ((k + 1) * 4 + 3) (.int .i64 y.1.arg))).trans (Kp.set _ (k * 4) (.int .i64 x.1.player))).trans (Kp.set _ (k * 4 + 1) (.int .i64 x.1.unit))).trans (Kp.set _ (k * 4 + 2) (.int .i64 x.1.what))).trans (Kp.set _ (k * 4 + 3) (.int .i64 x.1.arg))
              clear rr
              go_wp2
              go_roundw
              case rel =>
                refine ⟨S1', y :: S2, by rw [hk], by rw [← H12.out]; simp, fun z hz => ?_, RR.out.below (Below.refl _ _).drew RR.out.lt, KR.out.trans (Kp.of (Below.refl _ _).drew)⟩
                rcases List.mem_cons.1 hz with rfl | hz
                · exact LX.out
                · exact H2.out z hz
              case measure => simp [intOf]
            · have LX : Hid (lt y x) := (ask_ge (IX.out y (by simp))).1 (fun h => hc ((klt_iff _ _).2 h))
              have NEXT : Hid (∃ (S' V2 : List T), S'.Pairwise lt ∧ S' ≠ [] ∧ S'.Perm ((u :: U').take S'.length) ∧ V2 = (u :: U').drop S'.length ∧ S'.length ≤ m ∧ S'.length = S.length + 1 ∧ Rb W g (fs (A ++ S' ++ (V2 ++ B))) rest ∧ Kp g w W) := by
                have hl : (S1'.concat y ++ x :: S2).length = S.length + 1 := by
                  rw [← H12.out]
                  simp
                  omega
                refine ⟨S1'.concat y ++ x :: S2, V', ?_, by simp, ?_, ?_, by omega, hl, ?_, KW.out⟩
                · refine put_rise PW.out (fun z hz => ?_) H2.out
                  rw [List.concat_eq_append] at hz
                  rcases List.mem_append.1 hz with hz | hz
                  · have h1 := PW.out
                    rw [List.concat_eq_append, List.append_assoc, List.pairwise_append] at h1
                    exact lt_trans (h1.2.2 z hz y (by simp)) LX.out
                  · simp at hz
                    subst hz
                    exact LX.out
                · rw [hl, HV.out.1]
                  refine List.Perm.trans List.perm_middle ?_
                  rw [H12.out]
                  exact ((HS.out.2.cons x).trans (List.perm_append_singleton x _).symm)
                · rw [hl, HV.out.2]
                · have := RW.out
                  simpa using this
              clear hW FC CC
              go_wp2
              go_round
              case rel =>
                obtain ⟨S', V2, q1, q2, q3, q4, q5, q6, q7, q8⟩ := NEXT.out
                exact ⟨S', V2, q1, q2, q3, q4, q5, by rw [q6, ← Nat.add_assoc, hi]; go_num, q7, q8⟩
              case measure => simp [intOf]; omega
end Go.Proofs.YtbomnicnoanjlaaDoor

namespace Go.Proofs.YtbomnicnoanjlaaDoor
open Go.RowKit Go.Proofs.YtbomnicnoanjlaaDoor.So
set_option linter.unusedVariables false

theorem swap_far {α : Type} : ∀ (U V Z : List α) (x y : α), ((U ++ x :: (V ++ y :: Z)).set U.length y).set (U.length + 1 + V.length) x = U ++ y :: (V ++ x :: Z)
  | [], V, Z, x, y => by
    have : ∀ (V : List α), (V ++ y :: Z).set V.length x = V ++ x :: Z := fun V => by simp
    simp only [List.nil_append, List.length_nil, List.set_cons_zero, Nat.zero_add]
    rw [Nat.add_comm, List.set_cons_succ, this]
  | u :: U, V, Z, x, y => by
    have h := swap_far U V Z x y
    have e : (u :: U).length + 1 + V.length = (U.length + 1 + V.length) + 1 := by simp; omega
    rw [e]
    simp only [List.cons_append, List.length_cons, List.set_cons_succ]
    rw [h]
theorem at_far {α : Type} (U V Z : List α) (x y : α) : (U ++ x :: (V ++ y :: Z))[U.length]? = some x ∧ (U ++ x :: (V ++ y :: Z))[U.length + 1 + V.length]? = some y := by
  refine ⟨by simp, ?_⟩
  rw [List.getElem?_append_right (by omega)]
  have : U.length + 1 + V.length - U.length = V.length + 1 := by omega
  rw [this]
  simp
/-- between two rounds of swapRange's loop. -/
def SwI (P X M Y Q : List OrV) (g : Nat) (rest : List Value) (w : World) (n : Nat) (iv : Value) (W : World) : Prop := ∃ (X1 X2 Y1 Y2 : List OrV), iv = .int .i64 (X1.length : Nat) ∧ X1 ++ X2 = X ∧ Y1 ++ Y2 = Y ∧ X1.length = Y1.length ∧ X1.length ≤ n ∧ Rb W g (P ++ Y1 ++ (X2 ++ (M ++ X1) ++ (Y2 ++ Q))) rest ∧ Kp g w W
set_option maxRecDepth 100000 in
set_option maxHeartbeats 8000000 in
theorem swaps_any (P X M Y Q : List OrV) (fv : Value) (g cap L a b n : Nat) (rest : List Value) (w : World) (hr : Rb w g (P ++ X ++ M ++ Y ++ Q) rest) (hL : (P ++ X ++ M ++ Y ++ Q).length = L) (hn : L ≤ 1000) (hX : X.length = n) (hY : Y.length = n) (ha : P.length = a) (hb : (P ++ X ++ M).length = b) :
    Calls Tryd.prog 56 #[.slice (some ⟨g, 0, none⟩) L cap, .int .i64 (a : Nat), .int .i64 (b : Nat), .int .i64 (n : Nat), fv] w
      (fun e w' => e = .returned (.tuple #[]) ∧ Rb w' g (P ++ Y ++ M ++ X ++ Q) rest ∧ Kp g w w') := by
  have R0 : Hid (Rb w g (P ++ X ++ M ++ Y ++ Q) rest) := hr
  have HL : Hid ((P ++ X ++ M ++ Y ++ Q).length = L) := hL
  have HX : Hid (X.length = n) := hX
  have HY : Hid (Y.length = n) := hY
  have Ha : Hid (P.length = a) := ha
  have Hb : Hid (a + n + M.length = b) := by unfold Hid; rw [← hb, ← ha, ← hX]; simp; omega
  have HL2 : Hid (b + n ≤ L) := by unfold Hid; rw [← hL, ← hb, ← hY]; simp; omega
  clear hr hL hX hY ha hb
  have HA2 : Hid (a + n ≤ b) := by unfold Hid; have := Hb.out; omega
  go_enter Tryd.func56, Tryd.ntmps56
  go_wp2
  go_loopw [10] (fun iv W => SwI P X M Y Q g rest w n iv W) (fun iv _ => n - (intOf iv).toNat)
  case atStart =>
    refine ⟨[], X, [], Y, rfl, rfl, rfl, rfl, by simp, ?_, Kp.refl _ _⟩
    have := R0.out
    simpa using this
  case round =>
    obtain ⟨X1, X2, Y1, Y2, rfl, hx, hy, hxy, hle, hrb, hk⟩ := hrel
    have RB : Hid (Rb wr g (P ++ Y1 ++ (X2 ++ (M ++ X1) ++ (Y2 ++ Q))) rest) := hrb
    have K1 : Hid (Kp g w wr) := hk
    have H1 : Hid (X1 ++ X2 = X ∧ Y1 ++ Y2 = Y ∧ X1.length = Y1.length) := ⟨hx, hy, hxy⟩
    have l1 : X1.length + X2.length = n := by have := congrArg List.length hx; simp at this; rw [this]; exact HX.out
    have l2 : Y1.length + Y2.length = n := by have := congrArg List.length hy; simp at this; rw [this]; exact HY.out
    obtain ⟨i, hi⟩ : ∃ i, X1.length = i := ⟨_, rfl⟩
    have Hi : Hid (X1.length = i) := hi
    rw [hi] at l1 hxy hle
    rw [hi]
    clear hrb hk hx hy hi
    by_cases he : i = n
    · have hlt : ¬ ((i : Nat) : Int) < ((n : Nat) : Int) := by omega
      have FIN : Hid (Rb wr g (P ++ (Y ++ (M ++ (X ++ Q)))) rest) := by
        unfold Hid
        have e1 : X2 = [] := List.length_eq_zero_iff.1 (by omega)
        have e2 : Y2 = [] := List.length_eq_zero_iff.1 (by omega)
        obtain ⟨q1, q2, q3⟩ := H1.out
        have := RB.out
        rw [e1] at q1 this
        rw [e2] at q2 this
        simp only [List.append_nil] at q1 q2
        rw [q1, q2] at this
        simpa using this
      clear l1 l2 hxy he
      go_wp2
      go_end0
      exact ⟨rfl, FIN.out, K1.out⟩
    · have hlt : ((i : Nat) : Int) < ((n : Nat) : Int) := by omega
      obtain ⟨x, X3, hx3⟩ : ∃ x X3, X2 = x :: X3 := by
        cases X2 with
        | nil => simp at l1; omega
        | cons x X3 => exact ⟨x, X3, rfl⟩
      obtain ⟨y, Y3, hy3⟩ : ∃ y Y3, Y2 = y :: Y3 := by
        cases Y2 with
        | nil => simp at l2; omega
        | cons y Y3 => exact ⟨y, Y3, rfl⟩
      subst hx3 hy3
      have l3 : i + X3.length + 1 = n := by simp at l1; omega
      obtain ⟨p, hp⟩ : ∃ p, a + i = p := ⟨_, rfl⟩
      obtain ⟨r, hr⟩ : ∃ r, b + i = r := ⟨_, rfl⟩
      have hpr : p < r := by have := HA2.out; omega
      have hrL : r < L := by have := HL2.out; omega
      have ep : (P ++ Y1).length = p := by rw [← hp, List.length_append, Ha.out, hxy]
      have er : (P ++ Y1).length + 1 + (X3 ++ (M ++ X1)).length = r := by
        have h1 := Hb.out
        have h2 := Hi.out
        rw [ep]
        simp
        omega
      have EL : Hid (P ++ Y1 ++ (x :: X3 ++ (M ++ X1) ++ (y :: Y3 ++ Q)) = (P ++ Y1) ++ x :: ((X3 ++ (M ++ X1)) ++ y :: (Y3 ++ Q))) := by unfold Hid; simp
      have RC : Hid (Rb wr g ((P ++ Y1) ++ x :: ((X3 ++ (M ++ X1)) ++ y :: (Y3 ++ Q))) rest) := by unfold Hid; rw [← EL.out]; exact RB.out
      have AF := at_far (P ++ Y1) (X3 ++ (M ++ X1)) (Y3 ++ Q) x y
      rw [er, ep] at AF
      obtain ⟨x0, x1, x2, x3⟩ := RC.out.cells AF.1
      obtain ⟨y0, y1, y2, y3⟩ := RC.out.cells AF.2
      have SW := swap_far (P ++ Y1) (X3 ++ (M ++ X1)) (Y3 ++ Q) x y
      rw [er, ep] at SW
      have HSW : Hid (_ = _) := SW
      have f0 := RC.out.thaw (p * 4)
      have f1 := RC.out.thaw (p * 4 + 1)
      have f2 := RC.out.thaw (p * 4 + 2)
      have f3 := RC.out.thaw (p * 4 + 3)
      have f4 := RC.out.thaw (r * 4)
      have f5 := RC.out.thaw (r * 4 + 1)
      have f6 := RC.out.thaw (r * 4 + 2)
      have f7 := RC.out.thaw (r * 4 + 3)
      have sp : ((a : Nat) : Int) + (i : Int) = p := by omega
      have sr : ((b : Nat) : Int) + (i : Int) = r := by omega
      have pw : IntKind.i64.wrap ((p : Nat) : Int) = p := by rw [IntKind.wrap_i64]; omega
      have rw' : IntKind.i64.wrap ((r : Nat) : Int) = r := by rw [IntKind.wrap_i64]; omega
      have hpL : ((p : Nat) : Int) < (L : Int) := by omega
      have hrL' : ((r : Nat) : Int) < (L : Int) := by omega
      have n1 : ¬ p * 4 = r * 4 := by omega
      have LL : Hid (((P ++ Y1) ++ x :: ((X3 ++ (M ++ X1)) ++ y :: (Y3 ++ Q))).length = L) := by
        have h1 := HL.out
        have h2 := congrArg List.length H1.out.1
        have h3 := congrArg List.length H1.out.2.1
        unfold Hid
        simp at h1 h2 h3 ⊢
        omega
      have HP : Hid (p < r ∧ r < L) := ⟨hpr, hrL⟩
      have HM : Hid (i + 1 ≤ n ∧ i < n ∧ i = Y1.length) := ⟨by omega, by omega, hxy⟩
      clear SW AF EL ep er l1 l2 l3 hxy RB hp hr
      go_wp2_with fail
      go_region
      have rr := (RC.out.put (i := p) (by rw [LL.out]; have := HP.out; omega) y).put (i := r) (by rw [List.length_set, LL.out]; exact HP.out.2) x
      rw [HSW.out] at rr
      have RR : Hid (Rb _ g ((P ++ Y1) ++ y :: ((X3 ++ (M ++ X1)) ++ x :: (Y3 ++ Q))) rest) := rr
      have KR : Hid (Kp g w _) := (((((((K1.out.trans (Kp.set wr (p * 4) (.int .i64 y.player))).trans (Kp.set _ (p * 4 + 1) (.int .i64 y.unit))).trans (Kp.set _ (p * 4 + 2) (.int .i64 y.what))).trans (Kp.set _ (p * 4 + 3) (.int .i64 y.arg))).trans (Kp.set _ (r * 4) (.int .i64 x.player))).trans (Kp.set _ (r * 4 + 1) (.int .i64 x.unit))).trans (Kp.set _ (r * 4 + 2) (.int .i64 x.what))).trans (Kp.set _ (r * 4 + 3) (.int .i64 x.arg))
      clear rr
      go_wp2
      go_roundw
      case rel =>
        have h1 := H1.out
        have h2 := Hi.out
        have h3 := HM.out
        refine ⟨X1 ++ [x], X3, Y1 ++ [y], Y3, by simp [h2], by rw [← h1.1]; simp, by rw [← h1.2.1]; simp, by simp; omega, by simp; omega, ?_, KR.out.trans (Kp.of (Below.refl _ _).drew)⟩
        have h4 := RR.out.below (Below.refl _ _).drew RR.out.lt
        have e : P ++ (Y1 ++ [y]) ++ (X3 ++ (M ++ (X1 ++ [x])) ++ (Y3 ++ Q)) = (P ++ Y1) ++ y :: ((X3 ++ (M ++ X1)) ++ x :: (Y3 ++ Q)) := by simp
        rw [e]
        exact h4
      case measure => have := HM.out; simp [intOf]; omega
end Go.Proofs.YtbomnicnoanjlaaDoor

namespace Go.Proofs.YtbomnicnoanjlaaDoor
open Go.RowKit Go.Proofs.YtbomnicnoanjlaaDoor.So
set_option linter.unusedVariables false

/-- between two rounds of rotate's loop. -/
def RoI (P u v Q : List OrV) (g : Nat) (rest : List Value) (w : World) (iv jv : Value) (W : World) : Prop := ∃ (F u' v' E : List OrV), iv = .int .i64 (u'.length : Nat) ∧ jv = .int .i64 (v'.length : Nat) ∧ u' ≠ [] ∧ v' ≠ [] ∧ F ++ (v' ++ u') ++ E = v ++ u ∧ F.length + u'.length = u.length ∧ Rb W g (P ++ F ++ u' ++ v' ++ (E ++ Q)) rest ∧ Kp g w W
set_option maxRecDepth 100000 in
set_option maxHeartbeats 8000000 in
theorem rotate_any (P u v Q : List OrV) (fv : Value) (g cap L a m b : Nat) (rest : List Value) (w : World) (hr : Rb w g (P ++ u ++ v ++ Q) rest) (hL : (P ++ u ++ v ++ Q).length = L) (hn : L ≤ 1000) (hu : u ≠ []) (hv : v ≠ []) (ha : P.length = a) (hm : a + u.length = m) (hb : m + v.length = b) :
    Calls Tryd.prog 55 #[.slice (some ⟨g, 0, none⟩) L cap, .int .i64 (a : Nat), .int .i64 (m : Nat), .int .i64 (b : Nat), fv] w
      (fun e w' => e = .returned (.tuple #[]) ∧ Rb w' g (P ++ v ++ u ++ Q) rest ∧ Kp g w w') := by
  have R0 : Hid (Rb w g (P ++ u ++ v ++ Q) rest) := hr
  have HL : Hid (a + u.length + v.length + Q.length = L) := by unfold Hid; rw [← hL, ← ha]; simp; omega
  have Ha : Hid (P.length = a) := ha
  have Hm : Hid (a + u.length = m) := hm
  have Hb : Hid (m + v.length = b) := hb
  have Hne : Hid (u ≠ [] ∧ v ≠ []) := ⟨hu, hv⟩
  have hbL : b ≤ L := by have := HL.out; omega
  have smi : ((m : Nat) : Int) - (a : Int) = (u.length : Nat) := by omega
  have sbm : ((b : Nat) : Int) - (m : Int) = (v.length : Nat) := by omega
  have wmi : IntKind.i64.wrap ((u.length : Nat) : Int) = (u.length : Nat) := by rw [IntKind.wrap_i64]; omega
  have wbm : IntKind.i64.wrap ((v.length : Nat) : Int) = (v.length : Nat) := by rw [IntKind.wrap_i64]; omega
  clear hr hL hu hv ha hm hb
  go_enter Tryd.func55, Tryd.ntmps55
  go_wp2
  go_loopw [10, 11] (fun iv jv W => RoI P u v Q g rest w iv jv W) (fun iv jv _ => (intOf iv).toNat + (intOf jv).toNat)
  case atStart =>
    refine ⟨[], u, v, [], rfl, rfl, Hne.out.1, Hne.out.2, by simp, by simp, ?_, Kp.refl _ _⟩
    have := R0.out
    simpa using this
  case round =>
    obtain ⟨F, u', v', E, rfl, rfl, hu, hv, hF, hlen, hrb, hk⟩ := hrel
    have RB : Hid (Rb wr g (P ++ F ++ u' ++ v' ++ (E ++ Q)) rest) := hrb
    have K1 : Hid (Kp g w wr) := hk
    have HF : Hid (F ++ (v' ++ u') ++ E = v ++ u) := hF
    have HFl : Hid (F.length + u'.length = u.length) := hlen
    have hlF : F.length + v'.length + u'.length + E.length = v.length + u.length := by have := congrArg List.length hF; simp at this; omega
    obtain ⟨i, hi⟩ : ∃ i, u'.length = i := ⟨_, rfl⟩
    obtain ⟨j, hj⟩ : ∃ j, v'.length = j := ⟨_, rfl⟩
    have Hi : Hid (u'.length = i) := hi
    have Hj : Hid (v'.length = j) := hj
    have i1 : 1 ≤ i := by rw [← hi]; exact List.length_pos_iff.2 hu
    have j1 : 1 ≤ j := by rw [← hj]; exact List.length_pos_iff.2 hv
    obtain ⟨c, hc⟩ : ∃ c, a + F.length = c := ⟨_, rfl⟩
    have Hc : Hid ((P ++ F).length = c) := by unfold Hid; rw [← hc, List.length_append, Ha.out]
    have hci : c + i = m := by have := Hm.out; omega
    have hjb : m + j ≤ b := by have := Hm.out; have := Hb.out; omega
    have HLL : Hid ((P ++ F ++ u' ++ v' ++ (E ++ Q)).length = L) := by
      have h1 := HL.out
      have h2 := Ha.out
      unfold Hid
      simp
      omega
    rw [hi, hj]
    have smc : ((m : Nat) : Int) - (i : Int) = (c : Nat) := by omega
    have wc : IntKind.i64.wrap ((c : Nat) : Int) = (c : Nat) := by rw [IntKind.wrap_i64]; omega
    clear hrb hk hF hlen hlF hu hv hc smi sbm wmi wbm
    by_cases he : i = j
    · subst he
      have CL := swaps_any (P ++ F) u' [] v' (E ++ Q) fv g cap L c m i rest wr (by simpa using RB.out) (by simpa using HLL.out) hn Hi.out Hj.out Hc.out (by have := Hc.out; have := Hi.out; simp at *; omega)
      have hne : ¬ ((i : Nat) : Int) ≠ (i : Int) := by simp
      clear hi hj
      go_wp2_with fail
      refine Calls.mono CL ?_
      rintro e w1 ⟨rfl, hr1, hk1⟩
      have R1 : Hid (Rb w1 g (P ++ F ++ v' ++ [] ++ u' ++ (E ++ Q)) rest) := hr1
      have K2 : Hid (Kp g wr w1) := hk1
      clear hr1 hk1
      go_wp2
      go_end0
      refine ⟨rfl, ?_, K1.out.trans K2.out⟩
      have h := R1.out
      have e : P ++ F ++ v' ++ [] ++ u' ++ (E ++ Q) = P ++ (v ++ u) ++ Q := by rw [← HF.out]; simp
      rw [e] at h
      simpa using h
    · by_cases hgt : j < i
      · obtain ⟨x, y, hxy, hx⟩ : ∃ x y, u' = x ++ y ∧ x.length = j := ⟨u'.take j, u'.drop j, (List.take_append_drop _ _).symm, by rw [List.length_take]; omega⟩
        have hy : y.length = i - j := by have := congrArg List.length hxy; simp at this; omega
        subst hxy
        have CL := swaps_any (P ++ F) x y v' (E ++ Q) fv g cap L c m j rest wr (by simpa using RB.out) (by have := HLL.out; simp at this ⊢; omega) hn hx Hj.out Hc.out (by have := Hc.out; have := Hi.out; simp at *; omega)
        have HXY : Hid (x.length = j ∧ y.length = i - j) := ⟨hx, hy⟩
        have hne : ¬ ((i : Nat) : Int) = (j : Int) := by omega
        have hgi : ((j : Nat) : Int) < (i : Int) := by omega
        obtain ⟨d, hd⟩ : ∃ d, i - j = d := ⟨_, rfl⟩
        have Hd : Hid (1 ≤ d ∧ d + j = i ∧ y.length = d) := ⟨by omega, by omega, by omega⟩
        have sij : ((i : Nat) : Int) - (j : Int) = (d : Nat) := by omega
        have wd : IntKind.i64.wrap ((d : Nat) : Int) = (d : Nat) := by rw [IntKind.wrap_i64]; omega
        clear hi hj hx hy hd
        go_wp2_with fail
        refine Calls.mono CL ?_
        rintro e w1 ⟨rfl, hr1, hk1⟩
        have R1 : Hid (Rb w1 g (P ++ F ++ v' ++ y ++ x ++ (E ++ Q)) rest) := hr1
        have K2 : Hid (Kp g wr w1) := hk1
        clear hr1 hk1
        go_wp2
        go_roundw
        case rel =>
          obtain ⟨d1, d2, d3⟩ := Hd.out
          obtain ⟨e1, e2⟩ := HXY.out
          have e3 := Hj.out
          have e4 := HFl.out
          refine ⟨F ++ v', y, x, E, by rw [d3], by rw [e1], by intro h; rw [h] at d3; simp at d3; omega, by intro h; rw [h] at e1; simp at e1; omega, by rw [← HF.out]; simp, ?_, ?_, K1.out.trans K2.out⟩
          · simp at e4 ⊢; omega
          · have h := R1.out
            simpa using h
        case measure => have := Hd.out; simp [intOf]; omega
      · obtain ⟨x, y, hxy, hx⟩ : ∃ x y, v' = x ++ y ∧ x.length = j - i := ⟨v'.take (j - i), v'.drop (j - i), (List.take_append_drop _ _).symm, by rw [List.length_take]; omega⟩
        have hy : y.length = i := by have := congrArg List.length hxy; simp at this; omega
        subst hxy
        obtain ⟨d, hd⟩ : ∃ d, j - i = d := ⟨_, rfl⟩
        obtain ⟨t, ht⟩ : ∃ t, m + d = t := ⟨_, rfl⟩
        have CL := swaps_any (P ++ F) u' x y (E ++ Q) fv g cap L c t i rest wr (by simpa using RB.out) (by have := HLL.out; simp at this ⊢; omega) hn Hi.out hy Hc.out (by have := Hc.out; have := Hi.out; simp at *; omega)
        have HXY : Hid (x.length = d ∧ y.length = i) := ⟨by omega, hy⟩
        have hne : ¬ ((i : Nat) : Int) = (j : Int) := by omega
        have hgi : ¬ ((j : Nat) : Int) < (i : Int) := by omega
        have Hd : Hid (1 ≤ d ∧ d + i = j ∧ 1 ≤ i) := ⟨by omega, by omega, i1⟩
        obtain ⟨mj, hmj⟩ : ∃ mj, m + j = mj := ⟨_, rfl⟩
        have smj : ((m : Nat) : Int) + (j : Int) = (mj : Nat) := by omega
        have wmj : IntKind.i64.wrap ((mj : Nat) : Int) = (mj : Nat) := by rw [IntKind.wrap_i64]; omega
        have smt : ((mj : Nat) : Int) - (i : Int) = (t : Nat) := by omega
        have wt : IntKind.i64.wrap ((t : Nat) : Int) = (t : Nat) := by rw [IntKind.wrap_i64]; omega
        have sij : ((j : Nat) : Int) - (i : Int) = (d : Nat) := by omega
        have wd : IntKind.i64.wrap ((d : Nat) : Int) = (d : Nat) := by rw [IntKind.wrap_i64]; omega
        clear hi hj hx hy hd ht hmj
        go_wp2_with fail
        refine Calls.mono CL ?_
        rintro e w1 ⟨rfl, hr1, hk1⟩
        have R1 : Hid (Rb w1 g (P ++ F ++ y ++ x ++ u' ++ (E ++ Q)) rest) := hr1
        have K2 : Hid (Kp g wr w1) := hk1
        clear hr1 hk1
        go_wp2
        go_roundw
        case rel =>
          obtain ⟨d1, d2, d3⟩ := Hd.out
          obtain ⟨e1, e2⟩ := HXY.out
          have e3 := Hi.out
          have e4 := HFl.out
          refine ⟨F, y, x, u' ++ E, by rw [e2], by rw [e1], by intro h; rw [h] at e2; simp at e2; omega, by intro h; rw [h] at e1; simp at e1; omega, by rw [← HF.out]; simp, ?_, ?_, K1.out.trans K2.out⟩
          · omega
          · have h := R1.out
            simpa using h
        case measure => have := Hd.out; simp [intOf]; omega
end Go.Proofs.YtbomnicnoanjlaaDoor

namespace Go.Proofs.YtbomnicnoanjlaaDoor
open Go.RowKit Go.Proofs.YtbomnicnoanjlaaDoor.So
set_option linter.unusedVariables false

/-- what is looked for among the Y. -/
def BsX (A : List T) (x : T) (Y B : List T) (g : Nat) (rest : List Value) (w : World) (m : Nat) (iv jv : Value) (W : World) : Prop := ∃ (Y1 Y2 Y3 : List T), iv = .int .i64 ((m + Y1.length : Nat) : Int) ∧ jv = .int .i64 ((m + Y1.length + Y2.length : Nat) : Int) ∧ Y1 ++ Y2 ++ Y3 = Y ∧ (∀ z ∈ Y1, lt z x) ∧ (∀ z ∈ Y3, lt x z) ∧ Rb W g (fs (A ++ x :: (Y ++ B))) rest ∧ Kp g w W
/-- it goes up. -/
def UpX (A : List T) (x : T) (Y1 YB : List T) (g : Nat) (rest : List Value) (w : World) (a : Nat) (kv : Value) (W : World) : Prop := ∃ (U V : List T), kv = .int .i64 ((a + U.length : Nat) : Int) ∧ U ++ V = Y1 ∧ Rb W g (fs (A ++ U) ++ x.1 :: (fs V ++ fs YB)) rest ∧ Kp g w W
def MergeSays (A XY B : List T) (g : Nat) (rest : List Value) (w : World) (e : Ending) (w' : World) : Prop := e = .returned (.tuple #[]) ∧ ∃ Z : List T, Z.Perm XY ∧ Z.Pairwise lt ∧ Rb w' g (fs (A ++ Z ++ B)) rest ∧ Kp g w w'
theorem swap_up {α : Type} (P : List α) (x y : α) (R : List α) : ((P ++ x :: y :: R).set P.length y).set (P.length + 1) x = P ++ y :: x :: R := swap_far P [] R x y
set_option maxRecDepth 100000 in
set_option maxHeartbeats 8000000 in
theorem sym_one (A : List T) (x : T) (Y B : List T) (g cap L a m b : Nat) (rest : List Value) (w : World) (hY : Y.Pairwise lt) (hpl : ∀ y ∈ Y, x.2 < y.2) (hr : Rb w g (fs (A ++ x :: (Y ++ B))) rest) (hL : A.length + 1 + Y.length + B.length = L) (hn : L ≤ 1000) (ha : A.length = a) (hm : a + 1 = m) (hb : m + Y.length = b) :
    Calls Tryd.prog 53 #[.slice (some ⟨g, 0, none⟩) L cap, .int .i64 (a : Nat), .int .i64 (m : Nat), .int .i64 (b : Nat), .func (.func 44) #[] #[]] w
      (MergeSays A (x :: Y) B g rest w) := by
  have R0 : Hid (Rb w g (fs (A ++ x :: (Y ++ B))) rest) := hr
  have HL : Hid (A.length + 1 + Y.length + B.length = L) := hL
  have Ha : Hid (A.length = a) := ha
  have Hm : Hid (a + 1 = m) := hm
  have Hb : Hid (m + Y.length = b) := hb
  have HY : Hid (Y.Pairwise lt ∧ ∀ y ∈ Y, x.2 < y.2) := ⟨hY, hpl⟩
  have hbL : b ≤ L := by omega
  have smi : ((m : Nat) : Int) - (a : Int) = 1 := by omega
  have haL : ((a : Nat) : Int) < (L : Int) := by omega
  clear hr hL hY hpl ha hm hb
  go_enter Tryd.func53, Tryd.ntmps53
  go_wp2
  go_loopw [10, 11] (fun iv jv W => BsX A x Y B g rest w m iv jv W) (fun iv jv _ => (intOf jv).toNat - (intOf iv).toNat)
  case atStart =>
    refine ⟨[], Y, [], by simp, by have := Hb.out; simp; omega, by simp, by simp, by simp, R0.out, Kp.refl _ _⟩
  case round =>
    obtain ⟨Y1, Y2, Y3, rfl, rfl, h12, hlo, hhi, hrb, hk⟩ := hrel
    have RB : Hid (Rb wr g (fs (A ++ x :: (Y ++ B))) rest) := hrb
    have K1 : Hid (Kp g w wr) := hk
    have H12 : Hid (Y1 ++ Y2 ++ Y3 = Y) := h12
    have HLO : Hid (∀ z ∈ Y1, lt z x) := hlo
    have HHI : Hid (∀ z ∈ Y3, lt x z) := hhi
    have hlY : Y1.length + Y2.length + Y3.length = Y.length := by have := congrArg List.length h12; simp at this; omega
    obtain ⟨i, hi⟩ : ∃ i, m + Y1.length = i := ⟨_, rfl⟩
    obtain ⟨j, hj⟩ : ∃ j, i + Y2.length = j := ⟨_, rfl⟩
    rw [hi, hj]
    have hjb : j ≤ b := by have := Hb.out; omega
    clear hrb hk h12 hlo hhi
    by_cases he : i = j
    · have hlt : ¬ ((i : Nat) : Int) < (j : Int) := by omega
      have e2 : Y2 = [] := List.length_eq_zero_iff.1 (by omega)
      subst e2
      have HI : Hid (a + Y1.length + 1 = i) := by unfold Hid; have := Hm.out; omega
      have SI : Hid (((i : Nat) : Int) - 1 = ((a + Y1.length : Nat) : Int)) := by unfold Hid; have := HI.out; omega
      have hib : i ≤ b := by omega
      clear hlY hj he
      have si : ((i : Nat) : Int) - 1 = ((a + Y1.length : Nat) : Int) := SI.out
      obtain ⟨t, ht⟩ : ∃ t, a + Y1.length = t := ⟨_, rfl⟩
      have Ht : Hid (a + Y1.length = t) := ht
      have htL : t < L := by have := HI.out; omega
      rw [ht] at si
      have wt : IntKind.i64.wrap ((t : Nat) : Int) = (t : Nat) := by rw [IntKind.wrap_i64]; omega
      have e12 : Y1 ++ [] ++ Y3 = Y1 ++ Y3 := by simp
      have H13 : Hid (Y1 ++ Y3 = Y) := by unfold Hid; rw [← e12]; exact H12.out
      clear ht e12 hi SI
      go_wp2_with fail
      go_loopw [13] (fun kv W => UpX A x Y1 (Y3 ++ B) g rest w a kv W) (fun kv _ => t - (intOf kv).toNat)
      case atStart =>
        refine ⟨[], Y1, by simp, by simp, ?_, K1.out⟩
        have h := RB.out
        rw [← H13.out] at h
        simpa [fs] using h
      case round =>
        obtain ⟨U, V, rfl, hUV, hrb, hk⟩ := hrel
        have R1 : Hid (Rb wr g (fs (A ++ U) ++ x.1 :: (fs V ++ fs (Y3 ++ B))) rest) := hrb
        have K2 : Hid (Kp g w wr) := hk
        have HUV : Hid (U ++ V = Y1) := hUV
        have hl : U.length + V.length = Y1.length := by have := congrArg List.length hUV; simpa using this
        obtain ⟨k, hk'⟩ : ∃ k, a + U.length = k := ⟨_, rfl⟩
        have Hk : Hid (a + U.length = k) := hk'
        rw [hk']
        clear hrb hk hUV
        cases V with
        | nil =>
          have hnk : ¬ ((k : Nat) : Int) < (t : Int) := by have := Ht.out; simp at hl; omega
          clear hk' hl
          go_wp2
          go_end0
          refine ⟨rfl, Y1 ++ x :: Y3, ?_, ?_, ?_, K2.out⟩
          · rw [← H13.out]; exact List.perm_middle
          · exact put_rise (by rw [H13.out]; exact HY.out.1) HLO.out HHI.out
          · have h := R1.out
            have e := HUV.out
            simp only [List.append_nil] at e
            rw [e] at h
            simpa [fs] using h
        | cons y V' =>
          have hnk : ((k : Nat) : Int) < (t : Int) := by have := Ht.out; simp at hl; omega
          have hkt : k < t := by omega
          have HKT : Hid (k < t ∧ t < L) := ⟨hkt, htL⟩
          have hP : (fs (A ++ U)).length = k := by have := Ha.out; simp [fs]; omega
          have RC : Hid (Rb wr g (fs (A ++ U) ++ x.1 :: y.1 :: (fs V' ++ fs (Y3 ++ B))) rest) := by have := R1.out; simpa [fs, Hid] using this
          have AF := at_far (fs (A ++ U)) [] (fs V' ++ fs (Y3 ++ B)) x.1 y.1
          simp only [List.nil_append, List.length_nil, Nat.add_zero] at AF
          have SW : Hid (_ = _) := swap_up (fs (A ++ U)) x.1 y.1 (fs V' ++ fs (Y3 ++ B))
          rw [hP] at AF SW
          have LL : Hid ((fs (A ++ U) ++ x.1 :: y.1 :: (fs V' ++ fs (Y3 ++ B))).length = L) := by
            have h1 := HL.out
            have h2 := congrArg List.length H13.out
            have h3 := Ha.out
            have h4 := hP
            unfold Hid
            simp at h2 hl ⊢
            simp at h4
            omega
          obtain ⟨x0, x1, x2, x3⟩ := RC.out.cells AF.1
          obtain ⟨y0, y1, y2, y3⟩ := RC.out.cells AF.2
          have f0 := RC.out.thaw (k * 4)
          have f1 := RC.out.thaw (k * 4 + 1)
          have f2 := RC.out.thaw (k * 4 + 2)
          have f3 := RC.out.thaw (k * 4 + 3)
          have f4 := RC.out.thaw ((k + 1) * 4)
          have f5 := RC.out.thaw ((k + 1) * 4 + 1)
          have f6 := RC.out.thaw ((k + 1) * 4 + 2)
          have f7 := RC.out.thaw ((k + 1) * 4 + 3)
          have kpos : ¬ ((k : Nat) : Int) + 1 < 0 := by omega
          have hki : ((k : Nat) : Int) + 1 < (L : Int) := by omega
          have hki0 : ((k : Nat) : Int) < (L : Int) := by omega
          clear AF hP hl hk' R1
          go_wp2_with fail
          go_region
          have rr := (RC.out.put (i := k) (by rw [LL.out]; have := HKT.out; omega) y.1).put (i := k + 1) (by rw [List.length_set, LL.out]; have := HKT.out; omega) x.1
          rw [SW.out] at rr
          have RR : Hid (Rb _ g (fs (A ++ U) ++ y.1 :: x.1 :: (fs V' ++ fs (Y3 ++ B))) rest) := rr
          have KR : Hid (Kp g w _) := (((((((K2.out.trans (Kp.set wr (k * 4) (.int .i64 y.1.player))).trans (Kp.set _ (k * 4 + 1) (.int .i64 y.1.unit))).trans (Kp.set _ (k * 4 + 2) (.int .i64 y.1.what))).trans (Kp.set _ (k * 4 + 3) (.int .i64 y.1.arg))).trans (Kp.set _ ((k + 1) * 4) (.int .i64 x.1.player))).trans (Kp.set _ ((k + 1) * 4 + 1) (.int .i64 x.1.unit))).trans (Kp.set _ ((k + 1) * 4 + 2) (.int .i64 x.1.what))).trans (Kp.set _ ((k + 1) * 4 + 3) (.int .i64 x.1.arg))
          clear rr
          go_wp2
          go_roundw
          case rel =>
            have h1 := Hk.out
            refine ⟨U ++ [y], V', by rw [← h1]; simp; omega, by rw [← HUV.out]; simp, ?_, KR.out.trans (Kp.of (Below.refl _ _).drew)⟩
            have h4 := RR.out.below (Below.refl _ _).drew RR.out.lt
            have e : fs (A ++ (U ++ [y])) ++ x.1 :: (fs V' ++ fs (Y3 ++ B)) = fs (A ++ U) ++ y.1 :: x.1 :: (fs V' ++ fs (Y3 ++ B)) := by simp [fs]
            rw [e]
            exact h4
          case measure => have := HKT.out; simp [intOf]; omega
    · have hlt : ((i : Nat) : Int) < (j : Int) := by omega
      obtain ⟨s, hs⟩ : ∃ s, i + j = s := ⟨_, rfl⟩
      obtain ⟨h, hh⟩ : ∃ h, s / 2 = h := ⟨_, rfl⟩
      have ss : ((i : Nat) : Int) + (j : Int) = (s : Nat) := by omega
      have ws : IntKind.i64.wrap ((s : Nat) : Int) = (s : Nat) := by rw [IntKind.wrap_i64]; omega
      have sh : ((s : Nat) : Int) / 2 = (h : Nat) := by omega
      have hih : i ≤ h ∧ h < j := by omega
      obtain ⟨P, y, R, hY2, hPl⟩ : ∃ P y R, Y2 = P ++ y :: R ∧ P.length = h - i := by
        have h1 : h - i < Y2.length := by omega
        exact ⟨Y2.take (h - i), Y2[h - i], Y2.drop (h - i + 1), by rw [List.getElem_cons_drop, List.take_append_drop], by rw [List.length_take]; omega⟩
      subst hY2
      have hhL : h < L := by omega
      have Hy : Hid ((fs (A ++ x :: (Y ++ B)))[h]? = some y.1) := by
        have e : A ++ x :: (Y ++ B) = (A ++ x :: (Y1 ++ P)) ++ y :: (R ++ Y3 ++ B) := by rw [← H12.out]; simp
        have e2 : h = (fs (A ++ x :: (Y1 ++ P))).length := by have := Ha.out; have := Hm.out; simp [fs]; omega
        unfold Hid
        rw [e, e2]
        simp [fs]
      have Hx : Hid ((fs (A ++ x :: (Y ++ B)))[a]? = some x.1) := by
        have e2 : a = (fs A).length := by have := Ha.out; simp [fs]; omega
        unfold Hid
        rw [e2]
        simp [fs]
      have FC : Hid (∀ W, Below wr.heap.size wr W → W.cell? ⟨g, a * 4, none⟩ = some (.int .i64 x.1.player) ∧ W.cell? ⟨g, a * 4 + 1, none⟩ = some (.int .i64 x.1.unit) ∧ W.cell? ⟨g, a * 4 + 2, none⟩ = some (.int .i64 x.1.what) ∧ W.cell? ⟨g, a * 4 + 3, none⟩ = some (.int .i64 x.1.arg) ∧ W.cell? ⟨g, h * 4, none⟩ = some (.int .i64 y.1.player) ∧ W.cell? ⟨g, h * 4 + 1, none⟩ = some (.int .i64 y.1.unit) ∧ W.cell? ⟨g, h * 4 + 2, none⟩ = some (.int .i64 y.1.what) ∧ W.cell? ⟨g, h * 4 + 3, none⟩ = some (.int .i64 y.1.arg)) := fun W hW => by
        have r := RB.out.below hW RB.out.lt
        obtain ⟨x0, x1, x2, x3⟩ := r.cells Hx.out
        obtain ⟨y0, y1, y2, y3⟩ := r.cells Hy.out
        exact ⟨x0, x1, x2, x3, y0, y1, y2, y3⟩
      have CC : Hid (∀ W, Below wr.heap.size wr W → Calls Tryd.prog 44 #[.agg #[.int .i64 y.1.player, .int .i64 y.1.unit, .int .i64 y.1.what, .int .i64 y.1.arg], .agg #[.int .i64 x.1.player, .int .i64 x.1.unit, .int .i64 x.1.what, .int .i64 x.1.arg]] W fun e w' => e = .returned (.int .i64 (cmpo y.1 x.1)) ∧ Below wr.heap.size wr w') := fun W hW => (compare_any y.1 x.1 W).mono fun e w' ⟨h1, h2⟩ => ⟨h1, hW.trans (h2.mono hW.size)⟩
      have ec := ecmp
      have hhi : ((h : Nat) : Int) < (L : Int) := by omega
      have IX : Hid (x.2 < y.2) := HY.out.2 y (by rw [← H12.out]; simp)
      have PW : Hid ((Y1 ++ (P ++ y :: R) ++ Y3).Pairwise lt) := by unfold Hid; rw [H12.out]; exact HY.out.1
      have HN : Hid (m + Y1.length = i ∧ i + P.length = h ∧ h + 1 + R.length = j) := ⟨hi, by omega, by simp at hj; omega⟩
      clear hi hj hh hs hih hPl hlY
      go_upto_region 5 with fail
      refine wp_region_class 10 (fun W => Below wr.heap.size wr W) (by kernel_rfl) (by kernel_rfl) (Below.refl _ _).drew ?_
      simp only [List.take_succ_cons, List.take_zero, List.drop_succ_cons, List.drop_zero]
      refine head_step (.func (.func 44) #[] #[]) (by go_simp) (fun W hW => by go_simp) ?_
      go_simp
      refine head_step (.slice (some ⟨g, 0, none⟩) L cap) (by go_simp) (fun W hW => by go_simp) ?_
      go_simp
      refine head_step (.int .i64 (h : Int)) (by go_simp) (fun W hW => by go_simp) ?_
      go_simp
      refine head_step (.pointer (some ⟨g, h * 4, none⟩)) (by go_simp) (fun W hW => by go_simp) ?_
      go_simp
      refine head_step (.agg #[.int .i64 y.1.player, .int .i64 y.1.unit, .int .i64 y.1.what, .int .i64 y.1.arg]) (by go_simp) (fun W hW => by obtain ⟨-, -, -, -, y0, y1, y2, y3⟩ := FC.out W hW; go_simp) ?_
      go_simp
      refine head_step (.slice (some ⟨g, 0, none⟩) L cap) (by go_simp) (fun W hW => by go_simp) ?_
      go_simp
      refine head_step (.int .i64 (a : Int)) (by go_simp) (fun W hW => by go_simp) ?_
      go_simp
      refine head_step (.pointer (some ⟨g, a * 4, none⟩)) (by go_simp) (fun W hW => by go_simp) ?_
      go_simp
      refine head_step (.agg #[.int .i64 x.1.player, .int .i64 x.1.unit, .int .i64 x.1.what, .int .i64 x.1.arg]) (by go_simp) (fun W hW => by obtain ⟨x0, x1, x2, x3, -⟩ := FC.out W hW; go_simp) ?_
      go_simp
      refine head_call (.int .i64 (cmpo y.1 x.1)) 44 #[.agg #[.int .i64 y.1.player, .int .i64 y.1.unit, .int .i64 y.1.what, .int .i64 y.1.arg], .agg #[.int .i64 x.1.player, .int .i64 x.1.unit, .int .i64 x.1.what, .int .i64 x.1.arg]] (by go_simp) (fun W hW => by go_simp) (fun W hW => CC.out W hW) ?_
      go_simp
      intro W hW
      have RW : Hid (Rb W g (fs (A ++ x :: (Y ++ B))) rest) := RB.out.below hW RB.out.lt
      have KW : Hid (Kp g w W) := K1.out.trans (Kp.of hW)
      by_cases hc : cmpo y.1 x.1 < 0
      · have LX : Hid (lt y x) := (ask_lt IX.out).1 ((klt_iff _ _).1 hc)
        clear hW FC CC
        go_wp2
        go_roundw
        case rel =>
          obtain ⟨n1, n2, n3⟩ := HN.out
          refine ⟨Y1 ++ (P ++ [y]), R, Y3, ?_, ?_, by rw [← H12.out]; simp, fun z hz => ?_, HHI.out, RW.out, KW.out⟩
          · congr 1; simp; omega
          · congr 1; simp; omega
          · rcases List.mem_append.1 hz with hz | hz
            · exact HLO.out z hz
            · rcases List.mem_append.1 hz with hz | hz
              · have h1 := PW.out
                rw [List.append_assoc, List.pairwise_append] at h1
                have h2 := h1.2.1
                rw [List.append_assoc, List.pairwise_append] at h2
                exact lt_trans (h2.2.2 z hz y (by simp)) LX.out
              · simp at hz
                subst hz
                exact LX.out
        case measure => have := HN.out; simp [intOf]; omega
      · have LX : Hid (lt x y) := (ask_ge IX.out).1 (fun h => hc ((klt_iff _ _).2 h))
        clear hW FC CC
        go_wp2
        go_roundw
        case rel =>
          obtain ⟨n1, n2, n3⟩ := HN.out
          refine ⟨Y1, P, y :: (R ++ Y3), ?_, ?_, by rw [← H12.out]; simp, HLO.out, fun z hz => ?_, RW.out, KW.out⟩
          · congr 1; omega
          · congr 1; omega
          · rcases List.mem_cons.1 hz with rfl | hz
            · exact LX.out
            · have h1 := PW.out
              have e : Y1 ++ (P ++ y :: R) ++ Y3 = (Y1 ++ P) ++ y :: (R ++ Y3) := by simp
              rw [e, List.pairwise_append] at h1
              exact lt_trans LX.out ((List.pairwise_cons.1 h1.2.1).1 z hz)
        case measure => have := HN.out; simp [intOf]; omega
end Go.Proofs.YtbomnicnoanjlaaDoor

namespace Go.Proofs.YtbomnicnoanjlaaDoor
open Go.RowKit Go.Proofs.YtbomnicnoanjlaaDoor.So
set_option linter.unusedVariables false

/-- what is looked for among the X. -/
def BsY (A X : List T) (y : T) (B : List T) (g : Nat) (rest : List Value) (w : World) (a : Nat) (iv jv : Value) (W : World) : Prop := ∃ (X1 X2 X3 : List T), iv = .int .i64 ((a + X1.length : Nat) : Int) ∧ jv = .int .i64 ((a + X1.length + X2.length : Nat) : Int) ∧ X1 ++ X2 ++ X3 = X ∧ (∀ z ∈ X1, lt z y) ∧ (∀ z ∈ X3, lt y z) ∧ Rb W g (fs (A ++ X ++ y :: B)) rest ∧ Kp g w W
/-- it goes down. -/
def DnY (AX : List T) (y : T) (X3 B : List T) (g : Nat) (rest : List Value) (w : World) (i : Nat) (kv : Value) (W : World) : Prop := ∃ (U V : List T), kv = .int .i64 ((i + U.length : Nat) : Int) ∧ U ++ V = X3 ∧ Rb W g (fs (AX ++ U) ++ y.1 :: (fs V ++ fs B)) rest ∧ Kp g w W
set_option maxRecDepth 100000 in
set_option maxHeartbeats 8000000 in
theorem sym_last (A X : List T) (y : T) (B : List T) (g cap L a m b : Nat) (rest : List Value) (w : World) (hX : X.Pairwise lt) (hpl : ∀ x ∈ X, x.2 < y.2) (hX1 : X.length ≠ 1) (hr : Rb w g (fs (A ++ X ++ y :: B)) rest) (hL : A.length + X.length + 1 + B.length = L) (hn : L ≤ 1000) (ha : A.length = a) (hm : a + X.length = m) (hb : m + 1 = b) :
    Calls Tryd.prog 53 #[.slice (some ⟨g, 0, none⟩) L cap, .int .i64 (a : Nat), .int .i64 (m : Nat), .int .i64 (b : Nat), .func (.func 44) #[] #[]] w
      (MergeSays A (X ++ [y]) B g rest w) := by
  have R0 : Hid (Rb w g (fs (A ++ X ++ y :: B)) rest) := hr
  have HL : Hid (A.length + X.length + 1 + B.length = L) := hL
  have Ha : Hid (A.length = a) := ha
  have Hm : Hid (a + X.length = m) := hm
  have Hb : Hid (m + 1 = b) := hb
  have HX : Hid (X.Pairwise lt ∧ ∀ x ∈ X, x.2 < y.2) := ⟨hX, hpl⟩
  have hbL : b ≤ L := by omega
  obtain ⟨d, hd⟩ : ∃ d, X.length = d := ⟨_, rfl⟩
  have smi : ((m : Nat) : Int) - (a : Int) = (d : Nat) := by omega
  have wd : IntKind.i64.wrap ((d : Nat) : Int) = (d : Nat) := by rw [IntKind.wrap_i64]; omega
  have d1 : (((d : Nat) : Int) == 1) = false := by have : ¬ ((d : Nat) : Int) = 1 := by omega
                                                   simpa using this
  have sbm : ((b : Nat) : Int) - (m : Int) = 1 := by omega
  have hmL : ((m : Nat) : Int) < (L : Int) := by omega
  clear hr hL hX hpl ha hm hb hd hX1
  go_enter Tryd.func53, Tryd.ntmps53
  go_wp2
  go_loopw [14, 15] (fun iv jv W => BsY A X y B g rest w a iv jv W) (fun iv jv _ => (intOf jv).toNat - (intOf iv).toNat)
  case atStart =>
    refine ⟨[], X, [], by simp, by have := Hm.out; simp; omega, by simp, by simp, by simp, R0.out, Kp.refl _ _⟩
  case round =>
    obtain ⟨X1, X2, X3, rfl, rfl, h12, hlo, hhi, hrb, hk⟩ := hrel
    have RB : Hid (Rb wr g (fs (A ++ X ++ y :: B)) rest) := hrb
    have K1 : Hid (Kp g w wr) := hk
    have H12 : Hid (X1 ++ X2 ++ X3 = X) := h12
    have HLO : Hid (∀ z ∈ X1, lt z y) := hlo
    have HHI : Hid (∀ z ∈ X3, lt y z) := hhi
    have hlY : X1.length + X2.length + X3.length = X.length := by have := congrArg List.length h12; simp at this; omega
    obtain ⟨i, hi⟩ : ∃ i, a + X1.length = i := ⟨_, rfl⟩
    obtain ⟨j, hj⟩ : ∃ j, i + X2.length = j := ⟨_, rfl⟩
    rw [hi, hj]
    have hjb : j ≤ m := by have := Hm.out; omega
    have hmL2 : m < L := by have := Hb.out; omega
    clear hrb hk h12 hlo hhi
    by_cases he : i = j
    · have hlt : ¬ ((i : Nat) : Int) < (j : Int) := by omega
      have e2 : X2 = [] := List.length_eq_zero_iff.1 (by omega)
      subst e2
      have HI : Hid (a + X1.length = i) := hi
      have e12 : X1 ++ [] ++ X3 = X1 ++ X3 := by simp
      have H13 : Hid (X1 ++ X3 = X) := by unfold Hid; rw [← e12]; exact H12.out
      have HM2 : Hid (i + X3.length = m) := by unfold Hid; have := Hm.out; simp at hlY; omega
      clear hlY hj he e12 hi
      go_wp2_with fail
      go_loopw [17] (fun kv W => DnY (A ++ X1) y X3 B g rest w i kv W) (fun kv _ => (intOf kv).toNat)
      case atStart =>
        refine ⟨X3, [], by rw [HM2.out], by simp, ?_, K1.out⟩
        have h := RB.out
        rw [← H13.out] at h
        simpa [fs] using h
      case round =>
        obtain ⟨U, V, rfl, hUV, hrb, hk⟩ := hrel
        have R1 : Hid (Rb wr g (fs ((A ++ X1) ++ U) ++ y.1 :: (fs V ++ fs B)) rest) := hrb
        have K2 : Hid (Kp g w wr) := hk
        have HUV : Hid (U ++ V = X3) := hUV
        have hl : U.length + V.length = X3.length := by have := congrArg List.length hUV; simpa using this
        clear hrb hk hUV
        rcases List.eq_nil_or_concat U with h0 | ⟨U', z, h0⟩
        · subst h0
          have hnk : ¬ ((i : Nat) : Int) < (i : Int) := by omega
          simp only [List.length_nil, Nat.add_zero]
          clear hl
          go_wp2
          go_end0
          refine ⟨rfl, X1 ++ y :: X3, ?_, ?_, ?_, K2.out⟩
          · rw [← H13.out]
            exact List.perm_middle.trans (List.perm_append_singleton y _).symm
          · exact put_rise (by rw [H13.out]; exact HX.out.1) HLO.out HHI.out
          · have h := R1.out
            have e := HUV.out
            simp only [List.nil_append] at e
            rw [e] at h
            simpa [fs] using h
        · subst h0
          obtain ⟨k, hk⟩ : ∃ k, i + U'.length = k := ⟨_, rfl⟩
          have hk1 : i + (U'.concat z).length = k + 1 := by rw [← hk]; simp; omega
          have HK : Hid (i + U'.length = k) := hk
          have hkm : k + 1 ≤ m := by have := HM2.out; omega
          have e1 : ((i + (U'.concat z).length : Nat) : Int) = (k : Int) + 1 := by rw [hk1]; rfl
          rw [e1]
          have hnk : ((i : Nat) : Int) < (k : Int) + 1 := by omega
          have HKT : Hid (k + 1 ≤ m ∧ m < L) := ⟨hkm, hmL2⟩
          have hP : (fs ((A ++ X1) ++ U')).length = k := by have := Ha.out; have := HI.out; simp [fs]; omega
          have RC : Hid (Rb wr g (fs ((A ++ X1) ++ U') ++ z.1 :: y.1 :: (fs V ++ fs B)) rest) := by have := R1.out; simpa [fs, Hid] using this
          have AF := at_far (fs ((A ++ X1) ++ U')) [] (fs V ++ fs B) z.1 y.1
          simp only [List.nil_append, List.length_nil, Nat.add_zero] at AF
          have SW : Hid (_ = _) := swap_two (fs ((A ++ X1) ++ U')) z.1 y.1 (fs V ++ fs B)
          rw [hP] at AF SW
          have LL : Hid ((fs ((A ++ X1) ++ U') ++ z.1 :: y.1 :: (fs V ++ fs B)).length = L) := by
            have h1 := HL.out
            have h2 := congrArg List.length H13.out
            have h3 := Ha.out
            have h4 := hP
            unfold Hid
            simp at h2 hl ⊢
            simp at h4
            omega
          obtain ⟨x0, x1, x2, x3⟩ := RC.out.cells AF.1
          obtain ⟨y0, y1, y2, y3⟩ := RC.out.cells AF.2
          have f0 := RC.out.thaw (k * 4)
          have f1 := RC.out.thaw (k * 4 + 1)
          have f2 := RC.out.thaw (k * 4 + 2)
          have f3 := RC.out.thaw (k * 4 + 3)
          have f4 := RC.out.thaw ((k + 1) * 4)
          have f5 := RC.out.thaw ((k + 1) * 4 + 1)
          have f6 := RC.out.thaw ((k + 1) * 4 + 2)
          have f7 := RC.out.thaw ((k + 1) * 4 + 3)
          have kpos : ¬ ((k : Nat) : Int) + 1 < 0 := by omega
          have hki : ((k : Nat) : Int) + 1 < (L : Int) := by omega
          have hki0 : ((k : Nat) : Int) < (L : Int) := by omega
          have kk1 : ((k : Nat) : Int) + 1 - 1 = k := by omega
          have kw : IntKind.i64.wrap ((k : Nat) : Int) = k := by rw [IntKind.wrap_i64]; omega
          clear AF hP hl hk hk1 R1 e1
          go_wp2_with fail
          go_region
          have rr := (RC.out.put (i := k + 1) (by rw [LL.out]; have := HKT.out; omega) z.1).put (i := k) (by rw [List.length_set, LL.out]; have := HKT.out; omega) y.1
          rw [SW.out] at rr
          have RR : Hid (Rb _ g (fs ((A ++ X1) ++ U') ++ y.1 :: z.1 :: (fs V ++ fs B)) rest) := rr
          have KR : Hid (Kp g w _) := (((((((K2.out.trans (Kp.set wr ((k + 1) * 4) (.int .i64 z.1.player))).trans (Kp.set _ ((k + 1) * 4 + 1) (.int .i64 z.1.unit))).trans (Kp.set _ ((k + 1) * 4 + 2) (.int .i64 z.1.what))).trans (Kp.set _ ((k + 1) * 4 + 3) (.int .i64 z.1.arg))).trans (Kp.set _ (k * 4) (.int .i64 y.1.player))).trans (Kp.set _ (k * 4 + 1) (.int .i64 y.1.unit))).trans (Kp.set _ (k * 4 + 2) (.int .i64 y.1.what))).trans (Kp.set _ (k * 4 + 3) (.int .i64 y.1.arg))
          clear rr
          go_wp2
          go_roundw
          case rel =>
            have h1 := HK.out
            refine ⟨U', z :: V, by rw [h1], by rw [← HUV.out]; simp, ?_, KR.out.trans (Kp.of (Below.refl _ _).drew)⟩
            have h4 := RR.out.below (Below.refl _ _).drew RR.out.lt
            exact h4
          case measure => simp [intOf]
    · have hlt : ((i : Nat) : Int) < (j : Int) := by omega
      obtain ⟨s, hs⟩ : ∃ s, i + j = s := ⟨_, rfl⟩
      obtain ⟨h, hh⟩ : ∃ h, s / 2 = h := ⟨_, rfl⟩
      have ss : ((i : Nat) : Int) + (j : Int) = (s : Nat) := by omega
      have ws : IntKind.i64.wrap ((s : Nat) : Int) = (s : Nat) := by rw [IntKind.wrap_i64]; omega
      have sh : ((s : Nat) : Int) / 2 = (h : Nat) := by omega
      have hih : i ≤ h ∧ h < j := by omega
      obtain ⟨P, x, R, hY2, hPl⟩ : ∃ P x R, X2 = P ++ x :: R ∧ P.length = h - i := by
        have h1 : h - i < X2.length := by omega
        exact ⟨X2.take (h - i), X2[h - i], X2.drop (h - i + 1), by rw [List.getElem_cons_drop, List.take_append_drop], by rw [List.length_take]; omega⟩
      subst hY2
      have hhL : h < L := by omega
      have Hx : Hid ((fs (A ++ X ++ y :: B))[h]? = some x.1) := by
        have e : A ++ X ++ y :: B = (A ++ (X1 ++ P)) ++ x :: (R ++ X3 ++ y :: B) := by rw [← H12.out]; simp
        have e2 : h = (fs (A ++ (X1 ++ P))).length := by have := Ha.out; simp [fs]; omega
        unfold Hid
        rw [e, e2]
        simp [fs]
      have Hy : Hid ((fs (A ++ X ++ y :: B))[m]? = some y.1) := by
        have e2 : m = (fs (A ++ X)).length := by have := Ha.out; have := Hm.out; simp [fs]; omega
        unfold Hid
        rw [e2]
        simp [fs]
      have FC : Hid (∀ W, Below wr.heap.size wr W → W.cell? ⟨g, h * 4, none⟩ = some (.int .i64 x.1.player) ∧ W.cell? ⟨g, h * 4 + 1, none⟩ = some (.int .i64 x.1.unit) ∧ W.cell? ⟨g, h * 4 + 2, none⟩ = some (.int .i64 x.1.what) ∧ W.cell? ⟨g, h * 4 + 3, none⟩ = some (.int .i64 x.1.arg) ∧ W.cell? ⟨g, m * 4, none⟩ = some (.int .i64 y.1.player) ∧ W.cell? ⟨g, m * 4 + 1, none⟩ = some (.int .i64 y.1.unit) ∧ W.cell? ⟨g, m * 4 + 2, none⟩ = some (.int .i64 y.1.what) ∧ W.cell? ⟨g, m * 4 + 3, none⟩ = some (.int .i64 y.1.arg)) := fun W hW => by
        have r := RB.out.below hW RB.out.lt
        obtain ⟨x0, x1, x2, x3⟩ := r.cells Hx.out
        obtain ⟨y0, y1, y2, y3⟩ := r.cells Hy.out
        exact ⟨x0, x1, x2, x3, y0, y1, y2, y3⟩
      have CC : Hid (∀ W, Below wr.heap.size wr W → Calls Tryd.prog 44 #[.agg #[.int .i64 y.1.player, .int .i64 y.1.unit, .int .i64 y.1.what, .int .i64 y.1.arg], .agg #[.int .i64 x.1.player, .int .i64 x.1.unit, .int .i64 x.1.what, .int .i64 x.1.arg]] W fun e w' => e = .returned (.int .i64 (cmpo y.1 x.1)) ∧ Below wr.heap.size wr w') := fun W hW => (compare_any y.1 x.1 W).mono fun e w' ⟨h1, h2⟩ => ⟨h1, hW.trans (h2.mono hW.size)⟩
      have ec := ecmp
      have hhi : ((h : Nat) : Int) < (L : Int) := by omega
      have IX : Hid (x.2 < y.2) := HX.out.2 x (by rw [← H12.out]; simp)
      have PW : Hid ((X1 ++ (P ++ x :: R) ++ X3).Pairwise lt) := by unfold Hid; rw [H12.out]; exact HX.out.1
      have HN : Hid (a + X1.length = i ∧ i + P.length = h ∧ h + 1 + R.length = j) := ⟨hi, by omega, by simp at hj; omega⟩
      clear hi hj hh hs hih hPl hlY
      go_upto_region 17 with fail
      refine wp_region_class 10 (fun W => Below wr.heap.size wr W) (by kernel_rfl) (by kernel_rfl) (Below.refl _ _).drew ?_
      simp only [List.take_succ_cons, List.take_zero, List.drop_succ_cons, List.drop_zero]
      refine head_step (.func (.func 44) #[] #[]) (by go_simp) (fun W hW => by go_simp) ?_
      go_simp
      refine head_step (.slice (some ⟨g, 0, none⟩) L cap) (by go_simp) (fun W hW => by go_simp) ?_
      go_simp
      refine head_step (.int .i64 (m : Int)) (by go_simp) (fun W hW => by go_simp) ?_
      go_simp
      refine head_step (.pointer (some ⟨g, m * 4, none⟩)) (by go_simp) (fun W hW => by go_simp) ?_
      go_simp
      refine head_step (.agg #[.int .i64 y.1.player, .int .i64 y.1.unit, .int .i64 y.1.what, .int .i64 y.1.arg]) (by go_simp) (fun W hW => by obtain ⟨-, -, -, -, y0, y1, y2, y3⟩ := FC.out W hW; go_simp) ?_
      go_simp
      refine head_step (.slice (some ⟨g, 0, none⟩) L cap) (by go_simp) (fun W hW => by go_simp) ?_
      go_simp
      refine head_step (.int .i64 (h : Int)) (by go_simp) (fun W hW => by go_simp) ?_
      go_simp
      refine head_step (.pointer (some ⟨g, h * 4, none⟩)) (by go_simp) (fun W hW => by go_simp) ?_
      go_simp
      refine head_step (.agg #[.int .i64 x.1.player, .int .i64 x.1.unit, .int .i64 x.1.what, .int .i64 x.1.arg]) (by go_simp) (fun W hW => by obtain ⟨x0, x1, x2, x3, -⟩ := FC.out W hW; go_simp) ?_
      go_simp
      refine head_call (.int .i64 (cmpo y.1 x.1)) 44 #[.agg #[.int .i64 y.1.player, .int .i64 y.1.unit, .int .i64 y.1.what, .int .i64 y.1.arg], .agg #[.int .i64 x.1.player, .int .i64 x.1.unit, .int .i64 x.1.what, .int .i64 x.1.arg]] (by go_simp) (fun W hW => by go_simp) (fun W hW => CC.out W hW) ?_
      go_simp
      intro W hW
      have RW : Hid (Rb W g (fs (A ++ X ++ y :: B)) rest) := RB.out.below hW RB.out.lt
      have KW : Hid (Kp g w W) := K1.out.trans (Kp.of hW)
      by_cases hc : cmpo y.1 x.1 < 0
      · have LX : Hid (lt y x) := (ask_lt IX.out).1 ((klt_iff _ _).1 hc)
        clear hW FC CC
        go_wp2
        go_roundw
        case rel =>
          obtain ⟨n1, n2, n3⟩ := HN.out
          refine ⟨X1, P, x :: (R ++ X3), ?_, ?_, by rw [← H12.out]; simp, HLO.out, fun z hz => ?_, RW.out, KW.out⟩
          · congr 1; omega
          · congr 1; omega
          · rcases List.mem_cons.1 hz with rfl | hz
            · exact LX.out
            · have h1 := PW.out
              have e : X1 ++ (P ++ x :: R) ++ X3 = (X1 ++ P) ++ x :: (R ++ X3) := by simp
              rw [e, List.pairwise_append] at h1
              exact lt_trans LX.out ((List.pairwise_cons.1 h1.2.1).1 z hz)
        case measure => have := HN.out; simp [intOf]; omega
      · have LX : Hid (lt x y) := (ask_ge IX.out).1 (fun h => hc ((klt_iff _ _).2 h))
        clear hW FC CC
        go_wp2
        go_roundw
        case rel =>
          obtain ⟨n1, n2, n3⟩ := HN.out
          refine ⟨X1 ++ (P ++ [x]), R, X3, ?_, ?_, by rw [← H12.out]; simp, fun z hz => ?_, HHI.out, RW.out, KW.out⟩
          · congr 1; simp; omega
          · congr 1; simp; omega
          · rcases List.mem_append.1 hz with hz | hz
            · exact HLO.out z hz
            · rcases List.mem_append.1 hz with hz | hz
              · have h1 := PW.out
                rw [List.append_assoc, List.pairwise_append] at h1
                have h2 := h1.2.1
                rw [List.append_assoc, List.pairwise_append] at h2
                exact lt_trans (h2.2.2 z hz x (by simp)) LX.out
              · simp at hz
                subst hz
                exact LX.out
        case measure => have := HN.out; simp [intOf]; omega
end Go.Proofs.YtbomnicnoanjlaaDoor

namespace Go.Proofs.YtbomnicnoanjlaaDoor
namespace So
theorem rise_lt {X : List T} (h : X.Pairwise lt) {i j : Nat} (hij : i < j) (hj : j < X.length) : lt (X[i]'(by omega)) X[j] := List.pairwise_iff_getElem.1 h i j (by omega) hj hij
theorem rise_le {X : List T} (h : X.Pairwise lt) {i j : Nat} (hij : i ≤ j) (hj : j < X.length) {z : T} (hz : lt X[j] z) : lt (X[i]'(by omega)) z := by
  rcases Nat.lt_or_ge i j with h1 | h1
  · exact lt_trans (rise_lt h h1 hj) hz
  · have : i = j := by omega
    subst this
    exact hz
theorem rise_ge {X : List T} (h : X.Pairwise lt) {i j : Nat} (hij : i ≤ j) (hj : j < X.length) {z : T} (hz : lt z (X[i]'(by omega))) : lt z X[j] := by
  rcases Nat.lt_or_ge i j with h1 | h1
  · exact lt_trans hz (rise_lt h h1 hj)
  · have : i = j := by omega
    subst this
    exact hz
/-- the front of both lies before the rest of both. -/
theorem cut_rise {X Y : List T} (hX : X.Pairwise lt) (hY : Y.Pairwise lt) {k l : Nat} (hk : k ≤ X.length) (hl : l ≤ Y.length)
    (h1 : 0 < k → l < Y.length → ∃ x y, X[k - 1]? = some x ∧ Y[l]? = some y ∧ lt x y) (h2 : k < X.length → 0 < l → ∃ x y, X[k]? = some x ∧ Y[l - 1]? = some y ∧ lt y x) :
    ∀ p ∈ X.take k ++ Y.take l, ∀ q ∈ X.drop k ++ Y.drop l, lt p q := by
  intro p hp q hq
  rcases List.mem_append.1 hp with hp | hp <;> rcases List.mem_append.1 hq with hq | hq
  · have := hX
    rw [← List.take_append_drop k X, List.pairwise_append] at this
    exact this.2.2 p hp q hq
  · obtain ⟨i, hi, rfl⟩ := List.mem_iff_getElem.1 hp
    obtain ⟨j, hj, rfl⟩ := List.mem_iff_getElem.1 hq
    simp at hi hj
    obtain ⟨x, y, e1, e2, h⟩ := h1 (by omega) (by omega)
    obtain ⟨g1, rfl⟩ := List.getElem?_eq_some_iff.1 e1
    obtain ⟨g2, rfl⟩ := List.getElem?_eq_some_iff.1 e2
    simp only [List.getElem_take, List.getElem_drop]
    exact rise_ge hY (by omega) (by omega) (rise_le hX (by omega) g1 h)
  · obtain ⟨i, hi, rfl⟩ := List.mem_iff_getElem.1 hp
    obtain ⟨j, hj, rfl⟩ := List.mem_iff_getElem.1 hq
    simp at hi hj
    obtain ⟨x, y, e1, e2, h⟩ := h2 (by omega) (by omega)
    obtain ⟨g1, rfl⟩ := List.getElem?_eq_some_iff.1 e1
    obtain ⟨g2, rfl⟩ := List.getElem?_eq_some_iff.1 e2
    simp only [List.getElem_take, List.getElem_drop]
    exact rise_ge hX (by omega) (by omega) (rise_le hY (by omega) g2 h)
  · have := hY
    rw [← List.take_append_drop l Y, List.pairwise_append] at this
    exact this.2.2 p hp q hq
/-- in the whole list. -/
theorem in_x (A X Y B : List T) {a i : Nat} (ha : A.length = a) (h0 : a ≤ i) (h1 : i < a + X.length) : (A ++ X ++ Y ++ B)[i]? = X[i - a]? := by
  subst ha
  rw [List.append_assoc, List.append_assoc, List.getElem?_append_right h0, List.getElem?_append_left (by omega)]
theorem in_y (A X Y B : List T) {m i : Nat} (hm : A.length + X.length = m) (h0 : m ≤ i) (h1 : i < m + Y.length) : (A ++ X ++ Y ++ B)[i]? = Y[i - m]? := by
  subst hm
  rw [List.append_assoc, List.getElem?_append_right (by simpa using h0), List.getElem?_append_left (by simp; omega)]
  simp
end So
end Go.Proofs.YtbomnicnoanjlaaDoor

namespace Go.Proofs.YtbomnicnoanjlaaDoor
namespace So
set_option linter.unusedVariables false
theorem cut_here (A X Y B : List T) {a m b n mid lo hi S : Nat} (hX : X.Pairwise lt) (hY : Y.Pairwise lt) (ha : A.length = a) (hm : a + X.length = m) (hb : m + Y.length = b) (hn : mid + m = n) (h1 : a ≤ lo) (h2 : lo ≤ S) (h3 : S ≤ hi) (h4 : hi ≤ m) (h5 : hi ≤ mid) (h6 : lo = a ∨ lo + b = n) (h7 : hi = m ∨ hi = mid) (h8 : n ≤ lo + b)
    (F1 : lo < S → ∃ x y, (A ++ X ++ Y ++ B)[S - 1]? = some x ∧ (A ++ X ++ Y ++ B)[n - S]? = some y ∧ lt x y) (F2 : S < hi → ∃ x y, (A ++ X ++ Y ++ B)[S]? = some x ∧ (A ++ X ++ Y ++ B)[n - 1 - S]? = some y ∧ lt y x) :
    ∃ X1 X2 Y1 Y2, X = X1 ++ X2 ∧ Y = Y1 ++ Y2 ∧ a + X1.length = S ∧ S + X2.length = m ∧ S + Y1.length = mid ∧ (m + Y1.length) + Y2.length = b ∧ ∀ p ∈ X1 ++ Y1, ∀ q ∈ X2 ++ Y2, lt p q := by
  refine ⟨X.take (S - a), X.drop (S - a), Y.take (mid - S), Y.drop (mid - S), (List.take_append_drop _ _).symm, (List.take_append_drop _ _).symm, ?_, ?_, ?_, ?_, ?_⟩
  · rw [List.length_take]; omega
  · rw [List.length_drop]; omega
  · rw [List.length_take]; omega
  · rw [List.length_take, List.length_drop]; omega
  · refine cut_rise hX hY (by omega) (by omega) (fun k0 l0 => ?_) (fun k0 l0 => ?_)
    · obtain ⟨x, y, e1, e2, h⟩ := F1 (by omega)
      rw [in_x A X Y B ha (by omega) (by omega)] at e1
      rw [in_y A X Y B (m := m) (by omega) (by omega) (by omega)] at e2
      exact ⟨x, y, by rw [← e1]; congr 1; omega, by rw [← e2]; congr 1; omega, h⟩
    · obtain ⟨x, y, e1, e2, h⟩ := F2 (by omega)
      rw [in_x A X Y B ha (by omega) (by omega)] at e1
      rw [in_y A X Y B (m := m) (by omega) (by omega) (by omega)] at e2
      exact ⟨x, y, e1, by rw [← e2]; congr 1; omega, h⟩
theorem rise_left {X1 X2 : List T} (h : (X1 ++ X2).Pairwise lt) : X1.Pairwise lt := (List.pairwise_append.1 h).1
theorem rise_right {X1 X2 : List T} (h : (X1 ++ X2).Pairwise lt) : X2.Pairwise lt := (List.pairwise_append.1 h).2.1
theorem end_rise {X1 X2 Y1 Y2 Z1 Z2 : List T} (p1 : Z1.Perm (X1 ++ Y1)) (p2 : Z2.Perm (X2 ++ Y2)) (r1 : Z1.Pairwise lt) (r2 : Z2.Pairwise lt) (h : ∀ p ∈ X1 ++ Y1, ∀ q ∈ X2 ++ Y2, lt p q) :
    (Z1 ++ Z2).Perm ((X1 ++ X2) ++ (Y1 ++ Y2)) ∧ (Z1 ++ Z2).Pairwise lt := by
  refine ⟨?_, cat_rise r1 r2 fun x hx y hy => h x (p1.mem_iff.1 hx) y (p2.mem_iff.1 hy)⟩
  refine (p1.append p2).trans ?_
  have e : (X1 ++ Y1 ++ (X2 ++ Y2)).Perm (X1 ++ (Y1 ++ X2) ++ Y2) := by simp
  refine e.trans ?_
  have e2 : (X1 ++ (Y1 ++ X2) ++ Y2).Perm (X1 ++ (X2 ++ Y1) ++ Y2) := ((List.perm_append_comm).append_left X1).append_right Y2
  refine e2.trans ?_
  simp
end So
end Go.Proofs.YtbomnicnoanjlaaDoor

namespace Go.Proofs.YtbomnicnoanjlaaDoor
open Go.RowKit Go.Proofs.YtbomnicnoanjlaaDoor.So
set_option linter.unusedVariables false

/-- where the two are to be cut. -/
def SyI (D : List T) (g : Nat) (rest : List Value) (w : World) (n lo hi : Nat) (sv rv : Value) (W : World) : Prop := ∃ (st r : Nat), sv = .int .i64 (st : Nat) ∧ rv = .int .i64 (r : Nat) ∧ lo ≤ st ∧ st ≤ r ∧ r ≤ hi ∧ (lo < st → ∃ x y, D[st - 1]? = some x ∧ D[n - st]? = some y ∧ lt x y) ∧ (r < hi → ∃ x y, D[r]? = some x ∧ D[n - 1 - r]? = some y ∧ lt y x) ∧ Rb W g (fs D) rest ∧ Kp g w W
theorem fs_at {D : List T} {i : Nat} {x : T} (h : D[i]? = some x) : (fs D)[i]? = some x.1 := by simp [fs, h]
theorem combos (X1 X2 Y1 Y2 : List T) (h1 : 0 < X1.length + X2.length) (h2 : 0 < Y1.length + Y2.length) (h3 : 0 < X1.length + Y1.length) (h4 : 0 < X2.length + Y2.length) :
    (X1 ≠ [] ∧ X2 ≠ [] ∧ Y1 ≠ [] ∧ Y2 ≠ []) ∨ (X1 = [] ∧ X2 ≠ [] ∧ Y1 ≠ [] ∧ Y2 ≠ []) ∨ (X1 ≠ [] ∧ X2 = [] ∧ Y1 ≠ [] ∧ Y2 ≠ []) ∨ (X1 ≠ [] ∧ X2 ≠ [] ∧ Y1 = [] ∧ Y2 ≠ []) ∨ (X1 ≠ [] ∧ X2 ≠ [] ∧ Y1 ≠ [] ∧ Y2 = []) ∨ (X1 = [] ∧ X2 ≠ [] ∧ Y1 ≠ [] ∧ Y2 = []) ∨ (X1 ≠ [] ∧ X2 = [] ∧ Y1 = [] ∧ Y2 ≠ []) := by
  rcases X1 with _ | ⟨_, _⟩ <;> rcases X2 with _ | ⟨_, _⟩ <;> rcases Y1 with _ | ⟨_, _⟩ <;> rcases Y2 with _ | ⟨_, _⟩ <;> simp at *
def SymIH (N g cap L : Nat) (rest : List Value) : Prop := ∀ (A X Y B : List T) (a m b : Nat) (w : World), X.length + Y.length ≤ N → X ≠ [] → Y ≠ [] → X.Pairwise lt → Y.Pairwise lt → (∀ x ∈ X, ∀ y ∈ Y, x.2 < y.2) → Rb w g (fs (A ++ X ++ Y ++ B)) rest → A.length + X.length + Y.length + B.length = L → A.length = a → a + X.length = m → m + Y.length = b →
    Calls Tryd.prog 53 #[.slice (some ⟨g, 0, none⟩) L cap, .int .i64 (a : Nat), .int .i64 (m : Nat), .int .i64 (b : Nat), .func (.func 44) #[] #[]] w (MergeSays A (X ++ Y) B g rest w)
theorem pos_of_ne {l : List T} (h : l ≠ []) : 0 < l.length := List.length_pos_iff.2 h
end Go.Proofs.YtbomnicnoanjlaaDoor

namespace Go.Proofs.YtbomnicnoanjlaaDoor
open Go.RowKit Go.Proofs.YtbomnicnoanjlaaDoor.So
set_option linter.unusedVariables false

set_option maxRecDepth 100000 in
set_option maxHeartbeats 64000000 in
theorem sym_lo (N : Nat) (A X Y B : List T) (g cap L a m b : Nat) (rest : List Value) (w : World) (ih : SymIH N g cap L rest) (hN : X.length + Y.length ≤ N + 1) (lx : 2 ≤ X.length) (ly : 2 ≤ Y.length) (hX : X.Pairwise lt) (hY : Y.Pairwise lt) (hpl : ∀ x ∈ X, ∀ y ∈ Y, x.2 < y.2) (hr : Rb w g (fs (A ++ X ++ Y ++ B)) rest) (hL : A.length + X.length + Y.length + B.length = L) (hn : L ≤ 1000) (ha : A.length = a) (hm : a + X.length = m) (hb : m + Y.length = b) (hmm : (a + b) / 2 < m) :
    Calls Tryd.prog 53 #[.slice (some ⟨g, 0, none⟩) L cap, .int .i64 (a : Nat), .int .i64 (m : Nat), .int .i64 (b : Nat), .func (.func 44) #[] #[]] w (MergeSays A (X ++ Y) B g rest w) := by
  have IH : Hid (SymIH N g cap L rest) := ih
  have R0 : Hid (Rb w g (fs (A ++ X ++ Y ++ B)) rest) := hr
  have HN : Hid (X.length + Y.length ≤ N + 1) := hN
  have HL : Hid (A.length + X.length + Y.length + B.length = L) := hL
  have HM : Hid (A.length = a ∧ a + X.length = m ∧ m + Y.length = b) := ⟨ha, hm, hb⟩
  have HXY : Hid (X.Pairwise lt ∧ Y.Pairwise lt ∧ ∀ x ∈ X, ∀ y ∈ Y, x.2 < y.2) := ⟨hX, hY, hpl⟩
  have HXL : Hid (2 ≤ X.length ∧ 2 ≤ Y.length) := ⟨lx, ly⟩
  have hbL : b ≤ L := by omega
  have ham : a + 2 ≤ m := by omega
  have hmb : m + 2 ≤ b := by omega
  obtain ⟨dx, hdx⟩ : ∃ d, m - a = d := ⟨_, rfl⟩
  obtain ⟨dy, hdy⟩ : ∃ d, b - m = d := ⟨_, rfl⟩
  obtain ⟨s, hs⟩ : ∃ s, a + b = s := ⟨_, rfl⟩
  rw [hs] at hmm
  obtain ⟨mid, hmid⟩ : ∃ d, s / 2 = d := ⟨_, rfl⟩
  rw [hmid] at hmm
  obtain ⟨n, hnn⟩ : ∃ n, mid + m = n := ⟨_, rfl⟩
  have smi : ((m : Nat) : Int) - (a : Int) = (dx : Nat) := by omega
  have wdx : IntKind.i64.wrap ((dx : Nat) : Int) = (dx : Nat) := by rw [IntKind.wrap_i64]; omega
  have dx1 : (((dx : Nat) : Int) == 1) = false := by
    have : ¬ ((dx : Nat) : Int) = 1 := by omega
    simpa using this
  have sbm : ((b : Nat) : Int) - (m : Int) = (dy : Nat) := by omega
  have wdy : IntKind.i64.wrap ((dy : Nat) : Int) = (dy : Nat) := by rw [IntKind.wrap_i64]; omega
  have dy1 : (((dy : Nat) : Int) == 1) = false := by
    have : ¬ ((dy : Nat) : Int) = 1 := by omega
    simpa using this
  have ss : ((a : Nat) : Int) + (b : Int) = (s : Nat) := by omega
  have ws : IntKind.i64.wrap ((s : Nat) : Int) = (s : Nat) := by rw [IntKind.wrap_i64]; omega
  have sm : ((s : Nat) : Int) / 2 = (mid : Nat) := by omega
  have sn : ((mid : Nat) : Int) + (m : Int) = (n : Nat) := by omega
  have wn : IntKind.i64.wrap ((n : Nat) : Int) = (n : Nat) := by rw [IntKind.wrap_i64]; omega
  have HS : Hid (a < mid ∧ mid < b ∧ mid + m = n ∧ mid + mid ≤ a + b ∧ a + b ≤ mid + mid + 1 ∧ a + 2 ≤ m ∧ m + 2 ≤ b ∧ b ≤ L) := ⟨by omega, by omega, by omega, by omega, by omega, ham, hmb, hbL⟩
  obtain ⟨p, hp⟩ : ∃ p, n - 1 = p := ⟨_, rfl⟩
  have sp : ((n : Nat) : Int) - 1 = (p : Nat) := by omega
  have wp' : IntKind.i64.wrap ((p : Nat) : Int) = (p : Nat) := by rw [IntKind.wrap_i64]; omega
  have HP : Hid (p + 1 = n) := by unfold Hid; omega
  clear hr hN hL hX hY hpl ha hm hb lx ly
  obtain ⟨lo, hlo⟩ : ∃ lo, n - b = lo := ⟨_, rfl⟩
  have HLH : Hid (a ≤ lo ∧ lo ≤ mid ∧ mid ≤ m ∧ mid ≤ mid ∧ (lo = a ∨ lo + b = n) ∧ (mid = m ∨ mid = mid) ∧ n ≤ lo + b) := by refine ⟨by omega, by omega, by omega, by omega, by omega, .inr rfl, by omega⟩
  have hgt : ((mid : Nat) : Int) < (m : Int) := by omega
  have slo : ((n : Nat) : Int) - (b : Int) = (lo : Nat) := by omega
  have wlo : IntKind.i64.wrap ((lo : Nat) : Int) = (lo : Nat) := by rw [IntKind.wrap_i64]; omega
  clear hdx hdy hs hmid hnn hp hmm hlo
  go_enter Tryd.func53, Tryd.ntmps53
  go_wp2
  clear smi wdx dx1 sbm wdy dy1 ss ws sm sn wn sp wp' hgt
  try clear slo wlo
  go_loopw [20, 21] (fun sv rv W => SyI (A ++ X ++ Y ++ B) g rest w n lo mid sv rv W) (fun sv rv _ => (intOf rv).toNat - (intOf sv).toNat)
  case atStart =>
    have h := HLH.out
    exact ⟨lo, mid, rfl, rfl, Nat.le_refl _, h.2.1, Nat.le_refl _, fun h => absurd h (Nat.lt_irrefl _), fun h => absurd h (Nat.lt_irrefl _), R0.out, Kp.refl _ _⟩
  case round =>
    obtain ⟨st, r, rfl, rfl, hst, hsr, hrh, hF1, hF2, hrb, hk⟩ := hrel
    have RB : Hid (Rb wr g (fs (A ++ X ++ Y ++ B)) rest) := hrb
    have K1 : Hid (Kp g w wr) := hk
    have F1 : Hid (lo < st → ∃ x y, (A ++ X ++ Y ++ B)[st - 1]? = some x ∧ (A ++ X ++ Y ++ B)[n - st]? = some y ∧ lt x y) := hF1
    have F2 : Hid (r < mid → ∃ x y, (A ++ X ++ Y ++ B)[r]? = some x ∧ (A ++ X ++ Y ++ B)[n - 1 - r]? = some y ∧ lt y x) := hF2
    have HSR : Hid (lo ≤ st ∧ st ≤ r ∧ r ≤ mid) := ⟨hst, hsr, hrh⟩
    clear hrb hk hF1 hF2
    by_cases he : st = r
    · subst he
      have hb1 := HLH.out
      have hb2 := HS.out
      have hb4 := HM.out
      have hb5 := HSR.out
      have hb6 := HN.out
      have hb7 := HL.out
      obtain ⟨X1, X2, Y1, Y2, hX12, hY12, l1, l2, l3, l4, hcut⟩ := cut_here A X Y B HXY.out.1 HXY.out.2.1 hb4.1 hb4.2.1 hb4.2.2 hb2.2.2.1 hb1.1 hb5.1 hb5.2.2 hb1.2.2.1 hb1.2.2.2.1 (by omega) (by omega) hb1.2.2.2.2.2.2 F1.out F2.out
      subst hX12
      subst hY12
      simp only [List.length_append] at hb4 hb6 hb7
      obtain ⟨e, hee⟩ : ∃ e, m + Y1.length = e := ⟨_, rfl⟩
      have sne : ((n : Nat) : Int) - (st : Int) = (e : Nat) := by omega
      have wne : IntKind.i64.wrap ((e : Nat) : Int) = (e : Nat) := by rw [IntKind.wrap_i64]; omega
      have hlt : ¬ ((st : Nat) : Int) < (st : Int) := by omega
      have CUT : Hid (∀ p ∈ X1 ++ Y1, ∀ q ∈ X2 ++ Y2, lt p q) := hcut
      have LEN : Hid (A.length = a ∧ a + X1.length = st ∧ st + X2.length = m ∧ st + Y1.length = mid ∧ m + Y1.length = e ∧ e + Y2.length = b ∧ mid + X2.length = e ∧ A.length + X1.length + X2.length + Y1.length + Y2.length + B.length = L ∧ X1.length + X2.length + Y1.length + Y2.length ≤ N + 1 ∧ L ≤ 1000) := by refine ⟨hb4.1, l1, l2, l3, hee, by omega, by omega, by omega, by omega, hn⟩
      have CB := combos X1 X2 Y1 Y2 (by have := HXL.out; simp only [List.length_append] at this; omega) (by have := HXL.out; simp only [List.length_append] at this; omega) (by omega) (by omega)
      have RX : Hid (Rb wr g (fs (A ++ (X1 ++ X2) ++ (Y1 ++ Y2) ++ B)) rest) := RB.out
      have hnum := LEN.out
      clear hb1 hb2 hb4 hb5 hb6 hb7 hcut l1 l2 l3 l4 hee hst hsr hrh F1 F2
      rcases CB with ⟨x1, x2, y1, y2⟩ | ⟨x1, x2, y1, y2⟩ | ⟨x1, x2, y1, y2⟩ | ⟨x1, x2, y1, y2⟩ | ⟨x1, x2, y1, y2⟩ | ⟨x1, x2, y1, y2⟩ | ⟨x1, x2, y1, y2⟩
      · have px1 := pos_of_ne x1
        have px2 := pos_of_ne x2
        have py1 := pos_of_ne y1
        have py2 := pos_of_ne y2
        have d1 : ((st : Nat) : Int) < (m : Int) := by omega
        have d2 : ((m : Nat) : Int) < (e : Int) := by omega
        have d3 : ((a : Nat) : Int) < (st : Int) := by omega
        have d4 : ((st : Nat) : Int) < (mid : Int) := by omega
        have d5 : ((mid : Nat) : Int) < (e : Int) := by omega
        have d6 : ((e : Nat) : Int) < (b : Int) := by omega
        clear hnum
        have CR := rotate_any (fs (A ++ X1)) (fs X2) (fs Y1) (fs (Y2 ++ B)) (.func (.func 44) #[] #[]) g cap L st m e rest wr (by have := RX.out; simpa [fs] using this) (by have := LEN.out; simp [fs] at this ⊢; omega) hn (by simpa [fs] using x2) (by simpa [fs] using y1) (by have := LEN.out; simp [fs] at this ⊢; omega) (by have := LEN.out; simp [fs] at this ⊢; omega) (by have := LEN.out; simp [fs] at this ⊢; omega)
        go_wp2_with fail
        refine Calls.mono CR ?_
        rintro er w1 ⟨rfl, hr1, hk1⟩
        have R1 : Hid (Rb w1 g (fs (A ++ X1 ++ Y1 ++ (X2 ++ Y2 ++ B))) rest) := by unfold Hid; simpa [fs] using hr1
        have K2 : Hid (Kp g w w1) := K1.out.trans hk1
        clear hr1 hk1 CR
        have C1 := IH.out A X1 Y1 (X2 ++ Y2 ++ B) a st mid w1 (by have := LEN.out; simp at this ⊢; have := px1; have := py1; have := px2; have := py2; omega) x1 y1 (rise_left HXY.out.1) (rise_left HXY.out.2.1) (fun x hx y hy => HXY.out.2.2 x (by simp [hx]) y (by simp [hy])) R1.out (by have := LEN.out; simp at this ⊢; omega) LEN.out.1 LEN.out.2.1 LEN.out.2.2.2.1
        go_wp2_with fail
        refine Calls.mono C1 ?_
        rintro er w2 ⟨rfl, Z1, z1p, z1r, hr1, hk1⟩
        have R2 : Hid (Rb w2 g (fs (A ++ Z1 ++ (X2 ++ Y2 ++ B))) rest) := hr1
        have K3 : Hid (Kp g w w2) := K2.out.trans hk1
        have P1 : Hid (Z1.Perm (X1 ++ Y1) ∧ Z1.Pairwise lt) := ⟨z1p, z1r⟩
        clear hr1 hk1 C1 z1p z1r
        have hz1 := P1.out.1.length_eq
        have C2 := IH.out (A ++ Z1) X2 Y2 B mid e b w2 (by have := LEN.out; simp at this ⊢; have := px1; have := py1; have := px2; have := py2; omega) x2 y2 (rise_right HXY.out.1) (rise_right HXY.out.2.1) (fun x hx y hy => HXY.out.2.2 x (by simp [hx]) y (by simp [hy])) (by have := R2.out; simpa [fs] using this) (by have := LEN.out; simp at this hz1 ⊢; omega) (by have := LEN.out; simp at this hz1 ⊢; omega) LEN.out.2.2.2.2.2.2.1 LEN.out.2.2.2.2.2.1
        go_wp2_with fail
        refine Calls.mono C2 ?_
        rintro er w3 ⟨rfl, Z2, z2p, z2r, hr1, hk1⟩
        have R3 : Hid (Rb w3 g (fs (A ++ Z1 ++ Z2 ++ B)) rest) := by unfold Hid; simpa [fs] using hr1
        have K4 : Hid (Kp g w w3) := K3.out.trans hk1
        have P2 : Hid (Z2.Perm (X2 ++ Y2) ∧ Z2.Pairwise lt) := ⟨z2p, z2r⟩
        clear hr1 hk1 C2 z2p z2r hz1
        go_wp2
        go_end0
        have ER := end_rise P1.out.1 P2.out.1 P1.out.2 P2.out.2 CUT.out
        exact ⟨rfl, Z1 ++ Z2, by simpa using ER.1, ER.2, by have := R3.out; simpa [fs] using this, K4.out⟩
      · subst x1
        have px2 := pos_of_ne x2
        have py1 := pos_of_ne y1
        have py2 := pos_of_ne y2
        simp only [List.length_nil] at hnum
        have d1 : ((st : Nat) : Int) < (m : Int) := by omega
        have d2 : ((m : Nat) : Int) < (e : Int) := by omega
        have d3 : ¬ ((a : Nat) : Int) < (st : Int) := by omega
        have d4 : ((st : Nat) : Int) < (mid : Int) := by omega
        have d5 : ((mid : Nat) : Int) < (e : Int) := by omega
        have d6 : ((e : Nat) : Int) < (b : Int) := by omega
        clear hnum
        have CR := rotate_any (fs (A ++ [])) (fs X2) (fs Y1) (fs (Y2 ++ B)) (.func (.func 44) #[] #[]) g cap L st m e rest wr (by have := RX.out; simpa [fs] using this) (by have := LEN.out; simp [fs] at this ⊢; omega) hn (by simpa [fs] using x2) (by simpa [fs] using y1) (by have := LEN.out; simp [fs] at this ⊢; omega) (by have := LEN.out; simp [fs] at this ⊢; omega) (by have := LEN.out; simp [fs] at this ⊢; omega)
        go_wp2_with fail
        refine Calls.mono CR ?_
        rintro er w1 ⟨rfl, hr1, hk1⟩
        have R1 : Hid (Rb w1 g (fs (A ++ [] ++ Y1 ++ (X2 ++ Y2 ++ B))) rest) := by unfold Hid; simpa [fs] using hr1
        have K2 : Hid (Kp g w w1) := K1.out.trans hk1
        clear hr1 hk1 CR
        obtain ⟨Z1, hZ1⟩ : ∃ Z, Y1 = Z := ⟨_, rfl⟩
        have R2 : Hid (Rb w1 g (fs (A ++ Z1 ++ (X2 ++ Y2 ++ B))) rest) := by have := R1.out; unfold Hid; rw [← hZ1]; simpa [fs] using this
        have K3 : Hid (Kp g w w1) := K2.out
        have P1 : Hid (Z1.Perm ([] ++ Y1) ∧ Z1.Pairwise lt) := by rw [← hZ1]; exact ⟨by simp, rise_left HXY.out.2.1⟩
        clear hZ1
        have hz1 := P1.out.1.length_eq
        have C2 := IH.out (A ++ Z1) X2 Y2 B mid e b w1 (by have := LEN.out; simp at this ⊢; have := py1; have := px2; have := py2; omega) x2 y2 (rise_right HXY.out.1) (rise_right HXY.out.2.1) (fun x hx y hy => HXY.out.2.2 x (by simp [hx]) y (by simp [hy])) (by have := R2.out; simpa [fs] using this) (by have := LEN.out; simp at this hz1 ⊢; omega) (by have := LEN.out; simp at this hz1 ⊢; omega) LEN.out.2.2.2.2.2.2.1 LEN.out.2.2.2.2.2.1
        go_wp2_with fail
        refine Calls.mono C2 ?_
        rintro er w3 ⟨rfl, Z2, z2p, z2r, hr1, hk1⟩
        have R3 : Hid (Rb w3 g (fs (A ++ Z1 ++ Z2 ++ B)) rest) := by unfold Hid; simpa [fs] using hr1
        have K4 : Hid (Kp g w w3) := K3.out.trans hk1
        have P2 : Hid (Z2.Perm (X2 ++ Y2) ∧ Z2.Pairwise lt) := ⟨z2p, z2r⟩
        clear hr1 hk1 C2 z2p z2r hz1
        go_wp2
        go_end0
        have ER := end_rise P1.out.1 P2.out.1 P1.out.2 P2.out.2 CUT.out
        exact ⟨rfl, Z1 ++ Z2, by simpa using ER.1, ER.2, by have := R3.out; simpa [fs] using this, K4.out⟩
      · have px1 := pos_of_ne x1
        subst x2
        have py1 := pos_of_ne y1
        have py2 := pos_of_ne y2
        simp only [List.length_nil] at hnum
        have d1 : ¬ ((st : Nat) : Int) < (m : Int) := by omega
        have d2 : ((m : Nat) : Int) < (e : Int) := by omega
        have d3 : ((a : Nat) : Int) < (st : Int) := by omega
        have d4 : ((st : Nat) : Int) < (mid : Int) := by omega
        have d5 : ¬ ((mid : Nat) : Int) < (e : Int) := by omega
        have d6 : ((e : Nat) : Int) < (b : Int) := by omega
        clear hnum
        have R1 : Hid (Rb wr g (fs (A ++ X1 ++ Y1 ++ ([] ++ Y2 ++ B))) rest) := by have := RX.out; unfold Hid; simpa [fs] using this
        have K2 : Hid (Kp g w wr) := K1.out
        have C1 := IH.out A X1 Y1 ([] ++ Y2 ++ B) a st mid wr (by have := LEN.out; simp at this ⊢; have := px1; have := py1; have := py2; omega) x1 y1 (rise_left HXY.out.1) (rise_left HXY.out.2.1) (fun x hx y hy => HXY.out.2.2 x (by simp [hx]) y (by simp [hy])) R1.out (by have := LEN.out; simp at this ⊢; omega) LEN.out.1 LEN.out.2.1 LEN.out.2.2.2.1
        go_wp2_with fail
        refine Calls.mono C1 ?_
        rintro er w2 ⟨rfl, Z1, z1p, z1r, hr1, hk1⟩
        have R2 : Hid (Rb w2 g (fs (A ++ Z1 ++ ([] ++ Y2 ++ B))) rest) := hr1
        have K3 : Hid (Kp g w w2) := K2.out.trans hk1
        have P1 : Hid (Z1.Perm (X1 ++ Y1) ∧ Z1.Pairwise lt) := ⟨z1p, z1r⟩
        clear hr1 hk1 C1 z1p z1r
        obtain ⟨Z2, hZ2⟩ : ∃ Z, Y2 = Z := ⟨_, rfl⟩
        have R3 : Hid (Rb w2 g (fs (A ++ Z1 ++ Z2 ++ B)) rest) := by have := R2.out; unfold Hid; rw [← hZ2]; simpa [fs] using this
        have K4 : Hid (Kp g w w2) := K3.out
        have P2 : Hid (Z2.Perm ([] ++ Y2) ∧ Z2.Pairwise lt) := by rw [← hZ2]; exact ⟨by simp, rise_right HXY.out.2.1⟩
        clear hZ2
        go_wp2
        go_end0
        have ER := end_rise P1.out.1 P2.out.1 P1.out.2 P2.out.2 CUT.out
        exact ⟨rfl, Z1 ++ Z2, by simpa using ER.1, ER.2, by have := R3.out; simpa [fs] using this, K4.out⟩
      · have px1 := pos_of_ne x1
        have px2 := pos_of_ne x2
        subst y1
        have py2 := pos_of_ne y2
        simp only [List.length_nil] at hnum
        have d1 : ((st : Nat) : Int) < (m : Int) := by omega
        have d2 : ¬ ((m : Nat) : Int) < (e : Int) := by omega
        have d3 : ((a : Nat) : Int) < (st : Int) := by omega
        have d4 : ¬ ((st : Nat) : Int) < (mid : Int) := by omega
        have d5 : ((mid : Nat) : Int) < (e : Int) := by omega
        have d6 : ((e : Nat) : Int) < (b : Int) := by omega
        clear hnum
        have R1 : Hid (Rb wr g (fs (A ++ X1 ++ [] ++ (X2 ++ Y2 ++ B))) rest) := by have := RX.out; unfold Hid; simpa [fs] using this
        have K2 : Hid (Kp g w wr) := K1.out
        obtain ⟨Z1, hZ1⟩ : ∃ Z, X1 = Z := ⟨_, rfl⟩
        have R2 : Hid (Rb wr g (fs (A ++ Z1 ++ (X2 ++ Y2 ++ B))) rest) := by have := R1.out; unfold Hid; rw [← hZ1]; simpa [fs] using this
        have K3 : Hid (Kp g w wr) := K2.out
        have P1 : Hid (Z1.Perm (X1 ++ []) ∧ Z1.Pairwise lt) := by rw [← hZ1]; exact ⟨by simp, rise_left HXY.out.1⟩
        clear hZ1
        have hz1 := P1.out.1.length_eq
        have C2 := IH.out (A ++ Z1) X2 Y2 B mid e b wr (by have := LEN.out; simp at this ⊢; have := px1; have := px2; have := py2; omega) x2 y2 (rise_right HXY.out.1) (rise_right HXY.out.2.1) (fun x hx y hy => HXY.out.2.2 x (by simp [hx]) y (by simp [hy])) (by have := R2.out; simpa [fs] using this) (by have := LEN.out; simp at this hz1 ⊢; omega) (by have := LEN.out; simp at this hz1 ⊢; omega) LEN.out.2.2.2.2.2.2.1 LEN.out.2.2.2.2.2.1
        go_wp2_with fail
        refine Calls.mono C2 ?_
        rintro er w3 ⟨rfl, Z2, z2p, z2r, hr1, hk1⟩
        have R3 : Hid (Rb w3 g (fs (A ++ Z1 ++ Z2 ++ B)) rest) := by unfold Hid; simpa [fs] using hr1
        have K4 : Hid (Kp g w w3) := K3.out.trans hk1
        have P2 : Hid (Z2.Perm (X2 ++ Y2) ∧ Z2.Pairwise lt) := ⟨z2p, z2r⟩
        clear hr1 hk1 C2 z2p z2r hz1
        go_wp2
        go_end0
        have ER := end_rise P1.out.1 P2.out.1 P1.out.2 P2.out.2 CUT.out
        exact ⟨rfl, Z1 ++ Z2, by simpa using ER.1, ER.2, by have := R3.out; simpa [fs] using this, K4.out⟩
      · have px1 := pos_of_ne x1
        have px2 := pos_of_ne x2
        have py1 := pos_of_ne y1
        subst y2
        simp only [List.length_nil] at hnum
        have d1 : ((st : Nat) : Int) < (m : Int) := by omega
        have d2 : ((m : Nat) : Int) < (e : Int) := by omega
        have d3 : ((a : Nat) : Int) < (st : Int) := by omega
        have d4 : ((st : Nat) : Int) < (mid : Int) := by omega
        have d5 : ((mid : Nat) : Int) < (e : Int) := by omega
        have d6 : ¬ ((e : Nat) : Int) < (b : Int) := by omega
        clear hnum
        have CR := rotate_any (fs (A ++ X1)) (fs X2) (fs Y1) (fs ([] ++ B)) (.func (.func 44) #[] #[]) g cap L st m e rest wr (by have := RX.out; simpa [fs] using this) (by have := LEN.out; simp [fs] at this ⊢; omega) hn (by simpa [fs] using x2) (by simpa [fs] using y1) (by have := LEN.out; simp [fs] at this ⊢; omega) (by have := LEN.out; simp [fs] at this ⊢; omega) (by have := LEN.out; simp [fs] at this ⊢; omega)
        go_wp2_with fail
        refine Calls.mono CR ?_
        rintro er w1 ⟨rfl, hr1, hk1⟩
        have R1 : Hid (Rb w1 g (fs (A ++ X1 ++ Y1 ++ (X2 ++ [] ++ B))) rest) := by unfold Hid; simpa [fs] using hr1
        have K2 : Hid (Kp g w w1) := K1.out.trans hk1
        clear hr1 hk1 CR
        have C1 := IH.out A X1 Y1 (X2 ++ [] ++ B) a st mid w1 (by have := LEN.out; simp at this ⊢; have := px1; have := py1; have := px2; omega) x1 y1 (rise_left HXY.out.1) (rise_left HXY.out.2.1) (fun x hx y hy => HXY.out.2.2 x (by simp [hx]) y (by simp [hy])) R1.out (by have := LEN.out; simp at this ⊢; omega) LEN.out.1 LEN.out.2.1 LEN.out.2.2.2.1
        go_wp2_with fail
        refine Calls.mono C1 ?_
        rintro er w2 ⟨rfl, Z1, z1p, z1r, hr1, hk1⟩
        have R2 : Hid (Rb w2 g (fs (A ++ Z1 ++ (X2 ++ [] ++ B))) rest) := hr1
        have K3 : Hid (Kp g w w2) := K2.out.trans hk1
        have P1 : Hid (Z1.Perm (X1 ++ Y1) ∧ Z1.Pairwise lt) := ⟨z1p, z1r⟩
        clear hr1 hk1 C1 z1p z1r
        obtain ⟨Z2, hZ2⟩ : ∃ Z, X2 = Z := ⟨_, rfl⟩
        have R3 : Hid (Rb w2 g (fs (A ++ Z1 ++ Z2 ++ B)) rest) := by have := R2.out; unfold Hid; rw [← hZ2]; simpa [fs] using this
        have K4 : Hid (Kp g w w2) := K3.out
        have P2 : Hid (Z2.Perm (X2 ++ []) ∧ Z2.Pairwise lt) := by rw [← hZ2]; exact ⟨by simp, rise_right HXY.out.1⟩
        clear hZ2
        go_wp2
        go_end0
        have ER := end_rise P1.out.1 P2.out.1 P1.out.2 P2.out.2 CUT.out
        exact ⟨rfl, Z1 ++ Z2, by simpa using ER.1, ER.2, by have := R3.out; simpa [fs] using this, K4.out⟩
      · subst x1
        have px2 := pos_of_ne x2
        have py1 := pos_of_ne y1
        subst y2
        simp only [List.length_nil] at hnum
        have d1 : ((st : Nat) : Int) < (m : Int) := by omega
        have d2 : ((m : Nat) : Int) < (e : Int) := by omega
        have d3 : ¬ ((a : Nat) : Int) < (st : Int) := by omega
        have d4 : ((st : Nat) : Int) < (mid : Int) := by omega
        have d5 : ((mid : Nat) : Int) < (e : Int) := by omega
        have d6 : ¬ ((e : Nat) : Int) < (b : Int) := by omega
        clear hnum
        have CR := rotate_any (fs (A ++ [])) (fs X2) (fs Y1) (fs ([] ++ B)) (.func (.func 44) #[] #[]) g cap L st m e rest wr (by have := RX.out; simpa [fs] using this) (by have := LEN.out; simp [fs] at this ⊢; omega) hn (by simpa [fs] using x2) (by simpa [fs] using y1) (by have := LEN.out; simp [fs] at this ⊢; omega) (by have := LEN.out; simp [fs] at this ⊢; omega) (by have := LEN.out; simp [fs] at this ⊢; omega)
        go_wp2_with fail
        refine Calls.mono CR ?_
        rintro er w1 ⟨rfl, hr1, hk1⟩
        have R1 : Hid (Rb w1 g (fs (A ++ [] ++ Y1 ++ (X2 ++ [] ++ B))) rest) := by unfold Hid; simpa [fs] using hr1
        have K2 : Hid (Kp g w w1) := K1.out.trans hk1
        clear hr1 hk1 CR
        obtain ⟨Z1, hZ1⟩ : ∃ Z, Y1 = Z := ⟨_, rfl⟩
        have R2 : Hid (Rb w1 g (fs (A ++ Z1 ++ (X2 ++ [] ++ B))) rest) := by have := R1.out; unfold Hid; rw [← hZ1]; simpa [fs] using this
        have K3 : Hid (Kp g w w1) := K2.out
        have P1 : Hid (Z1.Perm ([] ++ Y1) ∧ Z1.Pairwise lt) := by rw [← hZ1]; exact ⟨by simp, rise_left HXY.out.2.1⟩
        clear hZ1
        obtain ⟨Z2, hZ2⟩ : ∃ Z, X2 = Z := ⟨_, rfl⟩
        have R3 : Hid (Rb w1 g (fs (A ++ Z1 ++ Z2 ++ B)) rest) := by have := R2.out; unfold Hid; rw [← hZ2]; simpa [fs] using this
        have K4 : Hid (Kp g w w1) := K3.out
        have P2 : Hid (Z2.Perm (X2 ++ []) ∧ Z2.Pairwise lt) := by rw [← hZ2]; exact ⟨by simp, rise_right HXY.out.1⟩
        clear hZ2
        go_wp2
        go_end0
        have ER := end_rise P1.out.1 P2.out.1 P1.out.2 P2.out.2 CUT.out
        exact ⟨rfl, Z1 ++ Z2, by simpa using ER.1, ER.2, by have := R3.out; simpa [fs] using this, K4.out⟩
      · have px1 := pos_of_ne x1
        subst x2
        subst y1
        have py2 := pos_of_ne y2
        simp only [List.length_nil] at hnum
        have d1 : ¬ ((st : Nat) : Int) < (m : Int) := by omega
        have d2 : ¬ ((m : Nat) : Int) < (e : Int) := by omega
        have d3 : ((a : Nat) : Int) < (st : Int) := by omega
        have d4 : ¬ ((st : Nat) : Int) < (mid : Int) := by omega
        have d5 : ¬ ((mid : Nat) : Int) < (e : Int) := by omega
        have d6 : ((e : Nat) : Int) < (b : Int) := by omega
        clear hnum
        have R1 : Hid (Rb wr g (fs (A ++ X1 ++ [] ++ ([] ++ Y2 ++ B))) rest) := by have := RX.out; unfold Hid; simpa [fs] using this
        have K2 : Hid (Kp g w wr) := K1.out
        obtain ⟨Z1, hZ1⟩ : ∃ Z, X1 = Z := ⟨_, rfl⟩
        have R2 : Hid (Rb wr g (fs (A ++ Z1 ++ ([] ++ Y2 ++ B))) rest) := by have := R1.out; unfold Hid; rw [← hZ1]; simpa [fs] using this
        have K3 : Hid (Kp g w wr) := K2.out
        have P1 : Hid (Z1.Perm (X1 ++ []) ∧ Z1.Pairwise lt) := by rw [← hZ1]; exact ⟨by simp, rise_left HXY.out.1⟩
        clear hZ1
        obtain ⟨Z2, hZ2⟩ : ∃ Z, Y2 = Z := ⟨_, rfl⟩
        have R3 : Hid (Rb wr g (fs (A ++ Z1 ++ Z2 ++ B)) rest) := by have := R2.out; unfold Hid; rw [← hZ2]; simpa [fs] using this
        have K4 : Hid (Kp g w wr) := K3.out
        have P2 : Hid (Z2.Perm ([] ++ Y2) ∧ Z2.Pairwise lt) := by rw [← hZ2]; exact ⟨by simp, rise_right HXY.out.2.1⟩
        clear hZ2
        go_wp2
        go_end0
        have ER := end_rise P1.out.1 P2.out.1 P1.out.2 P2.out.2 CUT.out
        exact ⟨rfl, Z1 ++ Z2, by simpa using ER.1, ER.2, by have := R3.out; simpa [fs] using this, K4.out⟩
    · have hlt : ((st : Nat) : Int) < (r : Int) := by omega
      obtain ⟨t, ht⟩ : ∃ t, st + r = t := ⟨_, rfl⟩
      obtain ⟨c, hc⟩ : ∃ c, t / 2 = c := ⟨_, rfl⟩
      obtain ⟨q, hq⟩ : ∃ q, p - c = q := ⟨_, rfl⟩
      have hb1 := HLH.out
      have hb2 := HS.out
      have hb3 := HP.out
      have hb4 := HM.out
      have hcs : st ≤ c ∧ c < r := by omega
      have tt : ((st : Nat) : Int) + (r : Int) = (t : Nat) := by omega
      have wt : IntKind.i64.wrap ((t : Nat) : Int) = (t : Nat) := by rw [IntKind.wrap_i64]; omega
      have tc : ((t : Nat) : Int) / 2 = (c : Nat) := by omega
      have pq : ((p : Nat) : Int) - (c : Int) = (q : Nat) := by omega
      have wq : IntKind.i64.wrap ((q : Nat) : Int) = (q : Nat) := by rw [IntKind.wrap_i64]; omega
      have hqm : m ≤ q ∧ q < b := by omega
      have hcm : a ≤ c ∧ c < m := by omega
      obtain ⟨x, hx⟩ : ∃ x, X[c - a]? = some x := ⟨_, List.getElem?_eq_getElem (by omega)⟩
      obtain ⟨y, hy⟩ : ∃ y, Y[q - m]? = some y := ⟨_, List.getElem?_eq_getElem (by omega)⟩
      have Hx : Hid ((A ++ X ++ Y ++ B)[c]? = some x) := by unfold Hid; rw [in_x A X Y B hb4.1 hcm.1 (by omega)]; exact hx
      have Hy : Hid ((A ++ X ++ Y ++ B)[q]? = some y) := by unfold Hid; rw [in_y A X Y B (m := m) (by omega) hqm.1 (by omega)]; exact hy
      have IX : Hid (x.2 < y.2) := HXY.out.2.2 x (List.mem_of_getElem? hx) y (List.mem_of_getElem? hy)
      have FC : Hid (∀ W, Below wr.heap.size wr W → W.cell? ⟨g, c * 4, none⟩ = some (.int .i64 x.1.player) ∧ W.cell? ⟨g, c * 4 + 1, none⟩ = some (.int .i64 x.1.unit) ∧ W.cell? ⟨g, c * 4 + 2, none⟩ = some (.int .i64 x.1.what) ∧ W.cell? ⟨g, c * 4 + 3, none⟩ = some (.int .i64 x.1.arg) ∧ W.cell? ⟨g, q * 4, none⟩ = some (.int .i64 y.1.player) ∧ W.cell? ⟨g, q * 4 + 1, none⟩ = some (.int .i64 y.1.unit) ∧ W.cell? ⟨g, q * 4 + 2, none⟩ = some (.int .i64 y.1.what) ∧ W.cell? ⟨g, q * 4 + 3, none⟩ = some (.int .i64 y.1.arg)) := fun W hW => by
        have r := RB.out.below hW RB.out.lt
        obtain ⟨x0, x1, x2, x3⟩ := r.cells (fs_at Hx.out)
        obtain ⟨y0, y1, y2, y3⟩ := r.cells (fs_at Hy.out)
        exact ⟨x0, x1, x2, x3, y0, y1, y2, y3⟩
      have CC : Hid (∀ W, Below wr.heap.size wr W → Calls Tryd.prog 44 #[.agg #[.int .i64 y.1.player, .int .i64 y.1.unit, .int .i64 y.1.what, .int .i64 y.1.arg], .agg #[.int .i64 x.1.player, .int .i64 x.1.unit, .int .i64 x.1.what, .int .i64 x.1.arg]] W fun e w' => e = .returned (.int .i64 (cmpo y.1 x.1)) ∧ Below wr.heap.size wr w') := fun W hW => (compare_any y.1 x.1 W).mono fun e w' ⟨h1, h2⟩ => ⟨h1, hW.trans (h2.mono hW.size)⟩
      have ec := ecmp
      have hcL : ((c : Nat) : Int) < (L : Int) := by omega
      have hqL : ((q : Nat) : Int) < (L : Int) := by omega
      have HC : Hid (st ≤ c ∧ c < r ∧ q + c = p) := ⟨hcs.1, hcs.2, by omega⟩
      clear hb1 hb2 hb3 hb4 ht hc hq hcs hqm hcm hx hy hst hsr hrh
      go_upto_region 35 with fail
      refine wp_region_class 12 (fun W => Below wr.heap.size wr W) (by kernel_rfl) (by kernel_rfl) (Below.refl _ _).drew ?_
      simp only [List.take_succ_cons, List.take_zero, List.drop_succ_cons, List.drop_zero]
      refine head_step (.func (.func 44) #[] #[]) (by go_simp) (fun W hW => by go_simp) ?_
      go_simp
      refine head_step (.slice (some ⟨g, 0, none⟩) L cap) (by go_simp) (fun W hW => by go_simp) ?_
      go_simp
      refine head_step (.int .i64 (p : Int)) (by go_simp) (fun W hW => by go_simp) ?_
      go_simp
      refine head_step (.int .i64 (c : Int)) (by go_simp) (fun W hW => by go_simp) ?_
      go_simp
      refine head_step (.int .i64 (q : Int)) (by go_simp) (fun W hW => by go_simp) ?_
      go_simp
      refine head_step (.pointer (some ⟨g, q * 4, none⟩)) (by go_simp) (fun W hW => by go_simp) ?_
      go_simp
      refine head_step (.agg #[.int .i64 y.1.player, .int .i64 y.1.unit, .int .i64 y.1.what, .int .i64 y.1.arg]) (by go_simp) (fun W hW => by obtain ⟨-, -, -, -, y0, y1, y2, y3⟩ := FC.out W hW; go_simp) ?_
      go_simp
      refine head_step (.slice (some ⟨g, 0, none⟩) L cap) (by go_simp) (fun W hW => by go_simp) ?_
      go_simp
      refine head_step (.int .i64 (c : Int)) (by go_simp) (fun W hW => by go_simp) ?_
      go_simp
      refine head_step (.pointer (some ⟨g, c * 4, none⟩)) (by go_simp) (fun W hW => by go_simp) ?_
      go_simp
      refine head_step (.agg #[.int .i64 x.1.player, .int .i64 x.1.unit, .int .i64 x.1.what, .int .i64 x.1.arg]) (by go_simp) (fun W hW => by obtain ⟨x0, x1, x2, x3, -⟩ := FC.out W hW; go_simp) ?_
      go_simp
      refine head_call (.int .i64 (cmpo y.1 x.1)) 44 #[.agg #[.int .i64 y.1.player, .int .i64 y.1.unit, .int .i64 y.1.what, .int .i64 y.1.arg], .agg #[.int .i64 x.1.player, .int .i64 x.1.unit, .int .i64 x.1.what, .int .i64 x.1.arg]] (by go_simp) (fun W hW => by go_simp) (fun W hW => CC.out W hW) ?_
      go_simp
      intro W hW
      have RW : Hid (Rb W g (fs (A ++ X ++ Y ++ B)) rest) := RB.out.below hW RB.out.lt
      have KW : Hid (Kp g w W) := K1.out.trans (Kp.of hW)
      by_cases hcm : cmpo y.1 x.1 < 0
      · have LX : Hid (lt y x) := (ask_lt IX.out).1 ((klt_iff _ _).1 hcm)
        clear hW FC CC
        go_wp2
        go_roundw
        case rel =>
          obtain ⟨c1, c2, c3⟩ := HC.out
          obtain ⟨s1, s2, s3⟩ := HSR.out
          have hp := HP.out
          have eq : n - 1 - c = q := by omega
          exact ⟨st, c, rfl, rfl, s1, c1, by omega, F1.out, fun _ => ⟨x, y, Hx.out, by rw [eq]; exact Hy.out, LX.out⟩, RW.out, KW.out⟩
        case measure => have := HC.out; simp [intOf]; omega
      · have LX : Hid (lt x y) := (ask_ge IX.out).1 (fun h => hcm ((klt_iff _ _).2 h))
        clear hW FC CC
        go_wp2
        go_roundw
        case rel =>
          obtain ⟨c1, c2, c3⟩ := HC.out
          obtain ⟨s1, s2, s3⟩ := HSR.out
          have hp := HP.out
          have eq : n - (c + 1) = q := by omega
          exact ⟨c + 1, r, rfl, rfl, by omega, by omega, s3, fun _ => ⟨x, y, by rw [Nat.add_sub_cancel]; exact Hx.out, by rw [eq]; exact Hy.out, LX.out⟩, F2.out, RW.out, KW.out⟩
        case measure => have := HC.out; simp [intOf]; omega
end Go.Proofs.YtbomnicnoanjlaaDoor

namespace Go.Proofs.YtbomnicnoanjlaaDoor
open Go.RowKit Go.Proofs.YtbomnicnoanjlaaDoor.So
set_option linter.unusedVariables false

set_option maxRecDepth 100000 in
set_option maxHeartbeats 64000000 in
theorem sym_hi (N : Nat) (A X Y B : List T) (g cap L a m b : Nat) (rest : List Value) (w : World) (ih : SymIH N g cap L rest) (hN : X.length + Y.length ≤ N + 1) (lx : 2 ≤ X.length) (ly : 2 ≤ Y.length) (hX : X.Pairwise lt) (hY : Y.Pairwise lt) (hpl : ∀ x ∈ X, ∀ y ∈ Y, x.2 < y.2) (hr : Rb w g (fs (A ++ X ++ Y ++ B)) rest) (hL : A.length + X.length + Y.length + B.length = L) (hn : L ≤ 1000) (ha : A.length = a) (hm : a + X.length = m) (hb : m + Y.length = b) (hmm : m ≤ (a + b) / 2) :
    Calls Tryd.prog 53 #[.slice (some ⟨g, 0, none⟩) L cap, .int .i64 (a : Nat), .int .i64 (m : Nat), .int .i64 (b : Nat), .func (.func 44) #[] #[]] w (MergeSays A (X ++ Y) B g rest w) := by
  have IH : Hid (SymIH N g cap L rest) := ih
  have R0 : Hid (Rb w g (fs (A ++ X ++ Y ++ B)) rest) := hr
  have HN : Hid (X.length + Y.length ≤ N + 1) := hN
  have HL : Hid (A.length + X.length + Y.length + B.length = L) := hL
  have HM : Hid (A.length = a ∧ a + X.length = m ∧ m + Y.length = b) := ⟨ha, hm, hb⟩
  have HXY : Hid (X.Pairwise lt ∧ Y.Pairwise lt ∧ ∀ x ∈ X, ∀ y ∈ Y, x.2 < y.2) := ⟨hX, hY, hpl⟩
  have HXL : Hid (2 ≤ X.length ∧ 2 ≤ Y.length) := ⟨lx, ly⟩
  have hbL : b ≤ L := by omega
  have ham : a + 2 ≤ m := by omega
  have hmb : m + 2 ≤ b := by omega
  obtain ⟨dx, hdx⟩ : ∃ d, m - a = d := ⟨_, rfl⟩
  obtain ⟨dy, hdy⟩ : ∃ d, b - m = d := ⟨_, rfl⟩
  obtain ⟨s, hs⟩ : ∃ s, a + b = s := ⟨_, rfl⟩
  rw [hs] at hmm
  obtain ⟨mid, hmid⟩ : ∃ d, s / 2 = d := ⟨_, rfl⟩
  rw [hmid] at hmm
  obtain ⟨n, hnn⟩ : ∃ n, mid + m = n := ⟨_, rfl⟩
  have smi : ((m : Nat) : Int) - (a : Int) = (dx : Nat) := by omega
  have wdx : IntKind.i64.wrap ((dx : Nat) : Int) = (dx : Nat) := by rw [IntKind.wrap_i64]; omega
  have dx1 : (((dx : Nat) : Int) == 1) = false := by
    have : ¬ ((dx : Nat) : Int) = 1 := by omega
    simpa using this
  have sbm : ((b : Nat) : Int) - (m : Int) = (dy : Nat) := by omega
  have wdy : IntKind.i64.wrap ((dy : Nat) : Int) = (dy : Nat) := by rw [IntKind.wrap_i64]; omega
  have dy1 : (((dy : Nat) : Int) == 1) = false := by
    have : ¬ ((dy : Nat) : Int) = 1 := by omega
    simpa using this
  have ss : ((a : Nat) : Int) + (b : Int) = (s : Nat) := by omega
  have ws : IntKind.i64.wrap ((s : Nat) : Int) = (s : Nat) := by rw [IntKind.wrap_i64]; omega
  have sm : ((s : Nat) : Int) / 2 = (mid : Nat) := by omega
  have sn : ((mid : Nat) : Int) + (m : Int) = (n : Nat) := by omega
  have wn : IntKind.i64.wrap ((n : Nat) : Int) = (n : Nat) := by rw [IntKind.wrap_i64]; omega
  have HS : Hid (a < mid ∧ mid < b ∧ mid + m = n ∧ mid + mid ≤ a + b ∧ a + b ≤ mid + mid + 1 ∧ a + 2 ≤ m ∧ m + 2 ≤ b ∧ b ≤ L) := ⟨by omega, by omega, by omega, by omega, by omega, ham, hmb, hbL⟩
  obtain ⟨p, hp⟩ : ∃ p, n - 1 = p := ⟨_, rfl⟩
  have sp : ((n : Nat) : Int) - 1 = (p : Nat) := by omega
  have wp' : IntKind.i64.wrap ((p : Nat) : Int) = (p : Nat) := by rw [IntKind.wrap_i64]; omega
  have HP : Hid (p + 1 = n) := by unfold Hid; omega
  clear hr hN hL hX hY hpl ha hm hb lx ly
  have HLH : Hid (a ≤ a ∧ a ≤ m ∧ m ≤ m ∧ m ≤ mid ∧ (a = a ∨ a + b = n) ∧ (m = m ∨ m = mid) ∧ n ≤ a + b) := by refine ⟨by omega, by omega, by omega, by omega, .inl rfl, .inl rfl, by omega⟩
  have hgt : ¬ ((mid : Nat) : Int) < (m : Int) := by omega
  clear hdx hdy hs hmid hnn hp hmm
  go_enter Tryd.func53, Tryd.ntmps53
  go_wp2
  clear smi wdx dx1 sbm wdy dy1 ss ws sm sn wn sp wp' hgt
  try clear slo wlo
  go_loopw [20, 21] (fun sv rv W => SyI (A ++ X ++ Y ++ B) g rest w n a m sv rv W) (fun sv rv _ => (intOf rv).toNat - (intOf sv).toNat)
  case atStart =>
    have h := HLH.out
    exact ⟨a, m, rfl, rfl, Nat.le_refl _, h.2.1, Nat.le_refl _, fun h => absurd h (Nat.lt_irrefl _), fun h => absurd h (Nat.lt_irrefl _), R0.out, Kp.refl _ _⟩
  case round =>
    obtain ⟨st, r, rfl, rfl, hst, hsr, hrh, hF1, hF2, hrb, hk⟩ := hrel
    have RB : Hid (Rb wr g (fs (A ++ X ++ Y ++ B)) rest) := hrb
    have K1 : Hid (Kp g w wr) := hk
    have F1 : Hid (a < st → ∃ x y, (A ++ X ++ Y ++ B)[st - 1]? = some x ∧ (A ++ X ++ Y ++ B)[n - st]? = some y ∧ lt x y) := hF1
    have F2 : Hid (r < m → ∃ x y, (A ++ X ++ Y ++ B)[r]? = some x ∧ (A ++ X ++ Y ++ B)[n - 1 - r]? = some y ∧ lt y x) := hF2
    have HSR : Hid (a ≤ st ∧ st ≤ r ∧ r ≤ m) := ⟨hst, hsr, hrh⟩
    clear hrb hk hF1 hF2
    by_cases he : st = r
    · subst he
      have hb1 := HLH.out
      have hb2 := HS.out
      have hb4 := HM.out
      have hb5 := HSR.out
      have hb6 := HN.out
      have hb7 := HL.out
      obtain ⟨X1, X2, Y1, Y2, hX12, hY12, l1, l2, l3, l4, hcut⟩ := cut_here A X Y B HXY.out.1 HXY.out.2.1 hb4.1 hb4.2.1 hb4.2.2 hb2.2.2.1 hb1.1 hb5.1 hb5.2.2 hb1.2.2.1 hb1.2.2.2.1 (by omega) (by omega) hb1.2.2.2.2.2.2 F1.out F2.out
      subst hX12
      subst hY12
      simp only [List.length_append] at hb4 hb6 hb7
      obtain ⟨e, hee⟩ : ∃ e, m + Y1.length = e := ⟨_, rfl⟩
      have sne : ((n : Nat) : Int) - (st : Int) = (e : Nat) := by omega
      have wne : IntKind.i64.wrap ((e : Nat) : Int) = (e : Nat) := by rw [IntKind.wrap_i64]; omega
      have hlt : ¬ ((st : Nat) : Int) < (st : Int) := by omega
      have CUT : Hid (∀ p ∈ X1 ++ Y1, ∀ q ∈ X2 ++ Y2, lt p q) := hcut
      have LEN : Hid (A.length = a ∧ a + X1.length = st ∧ st + X2.length = m ∧ st + Y1.length = mid ∧ m + Y1.length = e ∧ e + Y2.length = b ∧ mid + X2.length = e ∧ A.length + X1.length + X2.length + Y1.length + Y2.length + B.length = L ∧ X1.length + X2.length + Y1.length + Y2.length ≤ N + 1 ∧ L ≤ 1000) := by refine ⟨hb4.1, l1, l2, l3, hee, by omega, by omega, by omega, by omega, hn⟩
      have CB := combos X1 X2 Y1 Y2 (by have := HXL.out; simp only [List.length_append] at this; omega) (by have := HXL.out; simp only [List.length_append] at this; omega) (by omega) (by omega)
      have RX : Hid (Rb wr g (fs (A ++ (X1 ++ X2) ++ (Y1 ++ Y2) ++ B)) rest) := RB.out
      have hnum := LEN.out
      clear hb1 hb2 hb4 hb5 hb6 hb7 hcut l1 l2 l3 l4 hee hst hsr hrh F1 F2
      rcases CB with ⟨x1, x2, y1, y2⟩ | ⟨x1, x2, y1, y2⟩ | ⟨x1, x2, y1, y2⟩ | ⟨x1, x2, y1, y2⟩ | ⟨x1, x2, y1, y2⟩ | ⟨x1, x2, y1, y2⟩ | ⟨x1, x2, y1, y2⟩
      · have px1 := pos_of_ne x1
        have px2 := pos_of_ne x2
        have py1 := pos_of_ne y1
        have py2 := pos_of_ne y2
        have d1 : ((st : Nat) : Int) < (m : Int) := by omega
        have d2 : ((m : Nat) : Int) < (e : Int) := by omega
        have d3 : ((a : Nat) : Int) < (st : Int) := by omega
        have d4 : ((st : Nat) : Int) < (mid : Int) := by omega
        have d5 : ((mid : Nat) : Int) < (e : Int) := by omega
        have d6 : ((e : Nat) : Int) < (b : Int) := by omega
        clear hnum
        have CR := rotate_any (fs (A ++ X1)) (fs X2) (fs Y1) (fs (Y2 ++ B)) (.func (.func 44) #[] #[]) g cap L st m e rest wr (by have := RX.out; simpa [fs] using this) (by have := LEN.out; simp [fs] at this ⊢; omega) hn (by simpa [fs] using x2) (by simpa [fs] using y1) (by have := LEN.out; simp [fs] at this ⊢; omega) (by have := LEN.out; simp [fs] at this ⊢; omega) (by have := LEN.out; simp [fs] at this ⊢; omega)
        go_wp2_with fail
        refine Calls.mono CR ?_
        rintro er w1 ⟨rfl, hr1, hk1⟩
        have R1 : Hid (Rb w1 g (fs (A ++ X1 ++ Y1 ++ (X2 ++ Y2 ++ B))) rest) := by unfold Hid; simpa [fs] using hr1
        have K2 : Hid (Kp g w w1) := K1.out.trans hk1
        clear hr1 hk1 CR
        have C1 := IH.out A X1 Y1 (X2 ++ Y2 ++ B) a st mid w1 (by have := LEN.out; simp at this ⊢; have := px1; have := py1; have := px2; have := py2; omega) x1 y1 (rise_left HXY.out.1) (rise_left HXY.out.2.1) (fun x hx y hy => HXY.out.2.2 x (by simp [hx]) y (by simp [hy])) R1.out (by have := LEN.out; simp at this ⊢; omega) LEN.out.1 LEN.out.2.1 LEN.out.2.2.2.1
        go_wp2_with fail
        refine Calls.mono C1 ?_
        rintro er w2 ⟨rfl, Z1, z1p, z1r, hr1, hk1⟩
        have R2 : Hid (Rb w2 g (fs (A ++ Z1 ++ (X2 ++ Y2 ++ B))) rest) := hr1
        have K3 : Hid (Kp g w w2) := K2.out.trans hk1
        have P1 : Hid (Z1.Perm (X1 ++ Y1) ∧ Z1.Pairwise lt) := ⟨z1p, z1r⟩
        clear hr1 hk1 C1 z1p z1r
        have hz1 := P1.out.1.length_eq
        have C2 := IH.out (A ++ Z1) X2 Y2 B mid e b w2 (by have := LEN.out; simp at this ⊢; have := px1; have := py1; have := px2; have := py2; omega) x2 y2 (rise_right HXY.out.1) (rise_right HXY.out.2.1) (fun x hx y hy => HXY.out.2.2 x (by simp [hx]) y (by simp [hy])) (by have := R2.out; simpa [fs] using this) (by have := LEN.out; simp at this hz1 ⊢; omega) (by have := LEN.out; simp at this hz1 ⊢; omega) LEN.out.2.2.2.2.2.2.1 LEN.out.2.2.2.2.2.1
        go_wp2_with fail
        refine Calls.mono C2 ?_
        rintro er w3 ⟨rfl, Z2, z2p, z2r, hr1, hk1⟩
        have R3 : Hid (Rb w3 g (fs (A ++ Z1 ++ Z2 ++ B)) rest) := by unfold Hid; simpa [fs] using hr1
        have K4 : Hid (Kp g w w3) := K3.out.trans hk1
        have P2 : Hid (Z2.Perm (X2 ++ Y2) ∧ Z2.Pairwise lt) := ⟨z2p, z2r⟩
        clear hr1 hk1 C2 z2p z2r hz1
        go_wp2
        go_end0
        have ER := end_rise P1.out.1 P2.out.1 P1.out.2 P2.out.2 CUT.out
        exact ⟨rfl, Z1 ++ Z2, by simpa using ER.1, ER.2, by have := R3.out; simpa [fs] using this, K4.out⟩
      · subst x1
        have px2 := pos_of_ne x2
        have py1 := pos_of_ne y1
        have py2 := pos_of_ne y2
        simp only [List.length_nil] at hnum
        have d1 : ((st : Nat) : Int) < (m : Int) := by omega
        have d2 : ((m : Nat) : Int) < (e : Int) := by omega
        have d3 : ¬ ((a : Nat) : Int) < (st : Int) := by omega
        have d4 : ((st : Nat) : Int) < (mid : Int) := by omega
        have d5 : ((mid : Nat) : Int) < (e : Int) := by omega
        have d6 : ((e : Nat) : Int) < (b : Int) := by omega
        clear hnum
        have CR := rotate_any (fs (A ++ [])) (fs X2) (fs Y1) (fs (Y2 ++ B)) (.func (.func 44) #[] #[]) g cap L st m e rest wr (by have := RX.out; simpa [fs] using this) (by have := LEN.out; simp [fs] at this ⊢; omega) hn (by simpa [fs] using x2) (by simpa [fs] using y1) (by have := LEN.out; simp [fs] at this ⊢; omega) (by have := LEN.out; simp [fs] at this ⊢; omega) (by have := LEN.out; simp [fs] at this ⊢; omega)
        go_wp2_with fail
        refine Calls.mono CR ?_
        rintro er w1 ⟨rfl, hr1, hk1⟩
        have R1 : Hid (Rb w1 g (fs (A ++ [] ++ Y1 ++ (X2 ++ Y2 ++ B))) rest) := by unfold Hid; simpa [fs] using hr1
        have K2 : Hid (Kp g w w1) := K1.out.trans hk1
        clear hr1 hk1 CR
        obtain ⟨Z1, hZ1⟩ : ∃ Z, Y1 = Z := ⟨_, rfl⟩
        have R2 : Hid (Rb w1 g (fs (A ++ Z1 ++ (X2 ++ Y2 ++ B))) rest) := by have := R1.out; unfold Hid; rw [← hZ1]; simpa [fs] using this
        have K3 : Hid (Kp g w w1) := K2.out
        have P1 : Hid (Z1.Perm ([] ++ Y1) ∧ Z1.Pairwise lt) := by rw [← hZ1]; exact ⟨by simp, rise_left HXY.out.2.1⟩
        clear hZ1
        have hz1 := P1.out.1.length_eq
        have C2 := IH.out (A ++ Z1) X2 Y2 B mid e b w1 (by have := LEN.out; simp at this ⊢; have := py1; have := px2; have := py2; omega) x2 y2 (rise_right HXY.out.1) (rise_right HXY.out.2.1) (fun x hx y hy => HXY.out.2.2 x (by simp [hx]) y (by simp [hy])) (by have := R2.out; simpa [fs] using this) (by have := LEN.out; simp at this hz1 ⊢; omega) (by have := LEN.out; simp at this hz1 ⊢; omega) LEN.out.2.2.2.2.2.2.1 LEN.out.2.2.2.2.2.1
        go_wp2_with fail
        refine Calls.mono C2 ?_
        rintro er w3 ⟨rfl, Z2, z2p, z2r, hr1, hk1⟩
        have R3 : Hid (Rb w3 g (fs (A ++ Z1 ++ Z2 ++ B)) rest) := by unfold Hid; simpa [fs] using hr1
        have K4 : Hid (Kp g w w3) := K3.out.trans hk1
        have P2 : Hid (Z2.Perm (X2 ++ Y2) ∧ Z2.Pairwise lt) := ⟨z2p, z2r⟩
        clear hr1 hk1 C2 z2p z2r hz1
        go_wp2
        go_end0
        have ER := end_rise P1.out.1 P2.out.1 P1.out.2 P2.out.2 CUT.out
        exact ⟨rfl, Z1 ++ Z2, by simpa using ER.1, ER.2, by have := R3.out; simpa [fs] using this, K4.out⟩
      · have px1 := pos_of_ne x1
        subst x2
        have py1 := pos_of_ne y1
        have py2 := pos_of_ne y2
        simp only [List.length_nil] at hnum
        have d1 : ¬ ((st : Nat) : Int) < (m : Int) := by omega
        have d2 : ((m : Nat) : Int) < (e : Int) := by omega
        have d3 : ((a : Nat) : Int) < (st : Int) := by omega
        have d4 : ((st : Nat) : Int) < (mid : Int) := by omega
        have d5 : ¬ ((mid : Nat) : Int) < (e : Int) := by omega
        have d6 : ((e : Nat) : Int) < (b : Int) := by omega
        clear hnum
        have R1 : Hid (Rb wr g (fs (A ++ X1 ++ Y1 ++ ([] ++ Y2 ++ B))) rest) := by have := RX.out; unfold Hid; simpa [fs] using this
        have K2 : Hid (Kp g w wr) := K1.out
        have C1 := IH.out A X1 Y1 ([] ++ Y2 ++ B) a st mid wr (by have := LEN.out; simp at this ⊢; have := px1; have := py1; have := py2; omega) x1 y1 (rise_left HXY.out.1) (rise_left HXY.out.2.1) (fun x hx y hy => HXY.out.2.2 x (by simp [hx]) y (by simp [hy])) R1.out (by have := LEN.out; simp at this ⊢; omega) LEN.out.1 LEN.out.2.1 LEN.out.2.2.2.1
        go_wp2_with fail
        refine Calls.mono C1 ?_
        rintro er w2 ⟨rfl, Z1, z1p, z1r, hr1, hk1⟩
        have R2 : Hid (Rb w2 g (fs (A ++ Z1 ++ ([] ++ Y2 ++ B))) rest) := hr1
        have K3 : Hid (Kp g w w2) := K2.out.trans hk1
        have P1 : Hid (Z1.Perm (X1 ++ Y1) ∧ Z1.Pairwise lt) := ⟨z1p, z1r⟩
        clear hr1 hk1 C1 z1p z1r
        obtain ⟨Z2, hZ2⟩ : ∃ Z, Y2 = Z := ⟨_, rfl⟩
        have R3 : Hid (Rb w2 g (fs (A ++ Z1 ++ Z2 ++ B)) rest) := by have := R2.out; unfold Hid; rw [← hZ2]; simpa [fs] using this
        have K4 : Hid (Kp g w w2) := K3.out
        have P2 : Hid (Z2.Perm ([] ++ Y2) ∧ Z2.Pairwise lt) := by rw [← hZ2]; exact ⟨by simp, rise_right HXY.out.2.1⟩
        clear hZ2
        go_wp2
        go_end0
        have ER := end_rise P1.out.1 P2.out.1 P1.out.2 P2.out.2 CUT.out
        exact ⟨rfl, Z1 ++ Z2, by simpa using ER.1, ER.2, by have := R3.out; simpa [fs] using this, K4.out⟩
      · have px1 := pos_of_ne x1
        have px2 := pos_of_ne x2
        subst y1
        have py2 := pos_of_ne y2
        simp only [List.length_nil] at hnum
        have d1 : ((st : Nat) : Int) < (m : Int) := by omega
        have d2 : ¬ ((m : Nat) : Int) < (e : Int) := by omega
        have d3 : ((a : Nat) : Int) < (st : Int) := by omega
        have d4 : ¬ ((st : Nat) : Int) < (mid : Int) := by omega
        have d5 : ((mid : Nat) : Int) < (e : Int) := by omega
        have d6 : ((e : Nat) : Int) < (b : Int) := by omega
        clear hnum
        have R1 : Hid (Rb wr g (fs (A ++ X1 ++ [] ++ (X2 ++ Y2 ++ B))) rest) := by have := RX.out; unfold Hid; simpa [fs] using this
        have K2 : Hid (Kp g w wr) := K1.out
        obtain ⟨Z1, hZ1⟩ : ∃ Z, X1 = Z := ⟨_, rfl⟩
        have R2 : Hid (Rb wr g (fs (A ++ Z1 ++ (X2 ++ Y2 ++ B))) rest) := by have := R1.out; unfold Hid; rw [← hZ1]; simpa [fs] using this
        have K3 : Hid (Kp g w wr) := K2.out
        have P1 : Hid (Z1.Perm (X1 ++ []) ∧ Z1.Pairwise lt) := by rw [← hZ1]; exact ⟨by simp, rise_left HXY.out.1⟩
        clear hZ1
        have hz1 := P1.out.1.length_eq
        have C2 := IH.out (A ++ Z1) X2 Y2 B mid e b wr (by have := LEN.out; simp at this ⊢; have := px1; have := px2; have := py2; omega) x2 y2 (rise_right HXY.out.1) (rise_right HXY.out.2.1) (fun x hx y hy => HXY.out.2.2 x (by simp [hx]) y (by simp [hy])) (by have := R2.out; simpa [fs] using this) (by have := LEN.out; simp at this hz1 ⊢; omega) (by have := LEN.out; simp at this hz1 ⊢; omega) LEN.out.2.2.2.2.2.2.1 LEN.out.2.2.2.2.2.1
        go_wp2_with fail
        refine Calls.mono C2 ?_
        rintro er w3 ⟨rfl, Z2, z2p, z2r, hr1, hk1⟩
        have R3 : Hid (Rb w3 g (fs (A ++ Z1 ++ Z2 ++ B)) rest) := by unfold Hid; simpa [fs] using hr1
        have K4 : Hid (Kp g w w3) := K3.out.trans hk1
        have P2 : Hid (Z2.Perm (X2 ++ Y2) ∧ Z2.Pairwise lt) := ⟨z2p, z2r⟩
        clear hr1 hk1 C2 z2p z2r hz1
        go_wp2
        go_end0
        have ER := end_rise P1.out.1 P2.out.1 P1.out.2 P2.out.2 CUT.out
        exact ⟨rfl, Z1 ++ Z2, by simpa using ER.1, ER.2, by have := R3.out; simpa [fs] using this, K4.out⟩
      · have px1 := pos_of_ne x1
        have px2 := pos_of_ne x2
        have py1 := pos_of_ne y1
        subst y2
        simp only [List.length_nil] at hnum
        have d1 : ((st : Nat) : Int) < (m : Int) := by omega
        have d2 : ((m : Nat) : Int) < (e : Int) := by omega
        have d3 : ((a : Nat) : Int) < (st : Int) := by omega
        have d4 : ((st : Nat) : Int) < (mid : Int) := by omega
        have d5 : ((mid : Nat) : Int) < (e : Int) := by omega
        have d6 : ¬ ((e : Nat) : Int) < (b : Int) := by omega
        clear hnum
        have CR := rotate_any (fs (A ++ X1)) (fs X2) (fs Y1) (fs ([] ++ B)) (.func (.func 44) #[] #[]) g cap L st m e rest wr (by have := RX.out; simpa [fs] using this) (by have := LEN.out; simp [fs] at this ⊢; omega) hn (by simpa [fs] using x2) (by simpa [fs] using y1) (by have := LEN.out; simp [fs] at this ⊢; omega) (by have := LEN.out; simp [fs] at this ⊢; omega) (by have := LEN.out; simp [fs] at this ⊢; omega)
        go_wp2_with fail
        refine Calls.mono CR ?_
        rintro er w1 ⟨rfl, hr1, hk1⟩
        have R1 : Hid (Rb w1 g (fs (A ++ X1 ++ Y1 ++ (X2 ++ [] ++ B))) rest) := by unfold Hid; simpa [fs] using hr1
        have K2 : Hid (Kp g w w1) := K1.out.trans hk1
        clear hr1 hk1 CR
        have C1 := IH.out A X1 Y1 (X2 ++ [] ++ B) a st mid w1 (by have := LEN.out; simp at this ⊢; have := px1; have := py1; have := px2; omega) x1 y1 (rise_left HXY.out.1) (rise_left HXY.out.2.1) (fun x hx y hy => HXY.out.2.2 x (by simp [hx]) y (by simp [hy])) R1.out (by have := LEN.out; simp at this ⊢; omega) LEN.out.1 LEN.out.2.1 LEN.out.2.2.2.1
        go_wp2_with fail
        refine Calls.mono C1 ?_
        rintro er w2 ⟨rfl, Z1, z1p, z1r, hr1, hk1⟩
        have R2 : Hid (Rb w2 g (fs (A ++ Z1 ++ (X2 ++ [] ++ B))) rest) := hr1
        have K3 : Hid (Kp g w w2) := K2.out.trans hk1
        have P1 : Hid (Z1.Perm (X1 ++ Y1) ∧ Z1.Pairwise lt) := ⟨z1p, z1r⟩
        clear hr1 hk1 C1 z1p z1r
        obtain ⟨Z2, hZ2⟩ : ∃ Z, X2 = Z := ⟨_, rfl⟩
        have R3 : Hid (Rb w2 g (fs (A ++ Z1 ++ Z2 ++ B)) rest) := by have := R2.out; unfold Hid; rw [← hZ2]; simpa [fs] using this
        have K4 : Hid (Kp g w w2) := K3.out
        have P2 : Hid (Z2.Perm (X2 ++ []) ∧ Z2.Pairwise lt) := by rw [← hZ2]; exact ⟨by simp, rise_right HXY.out.1⟩
        clear hZ2
        go_wp2
        go_end0
        have ER := end_rise P1.out.1 P2.out.1 P1.out.2 P2.out.2 CUT.out
        exact ⟨rfl, Z1 ++ Z2, by simpa using ER.1, ER.2, by have := R3.out; simpa [fs] using this, K4.out⟩
      · subst x1
        have px2 := pos_of_ne x2
        have py1 := pos_of_ne y1
        subst y2
        simp only [List.length_nil] at hnum
        have d1 : ((st : Nat) : Int) < (m : Int) := by omega
        have d2 : ((m : Nat) : Int) < (e : Int) := by omega
        have d3 : ¬ ((a : Nat) : Int) < (st : Int) := by omega
        have d4 : ((st : Nat) : Int) < (mid : Int) := by omega
        have d5 : ((mid : Nat) : Int) < (e : Int) := by omega
        have d6 : ¬ ((e : Nat) : Int) < (b : Int) := by omega
        clear hnum
        have CR := rotate_any (fs (A ++ [])) (fs X2) (fs Y1) (fs ([] ++ B)) (.func (.func 44) #[] #[]) g cap L st m e rest wr (by have := RX.out; simpa [fs] using this) (by have := LEN.out; simp [fs] at this ⊢; omega) hn (by simpa [fs] using x2) (by simpa [fs] using y1) (by have := LEN.out; simp [fs] at this ⊢; omega) (by have := LEN.out; simp [fs] at this ⊢; omega) (by have := LEN.out; simp [fs] at this ⊢; omega)
        go_wp2_with fail
        refine Calls.mono CR ?_
        rintro er w1 ⟨rfl, hr1, hk1⟩
        have R1 : Hid (Rb w1 g (fs (A ++ [] ++ Y1 ++ (X2 ++ [] ++ B))) rest) := by unfold Hid; simpa [fs] using hr1
        have K2 : Hid (Kp g w w1) := K1.out.trans hk1
        clear hr1 hk1 CR
        obtain ⟨Z1, hZ1⟩ : ∃ Z, Y1 = Z := ⟨_, rfl⟩
        have R2 : Hid (Rb w1 g (fs (A ++ Z1 ++ (X2 ++ [] ++ B))) rest) := by have := R1.out; unfold Hid; rw [← hZ1]; simpa [fs] using this
        have K3 : Hid (Kp g w w1) := K2.out
        have P1 : Hid (Z1.Perm ([] ++ Y1) ∧ Z1.Pairwise lt) := by rw [← hZ1]; exact ⟨by simp, rise_left HXY.out.2.1⟩
        clear hZ1
        obtain ⟨Z2, hZ2⟩ : ∃ Z, X2 = Z := ⟨_, rfl⟩
        have R3 : Hid (Rb w1 g (fs (A ++ Z1 ++ Z2 ++ B)) rest) := by have := R2.out; unfold Hid; rw [← hZ2]; simpa [fs] using this
        have K4 : Hid (Kp g w w1) := K3.out
        have P2 : Hid (Z2.Perm (X2 ++ []) ∧ Z2.Pairwise lt) := by rw [← hZ2]; exact ⟨by simp, rise_right HXY.out.1⟩
        clear hZ2
        go_wp2
        go_end0
        have ER := end_rise P1.out.1 P2.out.1 P1.out.2 P2.out.2 CUT.out
        exact ⟨rfl, Z1 ++ Z2, by simpa using ER.1, ER.2, by have := R3.out; simpa [fs] using this, K4.out⟩
      · have px1 := pos_of_ne x1
        subst x2
        subst y1
        have py2 := pos_of_ne y2
        simp only [List.length_nil] at hnum
        have d1 : ¬ ((st : Nat) : Int) < (m : Int) := by omega
        have d2 : ¬ ((m : Nat) : Int) < (e : Int) := by omega
        have d3 : ((a : Nat) : Int) < (st : Int) := by omega
        have d4 : ¬ ((st : Nat) : Int) < (mid : Int) := by omega
        have d5 : ¬ ((mid : Nat) : Int) < (e : Int) := by omega
        have d6 : ((e : Nat) : Int) < (b : Int) := by omega
        clear hnum
        have R1 : Hid (Rb wr g (fs (A ++ X1 ++ [] ++ ([] ++ Y2 ++ B))) rest) := by have := RX.out; unfold Hid; simpa [fs] using this
        have K2 : Hid (Kp g w wr) := K1.out
        obtain ⟨Z1, hZ1⟩ : ∃ Z, X1 = Z := ⟨_, rfl⟩
        have R2 : Hid (Rb wr g (fs (A ++ Z1 ++ ([] ++ Y2 ++ B))) rest) := by have := R1.out; unfold Hid; rw [← hZ1]; simpa [fs] using this
        have K3 : Hid (Kp g w wr) := K2.out
        have P1 : Hid (Z1.Perm (X1 ++ []) ∧ Z1.Pairwise lt) := by rw [← hZ1]; exact ⟨by simp, rise_left HXY.out.1⟩
        clear hZ1
        obtain ⟨Z2, hZ2⟩ : ∃ Z, Y2 = Z := ⟨_, rfl⟩
        have R3 : Hid (Rb wr g (fs (A ++ Z1 ++ Z2 ++ B)) rest) := by have := R2.out; unfold Hid; rw [← hZ2]; simpa [fs] using this
        have K4 : Hid (Kp g w wr) := K3.out
        have P2 : Hid (Z2.Perm ([] ++ Y2) ∧ Z2.Pairwise lt) := by rw [← hZ2]; exact ⟨by simp, rise_right HXY.out.2.1⟩
        clear hZ2
        go_wp2
        go_end0
        have ER := end_rise P1.out.1 P2.out.1 P1.out.2 P2.out.2 CUT.out
        exact ⟨rfl, Z1 ++ Z2, by simpa using ER.1, ER.2, by have := R3.out; simpa [fs] using this, K4.out⟩
    · have hlt : ((st : Nat) : Int) < (r : Int) := by omega
      obtain ⟨t, ht⟩ : ∃ t, st + r = t := ⟨_, rfl⟩
      obtain ⟨c, hc⟩ : ∃ c, t / 2 = c := ⟨_, rfl⟩
      obtain ⟨q, hq⟩ : ∃ q, p - c = q := ⟨_, rfl⟩
      have hb1 := HLH.out
      have hb2 := HS.out
      have hb3 := HP.out
      have hb4 := HM.out
      have hcs : st ≤ c ∧ c < r := by omega
      have tt : ((st : Nat) : Int) + (r : Int) = (t : Nat) := by omega
      have wt : IntKind.i64.wrap ((t : Nat) : Int) = (t : Nat) := by rw [IntKind.wrap_i64]; omega
      have tc : ((t : Nat) : Int) / 2 = (c : Nat) := by omega
      have pq : ((p : Nat) : Int) - (c : Int) = (q : Nat) := by omega
      have wq : IntKind.i64.wrap ((q : Nat) : Int) = (q : Nat) := by rw [IntKind.wrap_i64]; omega
      have hqm : m ≤ q ∧ q < b := by omega
      have hcm : a ≤ c ∧ c < m := by omega
      obtain ⟨x, hx⟩ : ∃ x, X[c - a]? = some x := ⟨_, List.getElem?_eq_getElem (by omega)⟩
      obtain ⟨y, hy⟩ : ∃ y, Y[q - m]? = some y := ⟨_, List.getElem?_eq_getElem (by omega)⟩
      have Hx : Hid ((A ++ X ++ Y ++ B)[c]? = some x) := by unfold Hid; rw [in_x A X Y B hb4.1 hcm.1 (by omega)]; exact hx
      have Hy : Hid ((A ++ X ++ Y ++ B)[q]? = some y) := by unfold Hid; rw [in_y A X Y B (m := m) (by omega) hqm.1 (by omega)]; exact hy
      have IX : Hid (x.2 < y.2) := HXY.out.2.2 x (List.mem_of_getElem? hx) y (List.mem_of_getElem? hy)
      have FC : Hid (∀ W, Below wr.heap.size wr W → W.cell? ⟨g, c * 4, none⟩ = some (.int .i64 x.1.player) ∧ W.cell? ⟨g, c * 4 + 1, none⟩ = some (.int .i64 x.1.unit) ∧ W.cell? ⟨g, c * 4 + 2, none⟩ = some (.int .i64 x.1.what) ∧ W.cell? ⟨g, c * 4 + 3, none⟩ = some (.int .i64 x.1.arg) ∧ W.cell? ⟨g, q * 4, none⟩ = some (.int .i64 y.1.player) ∧ W.cell? ⟨g, q * 4 + 1, none⟩ = some (.int .i64 y.1.unit) ∧ W.cell? ⟨g, q * 4 + 2, none⟩ = some (.int .i64 y.1.what) ∧ W.cell? ⟨g, q * 4 + 3, none⟩ = some (.int .i64 y.1.arg)) := fun W hW => by
        have r := RB.out.below hW RB.out.lt
        obtain ⟨x0, x1, x2, x3⟩ := r.cells (fs_at Hx.out)
        obtain ⟨y0, y1, y2, y3⟩ := r.cells (fs_at Hy.out)
        exact ⟨x0, x1, x2, x3, y0, y1, y2, y3⟩
      have CC : Hid (∀ W, Below wr.heap.size wr W → Calls Tryd.prog 44 #[.agg #[.int .i64 y.1.player, .int .i64 y.1.unit, .int .i64 y.1.what, .int .i64 y.1.arg], .agg #[.int .i64 x.1.player, .int .i64 x.1.unit, .int .i64 x.1.what, .int .i64 x.1.arg]] W fun e w' => e = .returned (.int .i64 (cmpo y.1 x.1)) ∧ Below wr.heap.size wr w') := fun W hW => (compare_any y.1 x.1 W).mono fun e w' ⟨h1, h2⟩ => ⟨h1, hW.trans (h2.mono hW.size)⟩
      have ec := ecmp
      have hcL : ((c : Nat) : Int) < (L : Int) := by omega
      have hqL : ((q : Nat) : Int) < (L : Int) := by omega
      have HC : Hid (st ≤ c ∧ c < r ∧ q + c = p) := ⟨hcs.1, hcs.2, by omega⟩
      clear hb1 hb2 hb3 hb4 ht hc hq hcs hqm hcm hx hy hst hsr hrh
      go_upto_region 35 with fail
      refine wp_region_class 12 (fun W => Below wr.heap.size wr W) (by kernel_rfl) (by kernel_rfl) (Below.refl _ _).drew ?_
      simp only [List.take_succ_cons, List.take_zero, List.drop_succ_cons, List.drop_zero]
      refine head_step (.func (.func 44) #[] #[]) (by go_simp) (fun W hW => by go_simp) ?_
      go_simp
      refine head_step (.slice (some ⟨g, 0, none⟩) L cap) (by go_simp) (fun W hW => by go_simp) ?_
      go_simp
      refine head_step (.int .i64 (p : Int)) (by go_simp) (fun W hW => by go_simp) ?_
      go_simp
      refine head_step (.int .i64 (c : Int)) (by go_simp) (fun W hW => by go_simp) ?_
      go_simp
      refine head_step (.int .i64 (q : Int)) (by go_simp) (fun W hW => by go_simp) ?_
      go_simp
      refine head_step (.pointer (some ⟨g, q * 4, none⟩)) (by go_simp) (fun W hW => by go_simp) ?_
      go_simp
      refine head_step (.agg #[.int .i64 y.1.player, .int .i64 y.1.unit, .int .i64 y.1.what, .int .i64 y.1.arg]) (by go_simp) (fun W hW => by obtain ⟨-, -, -, -, y0, y1, y2, y3⟩ := FC.out W hW; go_simp) ?_
      go_simp
      refine head_step (.slice (some ⟨g, 0, none⟩) L cap) (by go_simp) (fun W hW => by go_simp) ?_
      go_simp
      refine head_step (.int .i64 (c : Int)) (by go_simp) (fun W hW => by go_simp) ?_
      go_simp
      refine head_step (.pointer (some ⟨g, c * 4, none⟩)) (by go_simp) (fun W hW => by go_simp) ?_
      go_simp
      refine head_step (.agg #[.int .i64 x.1.player, .int .i64 x.1.unit, .int .i64 x.1.what, .int .i64 x.1.arg]) (by go_simp) (fun W hW => by obtain ⟨x0, x1, x2, x3, -⟩ := FC.out W hW; go_simp) ?_
      go_simp
      refine head_call (.int .i64 (cmpo y.1 x.1)) 44 #[.agg #[.int .i64 y.1.player, .int .i64 y.1.unit, .int .i64 y.1.what, .int .i64 y.1.arg], .agg #[.int .i64 x.1.player, .int .i64 x.1.unit, .int .i64 x.1.what, .int .i64 x.1.arg]] (by go_simp) (fun W hW => by go_simp) (fun W hW => CC.out W hW) ?_
      go_simp
      intro W hW
      have RW : Hid (Rb W g (fs (A ++ X ++ Y ++ B)) rest) := RB.out.below hW RB.out.lt
      have KW : Hid (Kp g w W) := K1.out.trans (Kp.of hW)
      by_cases hcm : cmpo y.1 x.1 < 0
      · have LX : Hid (lt y x) := (ask_lt IX.out).1 ((klt_iff _ _).1 hcm)
        clear hW FC CC
        go_wp2
        go_roundw
        case rel =>
          obtain ⟨c1, c2, c3⟩ := HC.out
          obtain ⟨s1, s2, s3⟩ := HSR.out
          have hp := HP.out
          have eq : n - 1 - c = q := by omega
          exact ⟨st, c, rfl, rfl, s1, c1, by omega, F1.out, fun _ => ⟨x, y, Hx.out, by rw [eq]; exact Hy.out, LX.out⟩, RW.out, KW.out⟩
        case measure => have := HC.out; simp [intOf]; omega
      · have LX : Hid (lt x y) := (ask_ge IX.out).1 (fun h => hcm ((klt_iff _ _).2 h))
        clear hW FC CC
        go_wp2
        go_roundw
        case rel =>
          obtain ⟨c1, c2, c3⟩ := HC.out
          obtain ⟨s1, s2, s3⟩ := HSR.out
          have hp := HP.out
          have eq : n - (c + 1) = q := by omega
          exact ⟨c + 1, r, rfl, rfl, by omega, by omega, s3, fun _ => ⟨x, y, by rw [Nat.add_sub_cancel]; exact Hx.out, by rw [eq]; exact Hy.out, LX.out⟩, F2.out, RW.out, KW.out⟩
        case measure => have := HC.out; simp [intOf]; omega
end Go.Proofs.YtbomnicnoanjlaaDoor

namespace Go.Proofs.YtbomnicnoanjlaaDoor
open Go.RowKit Go.Proofs.YtbomnicnoanjlaaDoor.So
set_option linter.unusedVariables false

theorem sym_any : ∀ (N : Nat) (A X Y B : List T) (g cap L a m b : Nat) (rest : List Value) (w : World), X.length + Y.length ≤ N → X ≠ [] → Y ≠ [] → X.Pairwise lt → Y.Pairwise lt → (∀ x ∈ X, ∀ y ∈ Y, x.2 < y.2) → Rb w g (fs (A ++ X ++ Y ++ B)) rest → A.length + X.length + Y.length + B.length = L → L ≤ 1000 → A.length = a → a + X.length = m → m + Y.length = b →
    Calls Tryd.prog 53 #[.slice (some ⟨g, 0, none⟩) L cap, .int .i64 (a : Nat), .int .i64 (m : Nat), .int .i64 (b : Nat), .func (.func 44) #[] #[]] w (MergeSays A (X ++ Y) B g rest w)
  | 0, A, X, Y, B, g, cap, L, a, m, b, rest, w, hN, hX0, hY0, hX, hY, hpl, hr, hL, hn, ha, hm, hb => by
    have : X.length = 0 := by omega
    exact absurd (List.length_eq_zero_iff.1 this) hX0
  | N + 1, A, X, Y, B, g, cap, L, a, m, b, rest, w, hN, hX0, hY0, hX, hY, hpl, hr, hL, hn, ha, hm, hb => by
    by_cases hx1 : X.length = 1
    · obtain ⟨x, rfl⟩ := List.length_eq_one_iff.1 hx1
      refine sym_one A x Y B g cap L a m b rest w hY (fun y hy => hpl x (by simp) y hy) (by simpa using hr) (by simpa using hL) hn ha (by simpa using hm) hb
    by_cases hy1 : Y.length = 1
    · obtain ⟨y, rfl⟩ := List.length_eq_one_iff.1 hy1
      refine sym_last A X y B g cap L a m b rest w hX (fun x hx => hpl x hx y (by simp)) hx1 (by simpa using hr) (by simpa using hL) hn ha hm (by simpa using hb)
    have lx : 2 ≤ X.length := by have := List.length_pos_iff.2 hX0; omega
    have ly : 2 ≤ Y.length := by have := List.length_pos_iff.2 hY0; omega
    have IH : SymIH N g cap L rest := fun A X Y B a m b w h1 h2 h3 h4 h5 h6 h7 h8 h9 h10 h11 => sym_any N A X Y B g cap L a m b rest w h1 h2 h3 h4 h5 h6 h7 h8 hn h9 h10 h11
    rcases Nat.lt_or_ge ((a + b) / 2) m with h | h
    · exact sym_lo N A X Y B g cap L a m b rest w IH hN lx ly hX hY hpl hr hL hn ha hm hb h
    · exact sym_hi N A X Y B g cap L a m b rest w IH hN lx ly hX hY hpl hr hL hn ha hm hb h
end Go.Proofs.YtbomnicnoanjlaaDoor

