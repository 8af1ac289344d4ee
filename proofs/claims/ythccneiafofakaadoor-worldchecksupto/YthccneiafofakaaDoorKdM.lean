/- Kinds: what is wrong with them, their text, and back. Plain mathematics. -/
import Derived.Test.YthccneiafofakaaDoorTxM
namespace Go.Proofs.YthccneiafofakaaDoor.Kd
open Tx

/-- a kind: Life, Hit, Range, Sight, Speed, Price, Turns, Carry are its numbers. -/
structure K where
  name : List UInt8
  nums : List Int
  flies : Bool
  trains : Bool

def isLetter (b : UInt8) : Bool := decide (97 ≤ b.toNat) && decide (b.toNat ≤ 122)
def nameOk (l : List UInt8) : Bool := !l.isEmpty && (decide (l.length ≤ 8) && l.all isLetter)
def numsFault (ns : List Int) : Int := if ns.any (fun x => decide (x < 0 ∨ 1000 < x)) then 1 else if ns.getD 0 0 < 1 ∨ 4 < ns.getD 4 0 ∨ 12 < ns.getD 2 0 ∨ 12 < ns.getD 3 0 then 1 else 0
/-- what is wrong with one, those ahead being right. -/
def kindFault (ahead : List K) (k : K) : Int := if nameOk k.name then (if ahead.any (fun a => a.name == k.name) then 8 else numsFault k.nums) else 2
def kindsGo (ahead : List K) : List K → Int
  | [] => 0
  | k :: r => if kindFault ahead k = 0 then kindsGo (ahead ++ [k]) r else kindFault ahead k
/-- what is wrong with some. -/
def kindsFault (l : List K) : Int := if 8 < l.length then 4 else kindsGo [] l

def flag (b : Bool) (c : UInt8) : List UInt8 := if b then [c] else [45]
def words (k : K) : List (List UInt8) := k.name :: ((k.nums.map fun n => dig n.toNat) ++ [flag k.flies 102, flag k.trains 116])
def kline (k : K) : List UInt8 := join 32 (words k)
def prt (l : List K) : List UInt8 := l.flatMap fun k => kline k ++ [10]

def unflag (c : UInt8) (w : List UInt8) : Option Bool := if w = [c] then some true else if w = [45] then some false else none
def wholes : List (List UInt8) → Option (List Int)
  | [] => some []
  | w :: r => match whole 4 w, wholes r with
    | some n, some ns => some ((n : Int) :: ns)
    | _, _ => none
/-- the kind of a line's words. -/
def kwords (ws : List (List UInt8)) : Option K := if ws.length = 11 then
    match wholes ((ws.drop 1).take 8), unflag 102 (ws.getD 9 []), unflag 116 (ws.getD 10 []) with
    | some ns, some f, some t => some ⟨ws.getD 0 [], ns, f, t⟩
    | _, _, _ => none
  else none
/-- the kinds of some lines; else the line, and the fault. -/
def kparse (acc : List K) : List (List UInt8) → (Nat × Int) ⊕ List K
  | [] => .inr acc
  | [w] => if w = [] then .inr acc else .inl (acc.length, 2)
  | w :: v :: r => match kwords (cut 32 w) with
    | none => .inl (acc.length, 2)
    | some k => if acc.length = 8 then .inl (acc.length, 4) else if kindFault acc k = 0 then kparse (acc ++ [k]) (v :: r) else .inl (acc.length, kindFault acc k)
def parse (s : List UInt8) : (Nat × Int) ⊕ List K := kparse [] (cut 10 s)

/-- the form of a kind whose numbers can be told. -/
structure Fit (k : K) : Prop where
  len : k.nums.length = 8
  low : ∀ n ∈ k.nums, 0 ≤ n ∧ n < 10000

theorem fault_fit {ahead : List K} {k : K} (h : kindFault ahead k = 0) (hl : k.nums.length = 8) : Fit k ∧ nameOk k.name = true := by
  unfold kindFault at h
  split at h
  · rename_i hn
    split at h
    · omega
    · refine ⟨⟨hl, fun n hm => ?_⟩, hn⟩
      unfold numsFault at h
      split at h
      · omega
      · rename_i hx
        rw [Bool.not_eq_true, List.any_eq_false] at hx
        have := hx n hm
        simp at this
        omega
  · omega
theorem name_free {l : List UInt8} (h : nameOk l = true) (c : UInt8) (hc : c.toNat < 97) : c ∉ l := by
  intro hm
  unfold nameOk at h
  simp only [Bool.and_eq_true, List.all_eq_true] at h
  have := h.2.2 c hm
  unfold isLetter at this
  simp at this
  omega
theorem flag_free (b : Bool) (c d : UInt8) (h1 : d ≠ c) (h2 : d ≠ 45) : d ∉ flag b c := by
  unfold flag
  split
  · simpa using h1
  · simpa using h2
theorem words_free {k : K} (hn : nameOk k.name = true) (c : UInt8) (hc : c.toNat < 45) : ∀ w ∈ words k, c ∉ w := by
  intro w hw
  have h102 : c ≠ 102 := by rintro rfl; revert hc; decide
  have h116 : c ≠ 116 := by rintro rfl; revert hc; decide
  have h45 : c ≠ 45 := by rintro rfl; revert hc; decide
  unfold words at hw
  simp only [List.mem_cons, List.mem_append, List.mem_map, List.not_mem_nil, or_false] at hw
  rcases hw with rfl | ⟨n, _, rfl⟩ | rfl | rfl
  · exact name_free hn c (by omega)
  · exact dig_free _ c (by omega)
  · exact flag_free _ _ _ h102 h45
  · exact flag_free _ _ _ h116 h45
theorem mem_join {c d : UInt8} : ∀ {ws : List (List UInt8)}, d ∈ join c ws → d = c ∨ ∃ w ∈ ws, d ∈ w
  | [], h => by simp [join] at h
  | [w], h => .inr ⟨w, List.mem_cons_self .., h⟩
  | w :: v :: ws, h => by
    rw [join_cons (by simp), List.mem_append, List.mem_cons] at h
    rcases h with h | h | h
    · exact .inr ⟨w, List.mem_cons_self .., h⟩
    · exact .inl h
    · rcases mem_join h with h | ⟨x, hx, hd⟩
      · exact .inl h
      · exact .inr ⟨x, List.mem_cons_of_mem _ hx, hd⟩
theorem kline_free {k : K} (hn : nameOk k.name = true) : (10 : UInt8) ∉ kline k := by
  intro h
  rcases mem_join h with h | ⟨w, hw, hd⟩
  · revert h; decide
  · exact words_free hn 10 (by decide) w hw hd

theorem wholes_dig : ∀ {ns : List Int}, (∀ n ∈ ns, 0 ≤ n ∧ n < 10000) → wholes (ns.map fun n => dig n.toNat) = some ns
  | [], _ => rfl
  | n :: ns, h => by
    have h1 := h n (List.mem_cons_self ..)
    have e : whole 4 (dig n.toNat) = some n.toNat := whole_dig (by decide) (by show n.toNat < 10000; omega)
    have e2 := wholes_dig (ns := ns) (fun x hx => h x (List.mem_cons_of_mem _ hx))
    rw [List.map_cons, wholes, e, e2]
    simp
    omega
theorem wholes_back : ∀ {ws : List (List UInt8)} {ns : List Int}, wholes ws = some ns → (ns.map fun n => dig n.toNat) = ws ∧ ∀ n ∈ ns, 0 ≤ n
  | [], ns, h => by
    simp [wholes] at h
    subst h
    simp
  | w :: r, ns, h => by
    unfold wholes at h
    split at h
    · rename_i n ns' h1 h2
      injection h with h
      subst h
      obtain ⟨a1, a2⟩ := wholes_back h2
      refine ⟨?_, ?_⟩
      · rw [List.map_cons, a1, Int.toNat_natCast, dig_whole h1]
      · intro x hx
        rcases List.mem_cons.1 hx with rfl | hx
        · omega
        · exact a2 x hx
    · cases h
theorem unflag_flag (b : Bool) (c : UInt8) (h : c ≠ 45) : unflag c (flag b c) = some b := by
  unfold unflag flag
  cases b
  · have : ¬ ([45] : List UInt8) = [c] := by simp; exact fun e => h e.symm
    simp [this]
  · simp
theorem unflag_back {c : UInt8} {w : List UInt8} {b : Bool} (h : unflag c w = some b) : flag b c = w := by
  unfold unflag at h
  split at h
  · rename_i hw
    injection h with h
    subst h
    rw [hw]
    rfl
  · split at h
    · rename_i hw
      injection h with h
      subst h
      rw [hw]
      rfl
    · cases h
theorem kwords_words {k : K} (hf : Fit k) : kwords (words k) = some k := by
  obtain ⟨name, nums, f, t⟩ := k
  have hl : nums.length = 8 := hf.len
  have e1 : ((words ⟨name, nums, f, t⟩).drop 1).take 8 = nums.map fun n => dig n.toNat := by
    show ((nums.map fun n => dig n.toNat) ++ [flag f 102, flag t 116]).take 8 = _
    rw [List.take_left' (by rw [List.length_map]; exact hl)]
  have e2 : (words ⟨name, nums, f, t⟩).getD 9 [] = flag f 102 := by
    show (name :: ((nums.map fun n => dig n.toNat) ++ [flag f 102, flag t 116])).getD 9 [] = _
    rw [List.getD_cons_succ, List.getD_eq_getElem?_getD, List.getElem?_append_right (by rw [List.length_map]; omega), List.length_map, hl]
    rfl
  have e3 : (words ⟨name, nums, f, t⟩).getD 10 [] = flag t 116 := by
    show (name :: ((nums.map fun n => dig n.toNat) ++ [flag f 102, flag t 116])).getD 10 [] = _
    rw [List.getD_cons_succ, List.getD_eq_getElem?_getD, List.getElem?_append_right (by rw [List.length_map]; omega), List.length_map, hl]
    rfl
  unfold kwords
  rw [if_pos (by simp [words, hl]), e1, e2, e3, wholes_dig hf.low, unflag_flag f 102 (by decide), unflag_flag t 116 (by decide)]
  rfl
theorem list11 {ws : List (List UInt8)} (h : ws.length = 11) : ws = ws.getD 0 [] :: ((ws.drop 1).take 8 ++ [ws.getD 9 [], ws.getD 10 []]) := by
  match ws, h with
  | [w0, w1, w2, w3, w4, w5, w6, w7, w8, w9, w10], _ => rfl
theorem words_kwords {ws : List (List UInt8)} {k : K} (h : kwords ws = some k) : words k = ws ∧ k.nums.length = 8 := by
  unfold kwords at h
  split at h
  · rename_i hl
    split at h
    · rename_i ns f t h1 h2 h3
      injection h with h
      subst h
      have a := wholes_back h1
      refine ⟨?_, ?_⟩
      · unfold words
        rw [a.1, unflag_back h2, unflag_back h3]
        exact (list11 hl).symm
      · show ns.length = 8
        have := congrArg List.length a.1
        rw [List.length_map, List.length_take, List.length_drop] at this
        omega
    · cases h
  · cases h

theorem cut_prt : ∀ {l : List K}, (∀ k ∈ l, nameOk k.name = true) → cut 10 (prt l) = l.map kline ++ [[]]
  | [], _ => rfl
  | k :: l, h => by
    show cut 10 ((kline k ++ [10]) ++ prt l) = _
    rw [List.append_assoc]
    show cut 10 (kline k ++ 10 :: prt l) = _
    rw [cut_app (kline_free (h k (List.mem_cons_self ..))), cut_prt (fun x hx => h x (List.mem_cons_of_mem _ hx))]
    rfl
theorem kindsGo_all : ∀ {l acc : List K}, kindsGo acc l = 0 → (∀ k ∈ l, k.nums.length = 8) → ∀ k ∈ l, Fit k ∧ nameOk k.name = true
  | [], _, _, _, k, hk => by simp at hk
  | x :: l, acc, h, hl, k, hk => by
    unfold kindsGo at h
    split at h
    · rename_i h0
      rcases List.mem_cons.1 hk with rfl | hk
      · exact fault_fit h0 (hl k (List.mem_cons_self ..))
      · exact kindsGo_all h (fun y hy => hl y (List.mem_cons_of_mem _ hy)) k hk
    · rename_i h0
      exact absurd h h0
theorem kparse_lines : ∀ {l acc : List K}, kindsGo acc l = 0 → (∀ k ∈ l, k.nums.length = 8) → acc.length + l.length ≤ 8 → kparse acc (l.map kline ++ [[]]) = .inr (acc ++ l)
  | [], acc, _, _, _ => by simp [kparse]
  | k :: l, acc, h, hl, hn => by
    unfold kindsGo at h
    split at h
    · rename_i h0
      have hk := fault_fit h0 (hl k (List.mem_cons_self ..))
      have e : cut 32 (kline k) = words k := cut_join (by simp [words]) (words_free hk.2 32 (by decide))
      have ih := kparse_lines (l := l) (acc := acc ++ [k]) h (fun y hy => hl y (List.mem_cons_of_mem _ hy)) (by simp at hn ⊢; omega)
      simp only [List.length_cons] at hn
      cases l with
      | nil =>
        show kparse acc [kline k, []] = _
        rw [kparse, e, kwords_words hk.1]
        simp only
        rw [if_neg (by simp at hn; omega), if_pos h0]
        simpa using ih
      | cons k2 l =>
        show kparse acc (kline k :: kline k2 :: (l.map kline ++ [[]])) = _
        rw [kparse, e, kwords_words hk.1]
        simp only
        rw [if_neg (by simp at hn; omega), if_pos h0]
        simpa using ih
    · rename_i h0
      exact absurd h h0
/-- what is printed is read as it was. -/
theorem parse_prt {l : List K} (h : kindsFault l = 0) (hl : ∀ k ∈ l, k.nums.length = 8) : parse (prt l) = .inr l := by
  unfold kindsFault at h
  split at h
  · omega
  · have a := kindsGo_all h hl
    unfold parse
    rw [cut_prt (fun k hk => (a k hk).2), kparse_lines h hl (by simp; omega)]
    rfl
theorem prt_lines : ∀ {ls : List (List UInt8)} {acc l : List K}, ls ≠ [] → kparse acc ls = .inr l → acc.length ≤ 8 → ∃ l', l = acc ++ l' ∧ prt l' = join 10 ls ∧ kindsGo acc l' = 0 ∧ l.length ≤ 8 ∧ ∀ k ∈ l', k.nums.length = 8
  | [], _, _, h, _, _ => absurd rfl h
  | [w], acc, l, _, h, ha => by
    unfold kparse at h
    split at h
    · rename_i hw
      injection h with h
      subst h
      subst hw
      exact ⟨[], by simp, rfl, rfl, ha, by simp⟩
    · cases h
  | w :: v :: r, acc, l, _, h, ha => by
    unfold kparse at h
    split at h
    · cases h
    · rename_i k hk
      split at h
      · cases h
      · rename_i h8
        split at h
        · rename_i h0
          obtain ⟨l', e1, e2, e3, e4, e5⟩ := prt_lines (by simp) h (by simp; omega)
          have a := words_kwords hk
          refine ⟨k :: l', by rw [e1]; simp, ?_, ?_, e4, ?_⟩
          · show (kline k ++ [10]) ++ prt l' = _
            rw [join_cons (by simp), e2, show kline k = w by unfold kline; rw [a.1, join_cut]]
            simp
          · unfold kindsGo
            rw [if_pos h0]
            exact e3
          · intro x hx
            rcases List.mem_cons.1 hx with rfl | hx
            · exact a.2
            · exact e5 x hx
        · cases h
/-- what any text is read as is printed as that text. -/
theorem prt_parse {s : List UInt8} {l : List K} (h : parse s = .inr l) : prt l = s ∧ kindsFault l = 0 ∧ ∀ k ∈ l, k.nums.length = 8 := by
  unfold parse at h
  obtain ⟨l', e1, e2, e3, e4, e5⟩ := prt_lines (cut_ne 10 s) h (by simp)
  rw [List.nil_append] at e1
  subst e1
  refine ⟨by rw [e2, join_cut], ?_, e5⟩
  unfold kindsFault
  rw [if_neg (by omega)]
  exact e3
end Go.Proofs.YthccneiafofakaaDoor.Kd
