/- slices.IndexFunc and ContainsFunc, of any function that tells yes or no and turns nothing. · Worlds: a unit by its id; whether a list has one of that number. · Texts: cut at a byte and joined again; whole numbers as digits. Plain mathematics. · Kinds: what is wrong with them, their text, and back. Plain mathematics. · Kinds in memory. · Fight: how far two cells are, who is safe of whom, who is struck: plain mathematics. · fight.apart, and target's three functions. · fight.target's three functions; cmp.Or of two numbers. · Fields: plain mathematics. · An error that is told. · Fields: what is wrong with a cell, with a field. · Fields: what Check says. · A world's value: its five slices; its field. -/
import Derived.Test.YtplnhgllbhdfjaaZFightNear1
import Derived.Test.YtplnhgllbhdfjaaZFightNear2
import Derived.WideShapes
import Derived.BigQuiet
import Derived.LoopN
import Derived.Test.YtplnhgllbhdfjaaRows
namespace Go.Proofs.Ytplnhgllbhdfjaa
open Go.RowKit
set_option linter.unusedVariables false

theorem any_next {p : Int → Bool} {xs : List Int} {k : Nat} (h : k < xs.length) : (xs.take (k + 1)).any p = ((xs.take k).any p || p xs[k]) := by
  rw [List.take_succ_eq_append_getElem h, List.any_append]
  simp

/-- r is where the first is; -1: there is none. -/
def Fst (p : Int → Bool) (xs : List Int) (r : Int) : Prop := (r = -1 ∧ xs.any p = false) ∨ ∃ (k : Nat) (x : Int), r = k ∧ xs[k]? = some x ∧ p x = true ∧ (xs.take k).any p = false

set_option maxHeartbeats 1000000 in
theorem idxf_any (K : Nat) (eK : ∀ args w, (callFunc K args).run Try.prog w = .ok (.enter K args) w) (u : Value) (cs : Array Value) (xs : List Int) (p : Int → Bool) (w : World) (hu : Ro w u xs)
    (hp : ∀ m, ∀ x ∈ xs, Calls Try.prog K (#[.int .i64 x] ++ cs) (w.drewN m) fun e w' => e = .returned (.bool (p x)) ∧ ∃ q, w' = w.drewN q) :
    Calls Try.prog 83 #[u, .func (Fn.func K) #[] cs] w fun e w' => ∃ r : Int, e = .returned (.int .i64 r) ∧ Fst p xs r ∧ ∃ q, w' = w.drewN q := by
  obtain ⟨a, c, rfl, c1, c2, ca⟩ := hu
  have Ca : Hid (Cells w a xs) := ca
  have Hp : Hid (∀ m, ∀ x ∈ xs, Calls Try.prog K (#[.int .i64 x] ++ cs) (w.drewN m) fun e w' => e = .returned (.bool (p x)) ∧ ∃ q, w' = w.drewN q) := hp
  clear ca hp
  go_enter Try.func83, Try.ntmps83
  go_wp2
  go_loopw [8] (fun i W' => ∃ k q : Nat, k ≤ xs.length ∧ i = .int .i64 (k : Nat) ∧ (xs.take k).any p = false ∧ W' = w.drewN q) (fun i _ => xs.length - (intOf i).toNat)
  case atStart => exact ⟨0, 0, Nat.zero_le _, rfl, by simp, rfl⟩
  case round =>
    obtain ⟨k, q, hk, rfl, ht, rfl⟩ := hrel
    have Ht : Hid ((xs.take k).any p = false) := ht
    clear ht
    by_cases h0 : k = xs.length
    · subst h0
      go_wp2
      go_ret
      refine ⟨_, rfl, .inl ⟨rfl, ?_⟩, _, rfl⟩
      have := Ht.out
      rw [List.take_of_length_le (Nat.le_refl _)] at this
      exact this
    · have hkx : k < xs.length := by omega
      obtain ⟨x, rfl, -, hx⟩ := Ca.out (by intro h; rw [h] at hkx; simp at hkx)
      have cx : (w.drewN q).cell? (x.add k) = some (.int .i64 xs[k]) := hx k xs[k] (List.getElem?_eq_getElem hkx)
      have hc := Hp.out q xs[k] (List.getElem_mem hkx)
      have Hs : Hid _ := any_next (p := p) hkx
      have Hm : Hid (xs[k]? = some xs[k]) := List.getElem?_eq_getElem hkx
      generalize xs[k] = y at *
      generalize w.drewN q = w1 at *
      clear hx
      cases hy : p y with
      | true =>
        rw [hy] at hc
        have Hc : Hid (Calls Try.prog K (#[.int .i64 y] ++ cs) w1 fun e w' => e = .returned (.bool true) ∧ ∃ q, w' = w.drewN q) := hc
        have Hy : Hid (p y = true) := hy
        clear hc hy
        go_wp2_with fail
        refine Calls.mono Hc.out ?_
        rintro e w1 ⟨rfl, q1, rfl⟩
        go_wp2
        go_ret
        exact ⟨_, rfl, .inr ⟨k, y, rfl, Hm, Hy, Ht⟩, q1, rfl⟩
      | false =>
        rw [hy] at hc
        have Hc : Hid (Calls Try.prog K (#[.int .i64 y] ++ cs) w1 fun e w' => e = .returned (.bool false) ∧ ∃ q, w' = w.drewN q) := hc
        have Hy : Hid (p y = false) := hy
        clear hc hy
        go_wp2_with fail
        refine Calls.mono Hc.out ?_
        rintro e w1 ⟨rfl, q1, rfl⟩
        go_wp2
        go_round
        case rel => exact ⟨k + 1, q1, by omega, by go_num, by have := Hs.out; rw [Ht.out, Hy.out] at this; exact this, rfl⟩
        case measure => simp [intOf]; omega

theorem Fst.has {p : Int → Bool} {xs : List Int} {r : Int} (h : Fst p xs r) : decide (0 ≤ r) = xs.any p := by
  rcases h with ⟨rfl, h⟩ | ⟨k, x, rfl, h1, h2, _⟩
  · rw [h]; decide
  · rw [decide_eq_true (by omega)]
    exact (List.any_eq_true.2 ⟨x, List.mem_of_getElem? h1, h2⟩).symm

set_option maxHeartbeats 1000000 in
theorem hasf_any (K : Nat) (eK : ∀ args w, (callFunc K args).run Try.prog w = .ok (.enter K args) w) (u : Value) (cs : Array Value) (xs : List Int) (p : Int → Bool) (w : World) (hu : Ro w u xs)
    (hp : ∀ m, ∀ x ∈ xs, Calls Try.prog K (#[.int .i64 x] ++ cs) (w.drewN m) fun e w' => e = .returned (.bool (p x)) ∧ ∃ q, w' = w.drewN q) :
    Calls Try.prog 69 #[u, .func (Fn.func K) #[] cs] w fun e w' => e = .returned (.bool (xs.any p)) ∧ ∃ q, w' = w.drewN q := by
  have H := idxf_any K eK u cs xs p w hu hp
  have H' : Hid (Calls Try.prog 83 #[u, .func (Fn.func K) #[] cs] w fun e w' => ∃ r : Int, e = .returned (.int .i64 r) ∧ Fst p xs r ∧ ∃ q, w' = w.drewN q) := H
  clear H hp
  go_enter Try.func69, Try.ntmps69
  go_wp2_with fail
  refine Calls.mono H'.out ?_
  rintro e w1 ⟨r, rfl, hr, q, rfl⟩
  have Hr : Hid (decide (0 ≤ r) = xs.any p) := hr.has
  clear hr
  go_wp2
  go_ret
  exact ⟨by show Ending.returned (.bool (decide (0 ≤ r))) = _; rw [Hr.out], q, rfl⟩
end Go.Proofs.Ytplnhgllbhdfjaa

namespace Go.Proofs.Ytplnhgllbhdfjaa
open Go.RowKit
set_option linter.unusedVariables false

theorem FstU.one {p : UnV → Bool} {us : List UnV} {r r' : Int} (h : FstU p us r) (h' : FstU p us r') : r = r' := by
  rcases h with ⟨rfl, h1⟩ | ⟨k, x, rfl, h1, h2, h3⟩
  · rcases h' with ⟨rfl, _⟩ | ⟨k, x, rfl, g1, g2, g3⟩
    · rfl
    · have : us.any p = true := List.any_eq_true.2 ⟨x, List.mem_of_getElem? g1, g2⟩
      rw [h1] at this; cases this
  · rcases h' with ⟨rfl, g⟩ | ⟨k', x', rfl, g1, g2, g3⟩
    · have : us.any p = true := List.any_eq_true.2 ⟨x, List.mem_of_getElem? h1, h2⟩
      rw [g] at this; cases this
    · rcases Nat.lt_trichotomy k k' with hl | hl | hl
      · have : (us.take k').any p = true := List.any_eq_true.2 ⟨x, List.mem_of_getElem? (by rw [List.getElem?_take, if_pos hl]; exact h1), h2⟩
        rw [g3] at this; cases this
      · rw [hl]
      · have : (us.take k).any p = true := List.any_eq_true.2 ⟨x', List.mem_of_getElem? (by rw [List.getElem?_take, if_pos hl]; exact g1), g2⟩
        rw [h3] at this; cases this
set_option maxHeartbeats 1000000 in
theorem fid_any (u : UnV) (id : Int) (b : Nat) (w : World) (hc : w.cell? ⟨b, 0, none⟩ = some (.int .i64 id)) :
    Calls Try.prog 54 #[u.val, .pointer (some ⟨b, 0, none⟩)] w fun e w' => e = .returned (.bool (u.id == id)) ∧ Below w.heap.size w w' := by
  have hb : b < w.heap.size := cell_lt hc
  have hne : b ≠ w.heap.size := by omega
  unfold UnV.val
  go_enter Try.func54, Try.ntmps54
  go_wp2
  go_ret
  exact ⟨rfl, (Below.refl _ _).alloc (Nat.le_refl _) _⟩
set_option maxHeartbeats 1000000 in
theorem wfind_any (v : Value) (W : WV) (id : Int) (w : World) (h : Wl w v W) :
    Calls Try.prog 28 #[v, .int .i64 id] w fun e w' => ∃ r : Int, e = .returned (.int .i64 r) ∧ FstU (fun u => u.id == id) W.us r ∧ Below w.heap.size w w' := by
  have H : Hid (Wl w v W) := h
  obtain ⟨u1, u2, u3, u4, u5, rfl, -, -, -, h4, -⟩ := h
  have U : Hid (Unl w u4 W.us) := h4
  clear h4
  go_enter Try.func28, Try.ntmps28
  go_wp2_with fail
  have B0 : Hid (Below w.heap.size w ((w.alloc (Obj.cells #[.int .i64 W.turn, .int .i64 W.next, .int .i64 W.wide, .int .i64 W.high, u1, u2, u3, u4, u5] 29)).alloc (Obj.cells #[.int .i64 id] 3))) := ((Below.refl _ _).alloc (Nat.le_refl _) _).alloc (by simp) _
  have C0 : Hid (((w.alloc (Obj.cells #[.int .i64 W.turn, .int .i64 W.next, .int .i64 W.wide, .int .i64 W.high, u1, u2, u3, u4, u5] 29)).alloc (Obj.cells #[.int .i64 id] 3)).cell? ⟨w.heap.size + 1, 0, none⟩ = some (.int .i64 id)) := cell_of_new (by simp) rfl
  generalize ((w.alloc (Obj.cells #[.int .i64 W.turn, .int .i64 W.next, .int .i64 W.wide, .int .i64 W.high, u1, u2, u3, u4, u5] 29)).alloc (Obj.cells #[.int .i64 id] 3)) = w0 at *
  refine (idxu_any 54 (by intro args w; go_simp) u4 #[.pointer (some ⟨w.heap.size + 1, 0, none⟩)] W.us (fun u => u.id == id) w0 (U.out.below B0.out) (fun V hV k => fid_any k id (w.heap.size + 1) V (by rw [hV.cell (p := ⟨w.heap.size + 1, 0, none⟩) (cell_lt C0.out)]; exact C0.out))).mono ?_
  rintro e w1 ⟨r, rfl, hf, hb⟩
  have F : Hid (FstU (fun u => u.id == id) W.us r ∧ Below w.heap.size w w1) := ⟨hf, B0.out.trans (hb.mono B0.out.size)⟩
  clear hf hb
  go_wp2
  go_ret
  exact ⟨r, rfl, F.out.1, F.out.2⟩
set_option maxHeartbeats 1000000 in
theorem isone_ints (a : Option Addr) (n c : Nat) (i : Int) (w : World) (hn : n ≤ 9223372036854775807) :
    Calls Try.prog 65 #[.slice a n c, .int .i64 i] w fun e w' => e = .returned (.bool (decide (0 ≤ i ∧ i < (n : Int)))) ∧ w' = w := by
  have hw : IntKind.i64.wrap ((n : Int) - 1) = (n : Int) - 1 := by rw [IntKind.wrap_i64]; omega
  go_enter Try.func65, Try.ntmps65
  go_wp2_with fail
  refine (wwithin_any i 0 ((n : Int) - 1) w).mono ?_
  rintro e w1 ⟨rfl, rfl⟩
  have E : decide (0 ≤ i ∧ i ≤ (n : Int) - 1) = decide (0 ≤ i ∧ i < (n : Int)) := decide_eq_decide.2 ⟨fun h => by omega, fun h => by omega⟩
  rw [E]
  obtain ⟨b, hb⟩ : ∃ b, decide (0 ≤ i ∧ i < (n : Int)) = b := ⟨_, rfl⟩
  rw [hb]
  have HB : Hid (decide (0 ≤ i ∧ i < (n : Int)) = b) := hb
  clear hb E
  go_wp2
  go_ret
  exact ⟨by rw [HB.out]; rfl, rfl⟩
set_option maxHeartbeats 1000000 in
theorem isone_kinds (a : Option Addr) (n c : Nat) (i : Int) (w : World) (hn : n ≤ 9223372036854775807) :
    Calls Try.prog 66 #[.slice a n c, .int .i64 i] w fun e w' => e = .returned (.bool (decide (0 ≤ i ∧ i < (n : Int)))) ∧ w' = w := by
  have hw : IntKind.i64.wrap ((n : Int) - 1) = (n : Int) - 1 := by rw [IntKind.wrap_i64]; omega
  go_enter Try.func66, Try.ntmps66
  go_wp2_with fail
  refine (wwithin_any i 0 ((n : Int) - 1) w).mono ?_
  rintro e w1 ⟨rfl, rfl⟩
  have E : decide (0 ≤ i ∧ i ≤ (n : Int) - 1) = decide (0 ≤ i ∧ i < (n : Int)) := decide_eq_decide.2 ⟨fun h => by omega, fun h => by omega⟩
  rw [E]
  obtain ⟨b, hb⟩ : ∃ b, decide (0 ≤ i ∧ i < (n : Int)) = b := ⟨_, rfl⟩
  rw [hb]
  have HB : Hid (decide (0 ≤ i ∧ i < (n : Int)) = b) := hb
  clear hb E
  go_wp2
  go_ret
  exact ⟨by rw [HB.out]; rfl, rfl⟩
end Go.Proofs.Ytplnhgllbhdfjaa

namespace Go.Proofs.Ytplnhgllbhdfjaa.Tx

/-- a text at each byte c. -/
def cut (c : UInt8) : List UInt8 → List (List UInt8)
  | [] => [[]]
  | b :: r => if b = c then [] :: cut c r else match cut c r with
    | [] => [[b]]
    | w :: ws => (b :: w) :: ws
/-- and back. -/
def join (c : UInt8) : List (List UInt8) → List UInt8
  | [] => []
  | [w] => w
  | w :: v :: ws => w ++ c :: join c (v :: ws)

theorem cut_ne (c : UInt8) (l : List UInt8) : cut c l ≠ [] := by
  cases l with
  | nil => simp [cut]
  | cons b r =>
    unfold cut
    split
    · simp
    · split <;> simp
theorem join_cons {c : UInt8} {w : List UInt8} {ws : List (List UInt8)} (h : ws ≠ []) : join c (w :: ws) = w ++ c :: join c ws := by
  cases ws with
  | nil => exact absurd rfl h
  | cons v ws => rfl
theorem join_cut (c : UInt8) (l : List UInt8) : join c (cut c l) = l := by
  induction l with
  | nil => rfl
  | cons b r ih =>
    unfold cut
    split
    · rename_i h
      rw [join_cons (cut_ne c r), ih, h]
      rfl
    · cases hw : cut c r with
      | nil => exact absurd hw (cut_ne c r)
      | cons w ws =>
        rw [hw] at ih
        cases ws with
        | nil => rw [← ih]; rfl
        | cons v ws => rw [← ih]; rfl
/-- no word has the byte. -/
theorem cut_free (c : UInt8) (l : List UInt8) : ∀ w ∈ cut c l, c ∉ w := by
  induction l with
  | nil => intro w hw; simp [cut] at hw; subst hw; simp
  | cons b r ih =>
    intro w hw
    unfold cut at hw
    split at hw
    · rcases List.mem_cons.1 hw with rfl | hw
      · simp
      · exact ih w hw
    · rename_i hb
      cases hc : cut c r with
      | nil => exact absurd hc (cut_ne c r)
      | cons v vs =>
        rw [hc] at hw ih
        rcases List.mem_cons.1 hw with rfl | hw
        · intro h
          rcases List.mem_cons.1 h with h | h
          · exact hb h.symm
          · exact ih v (List.mem_cons_self ..) h
        · exact ih w (List.mem_cons_of_mem _ hw)
theorem cut_cons {c b : UInt8} {r w : List UInt8} {ws : List (List UInt8)} (h : b ≠ c) (hr : cut c r = w :: ws) : cut c (b :: r) = (b :: w) :: ws := by
  rw [cut, if_neg h, hr]
theorem cut_word {c : UInt8} {w : List UInt8} (h : c ∉ w) : cut c w = [w] := by
  induction w with
  | nil => rfl
  | cons b w ih =>
    rw [List.mem_cons, not_or] at h
    unfold cut
    rw [if_neg (fun e => h.1 e.symm), ih h.2]
theorem cut_app {c : UInt8} {w : List UInt8} (h : c ∉ w) (r : List UInt8) : cut c (w ++ c :: r) = w :: cut c r := by
  induction w with
  | nil => simp [cut]
  | cons b w ih =>
    rw [List.mem_cons, not_or] at h
    rw [List.cons_append, cut_cons (fun e => h.1 e.symm) (ih h.2)]
theorem cut_join {c : UInt8} : ∀ {ws : List (List UInt8)}, ws ≠ [] → (∀ w ∈ ws, c ∉ w) → cut c (join c ws) = ws
  | [], h, _ => absurd rfl h
  | [w], _, h => cut_word (h w (List.mem_cons_self ..))
  | w :: v :: ws, _, h => by
    rw [join_cons (by simp), cut_app (h w (List.mem_cons_self ..)), cut_join (by simp) (fun x hx => h x (List.mem_cons_of_mem _ hx))]

/-- a digit. -/
def isDig (b : UInt8) : Bool := decide (48 ≤ b.toNat) && decide (b.toNat ≤ 57)
/-- the digits of a number. -/
def dig (n : Nat) : List UInt8 := if n < 10 then [(48 + n).toUInt8] else dig (n / 10) ++ [(48 + n % 10).toUInt8]
termination_by n
/-- the number of some digits. -/
def val (l : List UInt8) : Nat := l.foldl (fun n b => n * 10 + (b.toNat - 48)) 0
/-- a whole number of at most so many digits, without a needless 0. -/
def whole (most : Nat) (l : List UInt8) : Option Nat := if l = [] ∨ most < l.length ∨ (l.head? = some 48 ∧ 1 < l.length) then none else if l.all isDig then some (val l) else none

theorem dig_small {n : Nat} (h : n < 10) : dig n = [(48 + n).toUInt8] := by rw [dig, if_pos h]
theorem dig_big {n : Nat} (h : ¬ n < 10) : dig n = dig (n / 10) ++ [(48 + n % 10).toUInt8] := by rw [dig, if_neg h]
theorem sign_nat {d : Nat} (h : d < 10) : ((48 + d).toUInt8).toNat = 48 + d := by
  show (48 + d) % 256 = 48 + d
  omega
theorem val_snoc (l : List UInt8) (b : UInt8) : val (l ++ [b]) = val l * 10 + (b.toNat - 48) := by
  unfold val
  rw [List.foldl_append]
  rfl
theorem dig_ne (n : Nat) : dig n ≠ [] := by
  rw [dig]
  split <;> simp
theorem dig_all (n : Nat) : (dig n).all isDig = true := by
  induction n using Nat.strongRecOn with
  | ind n ih =>
    by_cases h : n < 10
    · rw [dig_small h]
      simp [isDig]
      omega
    · rw [dig_big h, List.all_append, ih (n / 10) (by omega)]
      simp [isDig]
      omega
theorem val_dig (n : Nat) : val (dig n) = n := by
  induction n using Nat.strongRecOn with
  | ind n ih =>
    by_cases h : n < 10
    · rw [dig_small h]
      show 0 * 10 + (((48 + n).toUInt8).toNat - 48) = n
      rw [sign_nat h]
      omega
    · rw [dig_big h, val_snoc, ih (n / 10) (by omega), sign_nat (show n % 10 < 10 by omega)]
      omega
theorem dig_head (n : Nat) : (dig n).head? = some 48 → n = 0 := by
  induction n using Nat.strongRecOn with
  | ind n ih =>
    intro h
    by_cases hn : n < 10
    · rw [dig_small hn] at h
      simp only [List.head?_cons, Option.some.injEq] at h
      have h2 : ((48 + n).toUInt8).toNat = 48 := by rw [h]; rfl
      rw [sign_nat hn] at h2
      omega
    · rw [dig_big hn] at h
      cases hd : dig (n / 10) with
      | nil => exact absurd hd (dig_ne _)
      | cons b r =>
        rw [hd] at h
        have := ih (n / 10) (by omega) (by rw [hd]; simpa using h)
        omega
theorem dig_len {n : Nat} : ∀ {k : Nat}, 0 < k → n < 10 ^ k → (dig n).length ≤ k := by
  induction n using Nat.strongRecOn with
  | ind n ih =>
    intro k hk h
    by_cases hn : n < 10
    · rw [dig_small hn]
      simp
      omega
    · rw [dig_big hn, List.length_append]
      cases k with
      | zero => omega
      | succ k =>
        have hk0 : 0 < k := by
          rcases Nat.eq_zero_or_pos k with rfl | hp
          · simp at h; omega
          · exact hp
        have h2 : n / 10 < 10 ^ k := by
          rw [Nat.pow_succ] at h
          omega
        have := ih (n / 10) (by omega) hk0 h2
        simp
        omega
theorem whole_dig {n most : Nat} (h0 : 0 < most) (h : n < 10 ^ most) : whole most (dig n) = some n := by
  unfold whole
  rw [if_neg, if_pos (dig_all n), val_dig]
  rintro (h1 | h1 | ⟨h1, h2⟩)
  · exact dig_ne n h1
  · have := dig_len h0 h
    omega
  · have := dig_head n h1
    subst this
    rw [dig_small (by decide)] at h2
    simp at h2
theorem dig_val : ∀ (k : Nat) (l : List UInt8), l.length = k → l ≠ [] → ¬ (l.head? = some 48 ∧ 1 < l.length) → l.all isDig = true → dig (val l) = l := by
  intro k
  induction k with
  | zero => intro l h1 h2; exact absurd (List.length_eq_zero_iff.1 h1) h2
  | succ k ih =>
    intro l hl hne hz hd
    obtain ⟨r, b, rfl⟩ : ∃ r b, l = r ++ [b] := ⟨l.dropLast, l.getLast hne, (List.dropLast_concat_getLast hne).symm⟩
    have hb : isDig b = true := by
      rw [List.all_append] at hd
      simp at hd
      exact hd.2
    have hbn : 48 ≤ b.toNat ∧ b.toNat ≤ 57 := by
      unfold isDig at hb
      simpa using hb
    have back : ((48 + (b.toNat - 48)).toUInt8) = b := by
      rw [show 48 + (b.toNat - 48) = b.toNat by omega]
      simp
    rw [val_snoc]
    by_cases hr : r = []
    · subst hr
      rw [show val [] = 0 from rfl, Nat.zero_mul, Nat.zero_add, dig_small (by omega), back]
      rfl
    · have hrd : r.all isDig = true := by
        rw [List.all_append] at hd
        simp at hd
        rw [List.all_eq_true]
        exact hd.1
      have hrl : r.length = k := by simpa using hl
      have hhead : (r ++ [b]).head? = r.head? := by
        cases r with
        | nil => exact absurd rfl hr
        | cons a r => rfl
      have hr0 : 0 < r.length := List.length_pos_iff.2 hr
      have hz' : ¬ r.head? = some 48 := fun h => hz ⟨by rw [hhead]; exact h, by simp; omega⟩
      have hi := ih r hrl hr (fun h => hz' h.1) hrd
      have hv : val r ≠ 0 := by
        intro h
        rw [h, dig_small (by decide)] at hi
        rw [← hi] at hz'
        exact hz' rfl
      have e : (val r * 10 + (b.toNat - 48)) / 10 = val r := by omega
      have e2 : (val r * 10 + (b.toNat - 48)) % 10 = b.toNat - 48 := by omega
      rw [dig_big (by omega), e, e2, hi, back]
theorem dig_whole {most n : Nat} {l : List UInt8} (h : whole most l = some n) : dig n = l := by
  unfold whole at h
  split at h
  · cases h
  · rename_i hc
    rw [not_or, not_or] at hc
    split at h
    · rename_i hd
      injection h with h
      rw [← h]
      exact dig_val l.length l rfl hc.1 hc.2.2 hd
    · cases h
theorem whole_lt {most n : Nat} {l : List UInt8} (h : whole most l = some n) : l.length ≤ most := by
  unfold whole at h
  split at h
  · cases h
  · rename_i hc
    rw [not_or, not_or] at hc
    omega
theorem whole_ne {most n : Nat} {l : List UInt8} (h : whole most l = some n) : l ≠ [] := by
  rintro rfl
  simp [whole] at h
/-- digits are no blank and no end of a line. -/
theorem dig_free (n : Nat) (c : UInt8) (h : c.toNat < 48) : c ∉ dig n := by
  intro hm
  have := List.all_eq_true.1 (dig_all n) c hm
  unfold isDig at this
  simp at this
  omega
end Go.Proofs.Ytplnhgllbhdfjaa.Tx

namespace Go.Proofs.Ytplnhgllbhdfjaa.Kd
open Tx

/-- a kind: Life, Hit, Range, Sight, Speed, Price, Turns, Carry are its numbers. -/
structure K where
  name : List UInt8
  nums : List Int
  flies : Bool
  trains : Bool

def isLetter (b : UInt8) : Bool := decide (97 ≤ b.toNat) && decide (b.toNat ≤ 122)
def nameOk (l : List UInt8) : Bool := !l.isEmpty && (decide (l.length ≤ 8) && l.all isLetter)
def numsFault (ns : List Int) : Int := if ns.any (fun x => decide (x < 0 ∨ 1000 < x)) then 1 else if ns.getD 0 0 < 1 ∨ 4 < ns.getD 4 0 ∨ 12 < ns.getD 2 0 ∨ 12 < ns.getD 3 0 then 1 else 0
/-- what is wrong with one, those ahead being right. -/
def kindFault (ahead : List K) (k : K) : Int := if nameOk k.name then (if ahead.any (fun a => a.name == k.name) then 8 else numsFault k.nums) else 2
def kindsGo (ahead : List K) : List K → Int
  | [] => 0
  | k :: r => if kindFault ahead k = 0 then kindsGo (ahead ++ [k]) r else kindFault ahead k
/-- what is wrong with some. -/
def kindsFault (l : List K) : Int := if 8 < l.length then 4 else kindsGo [] l

def flag (b : Bool) (c : UInt8) : List UInt8 := if b then [c] else [45]
def words (k : K) : List (List UInt8) := k.name :: ((k.nums.map fun n => dig n.toNat) ++ [flag k.flies 102, flag k.trains 116])
def kline (k : K) : List UInt8 := join 32 (words k)
def prt (l : List K) : List UInt8 := l.flatMap fun k => kline k ++ [10]

def unflag (c : UInt8) (w : List UInt8) : Option Bool := if w = [c] then some true else if w = [45] then some false else none
def wholes : List (List UInt8) → Option (List Int)
  | [] => some []
  | w :: r => match whole 4 w, wholes r with
    | some n, some ns => some ((n : Int) :: ns)
    | _, _ => none
/-- the kind of a line's words. -/
def kwords (ws : List (List UInt8)) : Option K := if ws.length = 11 then
    match wholes ((ws.drop 1).take 8), unflag 102 (ws.getD 9 []), unflag 116 (ws.getD 10 []) with
    | some ns, some f, some t => some ⟨ws.getD 0 [], ns, f, t⟩
    | _, _, _ => none
  else none
/-- the kinds of some lines; else the line, and the fault. -/
def kparse (acc : List K) : List (List UInt8) → (Nat × Int) ⊕ List K
  | [] => .inr acc
  | [w] => if w = [] then .inr acc else .inl (acc.length, 2)
  | w :: v :: r => match kwords (cut 32 w) with
    | none => .inl (acc.length, 2)
    | some k => if acc.length = 8 then .inl (acc.length, 4) else if kindFault acc k = 0 then kparse (acc ++ [k]) (v :: r) else .inl (acc.length, kindFault acc k)
def parse (s : List UInt8) : (Nat × Int) ⊕ List K := kparse [] (cut 10 s)

/-- the form of a kind whose numbers can be told. -/
structure Fit (k : K) : Prop where
  len : k.nums.length = 8
  low : ∀ n ∈ k.nums, 0 ≤ n ∧ n < 10000

theorem fault_fit {ahead : List K} {k : K} (h : kindFault ahead k = 0) (hl : k.nums.length = 8) : Fit k ∧ nameOk k.name = true := by
  unfold kindFault at h
  split at h
  · rename_i hn
    split at h
    · omega
    · refine ⟨⟨hl, fun n hm => ?_⟩, hn⟩
      unfold numsFault at h
      split at h
      · omega
      · rename_i hx
        rw [Bool.not_eq_true, List.any_eq_false] at hx
        have := hx n hm
        simp at this
        omega
  · omega
theorem name_free {l : List UInt8} (h : nameOk l = true) (c : UInt8) (hc : c.toNat < 97) : c ∉ l := by
  intro hm
  unfold nameOk at h
  simp only [Bool.and_eq_true, List.all_eq_true] at h
  have := h.2.2 c hm
  unfold isLetter at this
  simp at this
  omega
theorem flag_free (b : Bool) (c d : UInt8) (h1 : d ≠ c) (h2 : d ≠ 45) : d ∉ flag b c := by
  unfold flag
  split
  · simpa using h1
  · simpa using h2
theorem words_free {k : K} (hn : nameOk k.name = true) (c : UInt8) (hc : c.toNat < 45) : ∀ w ∈ words k, c ∉ w := by
  intro w hw
  have h102 : c ≠ 102 := by rintro rfl; revert hc; decide
  have h116 : c ≠ 116 := by rintro rfl; revert hc; decide
  have h45 : c ≠ 45 := by rintro rfl; revert hc; decide
  unfold words at hw
  simp only [List.mem_cons, List.mem_append, List.mem_map, List.not_mem_nil, or_false] at hw
  rcases hw with rfl | ⟨n, _, rfl⟩ | rfl | rfl
  · exact name_free hn c (by omega)
  · exact dig_free _ c (by omega)
  · exact flag_free _ _ _ h102 h45
  · exact flag_free _ _ _ h116 h45
theorem mem_join {c d : UInt8} : ∀ {ws : List (List UInt8)}, d ∈ join c ws → d = c ∨ ∃ w ∈ ws, d ∈ w
  | [], h => by simp [join] at h
  | [w], h => .inr ⟨w, List.mem_cons_self .., h⟩
  | w :: v :: ws, h => by
    rw [join_cons (by simp), List.mem_append, List.mem_cons] at h
    rcases h with h | h | h
    · exact .inr ⟨w, List.mem_cons_self .., h⟩
    · exact .inl h
    · rcases mem_join h with h | ⟨x, hx, hd⟩
      · exact .inl h
      · exact .inr ⟨x, List.mem_cons_of_mem _ hx, hd⟩
theorem kline_free {k : K} (hn : nameOk k.name = true) : (10 : UInt8) ∉ kline k := by
  intro h
  rcases mem_join h with h | ⟨w, hw, hd⟩
  · revert h; decide
  · exact words_free hn 10 (by decide) w hw hd

theorem wholes_dig : ∀ {ns : List Int}, (∀ n ∈ ns, 0 ≤ n ∧ n < 10000) → wholes (ns.map fun n => dig n.toNat) = some ns
  | [], _ => rfl
  | n :: ns, h => by
    have h1 := h n (List.mem_cons_self ..)
    have e : whole 4 (dig n.toNat) = some n.toNat := whole_dig (by decide) (by show n.toNat < 10000; omega)
    have e2 := wholes_dig (ns := ns) (fun x hx => h x (List.mem_cons_of_mem _ hx))
    rw [List.map_cons, wholes, e, e2]
    simp
    omega
theorem wholes_back : ∀ {ws : List (List UInt8)} {ns : List Int}, wholes ws = some ns → (ns.map fun n => dig n.toNat) = ws ∧ ∀ n ∈ ns, 0 ≤ n
  | [], ns, h => by
    simp [wholes] at h
    subst h
    simp
  | w :: r, ns, h => by
    unfold wholes at h
    split at h
    · rename_i n ns' h1 h2
      injection h with h
      subst h
      obtain ⟨a1, a2⟩ := wholes_back h2
      refine ⟨?_, ?_⟩
      · rw [List.map_cons, a1, Int.toNat_natCast, dig_whole h1]
      · intro x hx
        rcases List.mem_cons.1 hx with rfl | hx
        · omega
        · exact a2 x hx
    · cases h
theorem unflag_flag (b : Bool) (c : UInt8) (h : c ≠ 45) : unflag c (flag b c) = some b := by
  unfold unflag flag
  cases b
  · have : ¬ ([45] : List UInt8) = [c] := by simp; exact fun e => h e.symm
    simp [this]
  · simp
theorem unflag_back {c : UInt8} {w : List UInt8} {b : Bool} (h : unflag c w = some b) : flag b c = w := by
  unfold unflag at h
  split at h
  · rename_i hw
    injection h with h
    subst h
    rw [hw]
    rfl
  · split at h
    · rename_i hw
      injection h with h
      subst h
      rw [hw]
      rfl
    · cases h
theorem kwords_words {k : K} (hf : Fit k) : kwords (words k) = some k := by
  obtain ⟨name, nums, f, t⟩ := k
  have hl : nums.length = 8 := hf.len
  have e1 : ((words ⟨name, nums, f, t⟩).drop 1).take 8 = nums.map fun n => dig n.toNat := by
    show ((nums.map fun n => dig n.toNat) ++ [flag f 102, flag t 116]).take 8 = _
    rw [List.take_left' (by rw [List.length_map]; exact hl)]
  have e2 : (words ⟨name, nums, f, t⟩).getD 9 [] = flag f 102 := by
    show (name :: ((nums.map fun n => dig n.toNat) ++ [flag f 102, flag t 116])).getD 9 [] = _
    rw [List.getD_cons_succ, List.getD_eq_getElem?_getD, List.getElem?_append_right (by rw [List.length_map]; omega), List.length_map, hl]
    rfl
  have e3 : (words ⟨name, nums, f, t⟩).getD 10 [] = flag t 116 := by
    show (name :: ((nums.map fun n => dig n.toNat) ++ [flag f 102, flag t 116])).getD 10 [] = _
    rw [List.getD_cons_succ, List.getD_eq_getElem?_getD, List.getElem?_append_right (by rw [List.length_map]; omega), List.length_map, hl]
    rfl
  unfold kwords
  rw [if_pos (by simp [words, hl]), e1, e2, e3, wholes_dig hf.low, unflag_flag f 102 (by decide), unflag_flag t 116 (by decide)]
  rfl
theorem list11 {ws : List (List UInt8)} (h : ws.length = 11) : ws = ws.getD 0 [] :: ((ws.drop 1).take 8 ++ [ws.getD 9 [], ws.getD 10 []]) := by
  match ws, h with
  | [w0, w1, w2, w3, w4, w5, w6, w7, w8, w9, w10], _ => rfl
theorem words_kwords {ws : List (List UInt8)} {k : K} (h : kwords ws = some k) : words k = ws ∧ k.nums.length = 8 := by
  unfold kwords at h
  split at h
  · rename_i hl
    split at h
    · rename_i ns f t h1 h2 h3
      injection h with h
      subst h
      have a := wholes_back h1
      refine ⟨?_, ?_⟩
      · unfold words
        rw [a.1, unflag_back h2, unflag_back h3]
        exact (list11 hl).symm
      · show ns.length = 8
        have := congrArg List.length a.1
        rw [List.length_map, List.length_take, List.length_drop] at this
        omega
    · cases h
  · cases h

theorem cut_prt : ∀ {l : List K}, (∀ k ∈ l, nameOk k.name = true) → cut 10 (prt l) = l.map kline ++ [[]]
  | [], _ => rfl
  | k :: l, h => by
    show cut 10 ((kline k ++ [10]) ++ prt l) = _
    rw [List.append_assoc]
    show cut 10 (kline k ++ 10 :: prt l) = _
    rw [cut_app (kline_free (h k (List.mem_cons_self ..))), cut_prt (fun x hx => h x (List.mem_cons_of_mem _ hx))]
    rfl
theorem kindsGo_all : ∀ {l acc : List K}, kindsGo acc l = 0 → (∀ k ∈ l, k.nums.length = 8) → ∀ k ∈ l, Fit k ∧ nameOk k.name = true
  | [], _, _, _, k, hk => by simp at hk
  | x :: l, acc, h, hl, k, hk => by
    unfold kindsGo at h
    split at h
    · rename_i h0
      rcases List.mem_cons.1 hk with rfl | hk
      · exact fault_fit h0 (hl k (List.mem_cons_self ..))
      · exact kindsGo_all h (fun y hy => hl y (List.mem_cons_of_mem _ hy)) k hk
    · rename_i h0
      exact absurd h h0
theorem kparse_lines : ∀ {l acc : List K}, kindsGo acc l = 0 → (∀ k ∈ l, k.nums.length = 8) → acc.length + l.length ≤ 8 → kparse acc (l.map kline ++ [[]]) = .inr (acc ++ l)
  | [], acc, _, _, _ => by simp [kparse]
  | k :: l, acc, h, hl, hn => by
    unfold kindsGo at h
    split at h
    · rename_i h0
      have hk := fault_fit h0 (hl k (List.mem_cons_self ..))
      have e : cut 32 (kline k) = words k := cut_join (by simp [words]) (words_free hk.2 32 (by decide))
      have ih := kparse_lines (l := l) (acc := acc ++ [k]) h (fun y hy => hl y (List.mem_cons_of_mem _ hy)) (by simp at hn ⊢; omega)
      simp only [List.length_cons] at hn
      cases l with
      | nil =>
        show kparse acc [kline k, []] = _
        rw [kparse, e, kwords_words hk.1]
        simp only
        rw [if_neg (by simp at hn; omega), if_pos h0]
        simpa using ih
      | cons k2 l =>
        show kparse acc (kline k :: kline k2 :: (l.map kline ++ [[]])) = _
        rw [kparse, e, kwords_words hk.1]
        simp only
        rw [if_neg (by simp at hn; omega), if_pos h0]
        simpa using ih
    · rename_i h0
      exact absurd h h0
/-- what is printed is read as it was. -/
theorem parse_prt {l : List K} (h : kindsFault l = 0) (hl : ∀ k ∈ l, k.nums.length = 8) : parse (prt l) = .inr l := by
  unfold kindsFault at h
  split at h
  · omega
  · have a := kindsGo_all h hl
    unfold parse
    rw [cut_prt (fun k hk => (a k hk).2), kparse_lines h hl (by simp; omega)]
    rfl
theorem prt_lines : ∀ {ls : List (List UInt8)} {acc l : List K}, ls ≠ [] → kparse acc ls = .inr l → acc.length ≤ 8 → ∃ l', l = acc ++ l' ∧ prt l' = join 10 ls ∧ kindsGo acc l' = 0 ∧ l.length ≤ 8 ∧ ∀ k ∈ l', k.nums.length = 8
  | [], _, _, h, _, _ => absurd rfl h
  | [w], acc, l, _, h, ha => by
    unfold kparse at h
    split at h
    · rename_i hw
      injection h with h
      subst h
      subst hw
      exact ⟨[], by simp, rfl, rfl, ha, by simp⟩
    · cases h
  | w :: v :: r, acc, l, _, h, ha => by
    unfold kparse at h
    split at h
    · cases h
    · rename_i k hk
      split at h
      · cases h
      · rename_i h8
        split at h
        · rename_i h0
          obtain ⟨l', e1, e2, e3, e4, e5⟩ := prt_lines (by simp) h (by simp; omega)
          have a := words_kwords hk
          refine ⟨k :: l', by rw [e1]; simp, ?_, ?_, e4, ?_⟩
          · show (kline k ++ [10]) ++ prt l' = _
            rw [join_cons (by simp), e2, show kline k = w by unfold kline; rw [a.1, join_cut]]
            simp
          · unfold kindsGo
            rw [if_pos h0]
            exact e3
          · intro x hx
            rcases List.mem_cons.1 hx with rfl | hx
            · exact a.2
            · exact e5 x hx
        · cases h
/-- what any text is read as is printed as that text. -/
theorem prt_parse {s : List UInt8} {l : List K} (h : parse s = .inr l) : prt l = s ∧ kindsFault l = 0 ∧ ∀ k ∈ l, k.nums.length = 8 := by
  unfold parse at h
  obtain ⟨l', e1, e2, e3, e4, e5⟩ := prt_lines (cut_ne 10 s) h (by simp)
  rw [List.nil_append] at e1
  subst e1
  refine ⟨by rw [e2, join_cut], ?_, e5⟩
  unfold kindsFault
  rw [if_neg (by omega)]
  exact e3
end Go.Proofs.Ytplnhgllbhdfjaa.Kd

namespace Go.Proofs.Ytplnhgllbhdfjaa
open Go.RowKit
set_option linter.unusedVariables false

/-- a kind as memory has it. -/
structure KV where
  b : ByteArray
  n0 : Int
  n1 : Int
  n2 : Int
  n3 : Int
  n4 : Int
  n5 : Int
  n6 : Int
  n7 : Int
  f : Bool
  t : Bool
def KV.k (k : KV) : Kd.K := ⟨k.b.data.toList, [k.n0, k.n1, k.n2, k.n3, k.n4, k.n5, k.n6, k.n7], k.f, k.t⟩
def KV.val (k : KV) : Value := .agg #[.string k.b, .int .i64 k.n0, .int .i64 k.n1, .int .i64 k.n2, .int .i64 k.n3, .int .i64 k.n4, .int .i64 k.n5, .int .i64 k.n6, .int .i64 k.n7, .bool k.f, .bool k.t]
/-- its cells, from an address on. -/
structure Kc (w : World) (y : Addr) (k : KV) : Prop where
  c0 : w.cell? y = some (.string k.b)
  c1 : w.cell? ⟨y.block, y.off + 1, none⟩ = some (.int .i64 k.n0)
  c2 : w.cell? ⟨y.block, y.off + 2, none⟩ = some (.int .i64 k.n1)
  c3 : w.cell? ⟨y.block, y.off + 3, none⟩ = some (.int .i64 k.n2)
  c4 : w.cell? ⟨y.block, y.off + 4, none⟩ = some (.int .i64 k.n3)
  c5 : w.cell? ⟨y.block, y.off + 5, none⟩ = some (.int .i64 k.n4)
  c6 : w.cell? ⟨y.block, y.off + 6, none⟩ = some (.int .i64 k.n5)
  c7 : w.cell? ⟨y.block, y.off + 7, none⟩ = some (.int .i64 k.n6)
  c8 : w.cell? ⟨y.block, y.off + 8, none⟩ = some (.int .i64 k.n7)
  c9 : w.cell? ⟨y.block, y.off + 9, none⟩ = some (.bool k.f)
  c10 : w.cell? ⟨y.block, y.off + 10, none⟩ = some (.bool k.t)
theorem Kc.lt {w : World} {y : Addr} {k : KV} (h : Kc w y k) : y.block < w.heap.size := cell_lt h.c0
theorem Kc.below {w w' : World} {y : Addr} {k : KV} {B : Nat} (h : Kc w y k) (hb : Below B w w') (hy : y.block < B) : Kc w' y k :=
  ⟨by rw [hb.cell (p := y) hy]; exact h.c0, by rw [hb.cell (p := ⟨y.block, y.off + 1, none⟩) hy]; exact h.c1, by rw [hb.cell (p := ⟨y.block, y.off + 2, none⟩) hy]; exact h.c2, by rw [hb.cell (p := ⟨y.block, y.off + 3, none⟩) hy]; exact h.c3, by rw [hb.cell (p := ⟨y.block, y.off + 4, none⟩) hy]; exact h.c4, by rw [hb.cell (p := ⟨y.block, y.off + 5, none⟩) hy]; exact h.c5, by rw [hb.cell (p := ⟨y.block, y.off + 6, none⟩) hy]; exact h.c6, by rw [hb.cell (p := ⟨y.block, y.off + 7, none⟩) hy]; exact h.c7, by rw [hb.cell (p := ⟨y.block, y.off + 8, none⟩) hy]; exact h.c8, by rw [hb.cell (p := ⟨y.block, y.off + 9, none⟩) hy]; exact h.c9, by rw [hb.cell (p := ⟨y.block, y.off + 10, none⟩) hy]; exact h.c10⟩
/-- v is a slice of the kinds ks. -/
def Kl (w : World) (v : Value) (ks : List KV) : Prop := ∃ a c, v = .slice a ks.length c ∧ ks.length ≤ c ∧ c ≤ 9223372036854775807 ∧ (ks ≠ [] → ∃ x, a = some x ∧ x.block < w.heap.size ∧ ∀ (i : Nat) k, ks[i]? = some k → Kc w (x.add (i * 11)) k)
theorem Kl.below {w w' : World} {v : Value} {ks : List KV} (h : Kl w v ks) (hb : Below w.heap.size w w') : Kl w' v ks := by
  obtain ⟨a, c, h1, h2, h3, h4⟩ := h
  refine ⟨a, c, h1, h2, h3, fun hn => ?_⟩
  obtain ⟨x, e, hx, hk⟩ := h4 hn
  exact ⟨x, e, Nat.lt_of_lt_of_le hx hb.size, fun i k hi => (hk i k hi).below hb (by rw [add_block]; exact hx)⟩

theorem Kc.mk' {w : World} {z : Nat} (k : KV) (hz : w.heap.size = z) : Kc (w.alloc (.cells #[.string k.b, .int .i64 k.n0, .int .i64 k.n1, .int .i64 k.n2, .int .i64 k.n3, .int .i64 k.n4, .int .i64 k.n5, .int .i64 k.n6, .int .i64 k.n7, .bool k.f, .bool k.t] 41)) ⟨z, 0, none⟩ k := by
  subst hz
  constructor <;> simp
end Go.Proofs.Ytplnhgllbhdfjaa

namespace Go.Proofs.Ytplnhgllbhdfjaa
set_option linter.unusedVariables false

/-- the greatest number up to k whose square is not above n. -/
def rt : Nat → Int → Int
  | 0, _ => 0
  | k + 1, n => if ((k : Int) + 1) * ((k : Int) + 1) ≤ n then (k : Int) + 1 else rt k n
theorem rt_eq : ∀ (k : Nat) (r n : Int), Ma.Sq r n → r ≤ k → rt k n = r
  | 0, r, n, h, hk => by
    have := h.1
    show (0 : Int) = r
    omega
  | k + 1, r, n, h, hk => by
    unfold rt
    split
    · rename_i hc
      have := Ma.lt_of_sq ((k : Int) + 1) (r + 1) (by have := h.1; omega) (by have := h.2.2; omega)
      omega
    · rename_i hc
      have := Ma.lt_of_sq r ((k : Int) + 1) (by omega) (by have := h.2.1; omega)
      exact rt_eq k r n h (by omega)
theorem rt_ge : ∀ (k : Nat) (n : Int), 0 ≤ rt k n ∧ rt k n ≤ k
  | 0, n => by unfold rt; omega
  | k + 1, n => by
    unfold rt
    have := rt_ge k n
    split <;> omega
/-- how far two cells of a field are. -/
def farN (W a b : Nat) : Int := rt 200 ((((a % W : Nat) : Int) - ((b % W : Nat) : Int)) * (((a % W : Nat) : Int) - ((b % W : Nat) : Int)) + (((a / W : Nat) : Int) - ((b / W : Nat) : Int)) * (((a / W : Nat) : Int) - ((b / W : Nat) : Int)))
theorem farN_ge (W a b : Nat) : 0 ≤ farN W a b ∧ farN W a b ≤ 200 := rt_ge 200 _
theorem sq_abs_le (x : Int) (m : Int) (h1 : -m ≤ x) (h2 : x ≤ m) : x * x ≤ m * m := by
  rcases Int.le_total 0 x with h | h
  · exact Ma.mul_mono x m h h2
  · have e : x * x = (-x) * (-x) := by rw [Int.neg_mul_neg]
    rw [e]
    exact Ma.mul_mono (-x) m (by omega) (by omega)
theorem farN_eq {W a b : Nat} {r : Int} (hW : W ≤ 12) (ha : a ≤ 144) (hb : b ≤ 144) (hW0 : 0 < W)
    (h : Ma.Sq r ((((a % W : Nat) : Int) - ((b % W : Nat) : Int)) * (((a % W : Nat) : Int) - ((b % W : Nat) : Int)) + (((a / W : Nat) : Int) - ((b / W : Nat) : Int)) * (((a / W : Nat) : Int) - ((b / W : Nat) : Int)))) : farN W a b = r := by
  unfold farN
  refine rt_eq 200 r _ h ?_
  have a1 := Nat.mod_lt a hW0
  have b1 := Nat.mod_lt b hW0
  have a2 := Nat.div_le_self a W
  have b2 := Nat.div_le_self b W
  generalize a / W = x at *
  generalize b / W = y at *
  generalize a % W = x' at *
  generalize b % W = y' at *
  have s1 := sq_abs_le ((x' : Int) - (y' : Int)) 12 (by omega) (by omega)
  have s2 := sq_abs_le ((x : Int) - (y : Int)) 144 (by omega) (by omega)
  have := h.2.1
  exact Ma.le_of_sq r 200 (by omega) (by omega)

/-- how far a unit is from another one. -/
def farU (W : Nat) (u o : UnV) : Int := farN W u.at_.toNat o.at_.toNat
/-- one whom a unit does not strike. -/
def safeU (W : Nat) (u : UnV) (rng : Int) (o : UnV) : Bool := (o.player == u.player) || decide (rng < farU W u o)
/-- those that it may strike. -/
def foesU (W : Nat) (u : UnV) (rng : Int) (us : List UnV) : List UnV := us.filter (fun o => !safeU W u rng o)
/-- who comes first. -/
def keyU (W : Nat) (u o : UnV) : Int := farU W u o * 2000000 + o.life
def soonU (W : Nat) (u a b : UnV) : Int := if farU W u a - farU W u b = 0 then a.life - b.life else farU W u a - farU W u b
theorem soon_key {W : Nat} {u a b : UnV} (ha : 0 ≤ a.life ∧ a.life ≤ 1000000) (hb : 0 ≤ b.life ∧ b.life ≤ 1000000) : soonU W u a b < 0 ↔ keyU W u a < keyU W u b := by
  unfold soonU keyU
  have h1 := farN_ge W u.at_.toNat a.at_.toNat
  have h2 := farN_ge W u.at_.toNat b.at_.toNat
  unfold farU
  split <;> omega
/-- whom a unit strikes. -/
def TgSays (W : Nat) (u : UnV) (k : KV) (us : List UnV) (t : Int) : Prop :=
  (k.n1 = 0 ∧ t = -1) ∨ (k.n1 ≠ 0 ∧ foesU W u k.n2 us = [] ∧ t = -1)
  ∨ (k.n1 ≠ 0 ∧ ∃ x0 tl, foesU W u k.n2 us = x0 :: tl ∧ FstU (fun o => o.id == (minU (keyU W u) x0 tl).id) us t)
theorem minU_le (d : UnV → Int) : ∀ (l : List UnV) (m : UnV), ∀ x ∈ m :: l, d (minU d m l) ≤ d x
  | [], m, x, hx => by simp at hx; subst hx; exact Int.le_refl _
  | y :: l, m, x, hx => by
    show d (minU d (if d y < d m then y else m) l) ≤ d x
    have h0 := minU_le d l (if d y < d m then y else m) (if d y < d m then y else m) (by simp)
    rcases List.mem_cons.1 hx with rfl | hx
    · split at h0 <;> rename_i hc
      · rw [if_pos hc]; omega
      · rw [if_neg hc]; exact h0
    · rcases List.mem_cons.1 hx with rfl | hx
      · split at h0 <;> rename_i hc
        · rw [if_pos hc]; exact h0
        · rw [if_neg hc]; omega
      · exact minU_le d l _ x (List.mem_cons_of_mem _ hx)
end Go.Proofs.Ytplnhgllbhdfjaa

namespace Go.Proofs.Ytplnhgllbhdfjaa
open Go.RowKit
set_option linter.unusedVariables false

theorem small_in6 {n : Nat} (h : n ≤ 144) : In6 (n : Nat) := ⟨by omega, by omega⟩
set_option maxRecDepth 100000 in
set_option maxHeartbeats 2000000 in
theorem apart_any (H : Int) (u1 u2 : Value) (Wn a b : Nat) (w : World) (h1 : 0 < Wn) (h2 : Wn ≤ 12) (ha : a ≤ 144) (hb : b ≤ 144) :
    Calls Try.prog 44 #[.agg #[.int .i64 (Wn : Nat), .int .i64 H, u1, u2], .int .i64 (a : Nat), .int .i64 (b : Nat)] w fun e w' => e = .returned (.int .i64 (farN Wn a b)) ∧ Below w.heap.size w w' := by
  obtain ⟨ca, hca⟩ : ∃ n, a % Wn = n := ⟨_, rfl⟩
  obtain ⟨ra, hra⟩ : ∃ n, a / Wn = n := ⟨_, rfl⟩
  obtain ⟨cb, hcb⟩ : ∃ n, b % Wn = n := ⟨_, rfl⟩
  obtain ⟨rb, hrb⟩ : ∃ n, b / Wn = n := ⟨_, rfl⟩
  have hw : ¬ (Wn : Int) = 0 := by omega
  have e1 : (a : Int) % (Wn : Int) = (ca : Nat) := by rw [← hca]; rfl
  have e2 : (a : Int) / (Wn : Int) = (ra : Nat) := by rw [← hra]; rfl
  have e3 : (b : Int) % (Wn : Int) = (cb : Nat) := by rw [← hcb]; rfl
  have e4 : (b : Int) / (Wn : Int) = (rb : Nat) := by rw [← hrb]; rfl
  have l1 : ra ≤ 144 := by rw [← hra]; exact Nat.le_trans (Nat.div_le_self _ _) ha
  have l2 : rb ≤ 144 := by rw [← hrb]; exact Nat.le_trans (Nat.div_le_self _ _) hb
  have l3 : ca ≤ 144 := by rw [← hca]; exact Nat.le_trans (Nat.mod_le _ _) ha
  have l4 : cb ≤ 144 := by rw [← hcb]; exact Nat.le_trans (Nat.mod_le _ _) hb
  have FR : Hid (∀ r, Ma.Sq r (((ca : Int) - (cb : Nat)) * ((ca : Int) - (cb : Nat)) + ((ra : Int) - (rb : Nat)) * ((ra : Int) - (rb : Nat))) → farN Wn a b = r) := by
    intro r hr
    refine farN_eq h2 ha hb h1 ?_
    rw [hca, hra, hcb, hrb]
    exact hr
  have FO : Hid (∀ W, Calls Try.prog 9 #[.int .i64 (ca : Nat), .int .i64 (ra : Nat), .int .i64 (cb : Nat), .int .i64 (rb : Nat)] W fun e w' => e = .returned (.tuple #[.int .i64 (farN Wn a b), .nilIface]) ∧ w' = W) := fun W => by
    refine (far_ok _ _ _ _ W (small_in6 l3) (small_in6 l1) (small_in6 l4) (small_in6 l2)).mono ?_
    rintro e w' ⟨r, hr, rfl, rfl⟩
    rw [FR.out r hr]
    exact ⟨rfl, rfl⟩
  clear hca hra hcb hrb FR
  have B0 : Hid (Below w.heap.size w (w.alloc (Obj.cells #[.int .i64 (Wn : Nat), .int .i64 H, u1, u2] 25))) := (Below.refl _ _).alloc (Nat.le_refl _) _
  have c0 : (w.alloc (Obj.cells #[.int .i64 (Wn : Nat), .int .i64 H, u1, u2] 25)).cell? ⟨w.heap.size, 0, none⟩ = some (.int .i64 (Wn : Nat)) := by simp
  obtain ⟨f, hf⟩ : ∃ f, farN Wn a b = f := ⟨_, rfl⟩
  rw [hf] at FO ⊢
  clear hf
  go_enter Try.func44, Try.ntmps44
  go_upto_region 1 with fail
  generalize (w.alloc (Obj.cells #[.int .i64 (Wn : Nat), .int .i64 H, u1, u2] 25)) = w0 at *
  go_quiet ((go_at_call 9; exact Calls.quiet_of_same (FO.out _)))
  go_wp2
  go_ret
  exact ⟨rfl, ⟨B0.out.os, B0.out.tape, B0.out.output, B0.out.size, B0.out.block⟩⟩
end Go.Proofs.Ytplnhgllbhdfjaa

namespace Go.Proofs.Ytplnhgllbhdfjaa
open Go.RowKit
set_option linter.unusedVariables false

theorem or2_any (x y : Int) (b : Nat) (w : World) (h0 : w.cell? ⟨b, 0, none⟩ = some (.int .i64 x)) (h1 : w.cell? ⟨b, 1, none⟩ = some (.int .i64 y)) :
    Calls Try.prog 48 #[.slice (some ⟨b, 0, none⟩) 2 2] w fun e w' => e = .returned (.int .i64 (if x = 0 then y else x)) ∧ w' = w := by
  by_cases hx : x = 0
  · subst hx
    by_cases hy : y = 0
    · subst hy
      go_enter Try.func48, Try.ntmps48
      go_wp2
      refine wp_loop_rounds 3 ?_
      rw [rounds_succ]
      go_wp2
      rw [rounds_succ]
      go_wp2
      rw [rounds_succ]
      go_wp2
      go_ret
      exact ⟨rfl, rfl⟩
    · have hyb : (y == 0) = false := beq_eq_false_iff_ne.2 hy
      go_enter Try.func48, Try.ntmps48
      go_wp2
      refine wp_loop_rounds 2 ?_
      rw [rounds_succ]
      go_wp2
      rw [rounds_succ]
      go_wp2
      go_ret
      exact ⟨by simp, rfl⟩
  · have hxb : (x == 0) = false := beq_eq_false_iff_ne.2 hx
    go_enter Try.func48, Try.ntmps48
    go_wp2
    refine wp_loop_rounds 1 ?_
    rw [rounds_succ]
    go_wp2
    go_ret
    exact ⟨by simp, rfl⟩

/-- a cell of a field. -/
def InF (u : UnV) : Prop := 0 ≤ u.at_ ∧ u.at_ ≤ 144
/-- target's boxes: the world, the unit. -/
structure Tb (w : World) (bw bu : Nat) (X : WV) (u1 u2 u3 u4 u5 : Value) (u : UnV) : Prop where
  x : Bw w bw X u1 u2 u3 u4 u5
  u : Unc w ⟨bu, 0, none⟩ u
theorem Tb.below {w V : World} {bw bu n : Nat} {X : WV} {u1 u2 u3 u4 u5 : Value} {u : UnV} (h : Tb w bw bu X u1 u2 u3 u4 u5 u) (hb : Below n w V) (h1 : bw < n) (h2 : bu < n) : Tb V bw bu X u1 u2 u3 u4 u5 u :=
  ⟨h.x.below hb h1, h.u.below hb h2⟩
set_option maxRecDepth 100000 in
set_option maxHeartbeats 2000000 in
theorem far_fg (X : WV) (u o : UnV) (Wn bw bu : Nat) (u1 u2 u3 u4 u5 : Value) (w : World) (hT : Tb w bw bu X u1 u2 u3 u4 u5 u) (hW : X.wide = (Wn : Nat)) (h1 : 0 < Wn) (h2 : Wn ≤ 12) (hu : InF u) (ho : InF o) :
    Calls Try.prog 43 #[o.val, .pointer (some ⟨bw, 0, none⟩), .pointer (some ⟨bu, 0, none⟩)] w fun e w' => e = .returned (.int .i64 (farU Wn u o)) ∧ Below w.heap.size w w' := by
  obtain ⟨an, han⟩ : ∃ n : Nat, u.at_ = n := ⟨u.at_.toNat, by have := hu.1; omega⟩
  obtain ⟨cn, hcn⟩ : ∃ n : Nat, o.at_ = n := ⟨o.at_.toNat, by have := ho.1; omega⟩
  have FU : Hid (farU Wn u o = farN Wn an cn) := by unfold Hid farU; rw [han, hcn]; rfl
  have LL : Hid (0 < Wn ∧ Wn ≤ 12 ∧ an ≤ 144 ∧ cn ≤ 144) := ⟨h1, h2, by have := hu.2; omega, by have := ho.2; omega⟩
  have HE : Hid (u.at_ = (an : Nat) ∧ o.at_ = (cn : Nat) ∧ X.wide = (Wn : Nat)) := ⟨han, hcn, hW⟩
  have T0 : Hid (Tb w bw bu X u1 u2 u3 u4 u5 u) := hT
  have B0 : Hid (Below w.heap.size w (w.alloc (Obj.cells #[.int .i64 o.id, .int .i64 o.player, .int .i64 o.kind, .int .i64 o.at_, .int .i64 o.life, .int .i64 o.load, .int .i64 o.task, .int .i64 o.goal] 38))) := (Below.refl _ _).alloc (Nat.le_refl _) _
  have O0 : Hid (Unc (w.alloc (Obj.cells #[.int .i64 o.id, .int .i64 o.player, .int .i64 o.kind, .int .i64 o.at_, .int .i64 o.life, .int .i64 o.load, .int .i64 o.task, .int .i64 o.goal] 38)) ⟨w.heap.size, 0, none⟩ o) := Unc.mk' o rfl
  clear hT han hcn hW h1 h2 hu ho
  unfold UnV.val
  go_enter Try.func43, Try.ntmps43
  go_upto_region 1 with fail
  generalize (w.alloc (Obj.cells #[.int .i64 o.id, .int .i64 o.player, .int .i64 o.kind, .int .i64 o.at_, .int .i64 o.life, .int .i64 o.load, .int .i64 o.task, .int .i64 o.goal] 38)) = w0 at *
  have T1 := T0.out.below B0.out T0.out.x.lt T0.out.u.lt
  obtain ⟨x0, x1, x2, x3, x4, x5, x6, x7, x8⟩ := T1.x
  obtain ⟨y0, y1, y2, y3, y4, y5, y6, y7⟩ := T1.u
  obtain ⟨q0, q1, q2, q3, q4, q5, q6, q7⟩ := O0.out
  rw [HE.out.1] at y3
  rw [HE.out.2.1] at q3
  rw [HE.out.2.2] at x2
  clear T1
  go_wp2_with fail
  refine (apart_any _ _ _ Wn an cn w0 LL.out.1 LL.out.2.1 LL.out.2.2.1 LL.out.2.2.2).mono ?_
  rintro e w1 ⟨rfl, hb⟩
  have B1 : Hid (Below w.heap.size w w1) := B0.out.trans (hb.mono B0.out.size)
  clear hb x0 x1 x2 x3 x4 x5 x6 x7 x8 y0 y1 y2 y3 y4 y5 y6 y7 q0 q1 q2 q3 q4 q5 q6 q7
  obtain ⟨f, hf⟩ : ∃ f, farN Wn an cn = f := ⟨_, rfl⟩
  rw [hf] at FU ⊢
  clear hf
  go_wp2
  go_ret
  exact ⟨by rw [FU.out]; rfl, B1.out⟩

set_option maxRecDepth 100000 in
set_option maxHeartbeats 4000000 in
theorem safe_fg (X : WV) (u o : UnV) (Wn bw bu bf bk : Nat) (rng : Int) (u1 u2 u3 u4 u5 : Value) (w : World) (hT : Tb w bw bu X u1 u2 u3 u4 u5 u) (hF : w.cell? ⟨bf, 0, none⟩ = some (.func (Fn.func 43) #[] #[.pointer (some ⟨bw, 0, none⟩), .pointer (some ⟨bu, 0, none⟩)])) (hK : w.cell? ⟨bk, 3, none⟩ = some (.int .i64 rng)) (hW : X.wide = (Wn : Nat)) (h1 : 0 < Wn) (h2 : Wn ≤ 12) (hu : InF u) (ho : InF o) :
    Calls Try.prog 45 #[o.val, .pointer (some ⟨bu, 0, none⟩), .pointer (some ⟨bf, 0, none⟩), .pointer (some ⟨bk, 0, none⟩)] w fun e w' => e = .returned (.bool (safeU Wn u rng o)) ∧ Below w.heap.size w w' := by
  have T0 : Hid (Tb w bw bu X u1 u2 u3 u4 u5 u) := hT
  have GG : Hid (X.wide = (Wn : Nat) ∧ 0 < Wn ∧ Wn ≤ 12 ∧ InF u ∧ InF o) := ⟨hW, h1, h2, hu, ho⟩
  have CF : Hid (w.cell? ⟨bf, 0, none⟩ = some (.func (Fn.func 43) #[] #[.pointer (some ⟨bw, 0, none⟩), .pointer (some ⟨bu, 0, none⟩)]) ∧ w.cell? ⟨bk, 3, none⟩ = some (.int .i64 rng) ∧ bf < w.heap.size ∧ bk < w.heap.size) := ⟨hF, hK, cell_lt hF, cell_lt hK⟩
  have B0 : Hid (Below w.heap.size w (w.alloc (Obj.cells #[.int .i64 o.id, .int .i64 o.player, .int .i64 o.kind, .int .i64 o.at_, .int .i64 o.life, .int .i64 o.load, .int .i64 o.task, .int .i64 o.goal] 38))) := (Below.refl _ _).alloc (Nat.le_refl _) _
  have O0 : Hid (Unc (w.alloc (Obj.cells #[.int .i64 o.id, .int .i64 o.player, .int .i64 o.kind, .int .i64 o.at_, .int .i64 o.life, .int .i64 o.load, .int .i64 o.task, .int .i64 o.goal] 38)) ⟨w.heap.size, 0, none⟩ o) := Unc.mk' o rfl
  have CB : Hid (∀ V, Below w.heap.size w V → Unc V ⟨w.heap.size, 0, none⟩ o → (V.cell? ⟨w.heap.size, 1, none⟩ = some (.int .i64 o.player) ∧ V.cell? ⟨bu, 1, none⟩ = some (.int .i64 u.player) ∧ V.cell? ⟨bf, 0, none⟩ = some (.func (Fn.func 43) #[] #[.pointer (some ⟨bw, 0, none⟩), .pointer (some ⟨bu, 0, none⟩)]) ∧ V.cell? ⟨bk, 3, none⟩ = some (.int .i64 rng) ∧ Unc V ⟨w.heap.size, 0, none⟩ o ∧ Tb V bw bu X u1 u2 u3 u4 u5 u)) := fun V hb h0 =>
    ⟨by have := h0.c1; rw [Nat.zero_add] at this; exact this, by have := (T0.out.u.below hb T0.out.u.lt).c1; rw [Nat.zero_add] at this; exact this, by rw [hb.cell (p := ⟨bf, 0, none⟩) CF.out.2.2.1]; exact CF.out.1, by rw [hb.cell (p := ⟨bk, 3, none⟩) CF.out.2.2.2]; exact CF.out.2.1, h0, T0.out.below hb T0.out.x.lt T0.out.u.lt⟩
  clear hT hF hK hW h1 h2 hu ho
  unfold UnV.val
  go_enter Try.func45, Try.ntmps45
  go_upto_region 1 with fail
  generalize (w.alloc (Obj.cells #[.int .i64 o.id, .int .i64 o.player, .int .i64 o.kind, .int .i64 o.at_, .int .i64 o.life, .int .i64 o.load, .int .i64 o.task, .int .i64 o.goal] 38)) = w0 at *
  by_cases hp : o.player = u.player
  · have S1 : Hid (safeU Wn u rng o = true) := by unfold Hid safeU; rw [hp]; simp
    obtain ⟨d1, d2, d3, d4, ⟨q0, q1, q2, q3, q4, q5, q6, q7⟩, -⟩ := CB.out w0 B0.out O0.out
    rw [hp] at d1 q1
    go_quiet (fail)
    go_wp2
    go_ret
    exact ⟨by rw [S1.out]; rfl, ⟨B0.out.os, B0.out.tape, B0.out.output, B0.out.size, B0.out.block⟩⟩
  · have hp' : (o.player == u.player) = false := by rw [beq_eq_false_iff_ne]; exact hp
    have S1 : Hid (safeU Wn u rng o = decide (rng < farU Wn u o)) := by unfold Hid safeU; rw [hp']; rfl
    clear hp
    refine wp_region_two [(true, 0), (true, 1), (true, 2), (true, 3), (true, 4), (true, 5), (true, 6), (true, 7), (true, 9), (true, 10), (false, 8)] [(true, 11), (true, 12), (false, 13)] (fun V => (V.cell? ⟨w.heap.size, 1, none⟩ = some (.int .i64 o.player) ∧ V.cell? ⟨bu, 1, none⟩ = some (.int .i64 u.player) ∧ V.cell? ⟨bf, 0, none⟩ = some (.func (Fn.func 43) #[] #[.pointer (some ⟨bw, 0, none⟩), .pointer (some ⟨bu, 0, none⟩)]) ∧ V.cell? ⟨bk, 3, none⟩ = some (.int .i64 rng) ∧ Unc V ⟨w.heap.size, 0, none⟩ o ∧ Tb V bw bu X u1 u2 u3 u4 u5 u)) (by kernel_rfl) (by kernel_rfl) (by kernel_rfl) (by decide +kernel) (by decide +kernel) (CB.out _ B0.out.drew (O0.out.below ((Below.refl _ _).drew) O0.out.lt)) ?_
    have B1 : Hid (Below w.heap.size w { w0 with drawn := w0.drawn + 1 }) := B0.out.drew
    have O1 : Hid (Unc { w0 with drawn := w0.drawn + 1 } ⟨w.heap.size, 0, none⟩ o) := O0.out.below ((Below.refl _ _).drew) O0.out.lt
    generalize ({ w0 with drawn := w0.drawn + 1 } : World) = w1 at *
    clear B0 O0
    refine headT_read rfl (.pointer (some ⟨w.heap.size, 1, none⟩)) (by go_simp) (fun V hV => by go_simp) ?_
    go_simp
    refine headT_read rfl (.int .i64 o.player) (by go_simp) (fun V hV => by obtain ⟨d1, d2, d3, d4, ⟨q0, q1, q2, q3, q4, q5, q6, q7⟩, -⟩ := hV; go_simp) ?_
    go_simp
    refine headT_read rfl (.pointer (some ⟨bu, 1, none⟩)) (by go_simp) (fun V hV => by go_simp) ?_
    go_simp
    refine headT_read rfl (.int .i64 u.player) (by go_simp) (fun V hV => by obtain ⟨d1, d2, d3, d4, ⟨q0, q1, q2, q3, q4, q5, q6, q7⟩, -⟩ := hV; go_simp) ?_
    go_simp
    refine headT_read rfl (.bool false) (by go_simp) (fun V hV => by go_simp) ?_
    go_simp
    refine headT_read rfl (.bool false) (by go_simp) (fun V hV => by go_simp) ?_
    go_simp
    refine headT_read rfl (.func (Fn.func 43) #[] #[.pointer (some ⟨bw, 0, none⟩), .pointer (some ⟨bu, 0, none⟩)]) (by go_simp) (fun V hV => by obtain ⟨d1, d2, d3, d4, ⟨q0, q1, q2, q3, q4, q5, q6, q7⟩, -⟩ := hV; go_simp) ?_
    go_simp
    refine headT_read rfl (.agg #[.int .i64 o.id, .int .i64 o.player, .int .i64 o.kind, .int .i64 o.at_, .int .i64 o.life, .int .i64 o.load, .int .i64 o.task, .int .i64 o.goal]) (by go_simp) (fun V hV => by obtain ⟨d1, d2, d3, d4, ⟨q0, q1, q2, q3, q4, q5, q6, q7⟩, -⟩ := hV; go_simp) ?_
    go_simp
    refine headT_read rfl (.pointer (some ⟨bk, 3, none⟩)) (by go_simp) (fun V hV => by go_simp) ?_
    go_simp
    refine headT_read rfl (.int .i64 rng) (by go_simp) (fun V hV => by obtain ⟨d1, d2, d3, d4, ⟨q0, q1, q2, q3, q4, q5, q6, q7⟩, -⟩ := hV; go_simp) ?_
    go_simp
    refine headT_call rfl 43 (#[o.val] ++ #[.pointer (some ⟨bw, 0, none⟩), .pointer (some ⟨bu, 0, none⟩)]) (by go_simp) (by go_simp; rfl) ?_
    refine (far_fg X u o Wn bw bu _ _ _ _ _ w1 (T0.out.below B1.out T0.out.x.lt T0.out.u.lt) GG.out.1 GG.out.2.1 GG.out.2.2.1 GG.out.2.2.2.1 GG.out.2.2.2.2).mono ?_
    rintro e w2 ⟨rfl, hb⟩
    have B2 : Hid (Below w.heap.size w w2) := B1.out.trans (hb.mono B1.out.size)
    refine ⟨_, rfl, CB.out _ B2.out (O1.out.below hb O1.out.lt), ?_⟩
    clear hb B1 O1
    go_simp
    obtain ⟨t, ht⟩ : ∃ t, farU Wn u o = t := ⟨_, rfl⟩
    rw [ht] at S1 ⊢
    clear ht
    refine sched_read rfl (.bool (decide (rng < t))) (by go_simp) (fun V hV => by go_simp) ?_
    go_simp
    refine sched_read rfl (.bool (decide (rng < t))) (by go_simp) (fun V hV => by go_simp) ?_
    go_simp
    refine sched_value rfl (.bool (decide (rng < t))) w2 (by go_simp) (by go_simp) trivial ?_
    go_simp
    unfold wpSched
    go_wp2
    go_ret
    exact ⟨by rw [S1.out]; rfl, B2.out⟩

set_option maxRecDepth 100000 in
set_option maxHeartbeats 4000000 in
theorem soon_fg (X : WV) (u a b : UnV) (Wn bw bu bf : Nat) (u1 u2 u3 u4 u5 : Value) (w : World) (hT : Tb w bw bu X u1 u2 u3 u4 u5 u) (hF : w.cell? ⟨bf, 0, none⟩ = some (.func (Fn.func 43) #[] #[.pointer (some ⟨bw, 0, none⟩), .pointer (some ⟨bu, 0, none⟩)])) (hW : X.wide = (Wn : Nat)) (h1 : 0 < Wn) (h2 : Wn ≤ 12) (hu : InF u) (ha : InF a) (hb : InF b) (la : 0 ≤ a.life ∧ a.life ≤ 1000000) (lb : 0 ≤ b.life ∧ b.life ≤ 1000000) :
    Calls Try.prog 47 #[a.val, b.val, .pointer (some ⟨bf, 0, none⟩)] w fun e w' => e = .returned (.int .i64 (soonU Wn u a b)) ∧ Below w.heap.size w w' := by
  have T0 : Hid (Tb w bw bu X u1 u2 u3 u4 u5 u) := hT
  have GG : Hid (X.wide = (Wn : Nat) ∧ 0 < Wn ∧ Wn ≤ 12 ∧ InF u ∧ InF a ∧ InF b) := ⟨hW, h1, h2, hu, ha, hb⟩
  have CF : Hid (w.cell? ⟨bf, 0, none⟩ = some (.func (Fn.func 43) #[] #[.pointer (some ⟨bw, 0, none⟩), .pointer (some ⟨bu, 0, none⟩)]) ∧ bf < w.heap.size) := ⟨hF, cell_lt hF⟩
  have wl : IntKind.i64.wrap (a.life - b.life) = a.life - b.life := by rw [IntKind.wrap_i64]; omega
  have wf : IntKind.i64.wrap (farU Wn u a - farU Wn u b) = farU Wn u a - farU Wn u b := by
    have g1 := farN_ge Wn u.at_.toNat a.at_.toNat
    have g2 := farN_ge Wn u.at_.toNat b.at_.toNat
    unfold farU
    rw [IntKind.wrap_i64]; omega
  have B0 : Hid (Below w.heap.size w ((w.alloc (Obj.cells #[.int .i64 a.id, .int .i64 a.player, .int .i64 a.kind, .int .i64 a.at_, .int .i64 a.life, .int .i64 a.load, .int .i64 a.task, .int .i64 a.goal] 38)).alloc (Obj.cells #[.int .i64 b.id, .int .i64 b.player, .int .i64 b.kind, .int .i64 b.at_, .int .i64 b.life, .int .i64 b.load, .int .i64 b.task, .int .i64 b.goal] 38))) := ((Below.refl _ _).alloc (Nat.le_refl _) _).alloc (by simp) _
  have A0 : Hid (Unc ((w.alloc (Obj.cells #[.int .i64 a.id, .int .i64 a.player, .int .i64 a.kind, .int .i64 a.at_, .int .i64 a.life, .int .i64 a.load, .int .i64 a.task, .int .i64 a.goal] 38)).alloc (Obj.cells #[.int .i64 b.id, .int .i64 b.player, .int .i64 b.kind, .int .i64 b.at_, .int .i64 b.life, .int .i64 b.load, .int .i64 b.task, .int .i64 b.goal] 38)) ⟨w.heap.size, 0, none⟩ a) := (Unc.mk' a rfl).below ((Below.refl _ _).alloc (Nat.le_refl _) _) (by simp)
  have V0 : Hid (Unc ((w.alloc (Obj.cells #[.int .i64 a.id, .int .i64 a.player, .int .i64 a.kind, .int .i64 a.at_, .int .i64 a.life, .int .i64 a.load, .int .i64 a.task, .int .i64 a.goal] 38)).alloc (Obj.cells #[.int .i64 b.id, .int .i64 b.player, .int .i64 b.kind, .int .i64 b.at_, .int .i64 b.life, .int .i64 b.load, .int .i64 b.task, .int .i64 b.goal] 38)) ⟨w.heap.size + 1, 0, none⟩ b) := Unc.mk' b (by simp)
  have CB : Hid (∀ V, Below w.heap.size w V → Unc V ⟨w.heap.size, 0, none⟩ a → Unc V ⟨w.heap.size + 1, 0, none⟩ b → (V.cell? ⟨bf, 0, none⟩ = some (.func (Fn.func 43) #[] #[.pointer (some ⟨bw, 0, none⟩), .pointer (some ⟨bu, 0, none⟩)]) ∧ Unc V ⟨w.heap.size, 0, none⟩ a ∧ Unc V ⟨w.heap.size + 1, 0, none⟩ b ∧ V.cell? ⟨w.heap.size, 4, none⟩ = some (.int .i64 a.life) ∧ V.cell? ⟨w.heap.size + 1, 4, none⟩ = some (.int .i64 b.life))) := fun V hb h0 h1 =>
    ⟨by rw [hb.cell (p := ⟨bf, 0, none⟩) CF.out.2]; exact CF.out.1, h0, h1, by have := h0.c4; rw [Nat.zero_add] at this; exact this, by have := h1.c4; rw [Nat.zero_add] at this; exact this⟩
  clear hT hF hW h1 h2 hu ha hb la lb
  unfold UnV.val
  go_enter Try.func47, Try.ntmps47
  go_upto_region 1 with fail
  generalize ((w.alloc (Obj.cells #[.int .i64 a.id, .int .i64 a.player, .int .i64 a.kind, .int .i64 a.at_, .int .i64 a.life, .int .i64 a.load, .int .i64 a.task, .int .i64 a.goal] 38)).alloc (Obj.cells #[.int .i64 b.id, .int .i64 b.player, .int .i64 b.kind, .int .i64 b.at_, .int .i64 b.life, .int .i64 b.load, .int .i64 b.task, .int .i64 b.goal] 38)) = w0 at *
  refine wp_region_two [(true, 0), (true, 1), (true, 3), (true, 4), (true, 7), (true, 8), (true, 9), (true, 10), (true, 11), (false, 2), (false, 5), (true, 6), (false, 12), (false, 13)] [(false, 14)] (fun V => (V.cell? ⟨bf, 0, none⟩ = some (.func (Fn.func 43) #[] #[.pointer (some ⟨bw, 0, none⟩), .pointer (some ⟨bu, 0, none⟩)]) ∧ Unc V ⟨w.heap.size, 0, none⟩ a ∧ Unc V ⟨w.heap.size + 1, 0, none⟩ b ∧ V.cell? ⟨w.heap.size, 4, none⟩ = some (.int .i64 a.life) ∧ V.cell? ⟨w.heap.size + 1, 4, none⟩ = some (.int .i64 b.life))) (by kernel_rfl) (by kernel_rfl) (by kernel_rfl) (by decide +kernel) (by decide +kernel) (CB.out _ B0.out.drew (A0.out.below ((Below.refl _ _).drew) A0.out.lt) (V0.out.below ((Below.refl _ _).drew) V0.out.lt)) ?_
  have B1 : Hid (Below w.heap.size w { w0 with drawn := w0.drawn + 1 }) := B0.out.drew
  have A1 : Hid (Unc { w0 with drawn := w0.drawn + 1 } ⟨w.heap.size, 0, none⟩ a) := A0.out.below ((Below.refl _ _).drew) A0.out.lt
  have V1 : Hid (Unc { w0 with drawn := w0.drawn + 1 } ⟨w.heap.size + 1, 0, none⟩ b) := V0.out.below ((Below.refl _ _).drew) V0.out.lt
  generalize ({ w0 with drawn := w0.drawn + 1 } : World) = w1 at *
  clear B0 A0 V0
  refine headT_read rfl (.func (Fn.func 43) #[] #[.pointer (some ⟨bw, 0, none⟩), .pointer (some ⟨bu, 0, none⟩)]) (by go_simp) (fun V hV => by obtain ⟨d1, ⟨q0, q1, q2, q3, q4, q5, q6, q7⟩, ⟨r0, r1, r2, r3, r4, r5, r6, r7⟩, d2, d3⟩ := hV; go_simp) ?_
  go_simp
  refine headT_read rfl (.agg #[.int .i64 a.id, .int .i64 a.player, .int .i64 a.kind, .int .i64 a.at_, .int .i64 a.life, .int .i64 a.load, .int .i64 a.task, .int .i64 a.goal]) (by go_simp) (fun V hV => by obtain ⟨d1, ⟨q0, q1, q2, q3, q4, q5, q6, q7⟩, ⟨r0, r1, r2, r3, r4, r5, r6, r7⟩, d2, d3⟩ := hV; go_simp) ?_
  go_simp
  refine headT_read rfl (.func (Fn.func 43) #[] #[.pointer (some ⟨bw, 0, none⟩), .pointer (some ⟨bu, 0, none⟩)]) (by go_simp) (fun V hV => by obtain ⟨d1, ⟨q0, q1, q2, q3, q4, q5, q6, q7⟩, ⟨r0, r1, r2, r3, r4, r5, r6, r7⟩, d2, d3⟩ := hV; go_simp) ?_
  go_simp
  refine headT_read rfl (.agg #[.int .i64 b.id, .int .i64 b.player, .int .i64 b.kind, .int .i64 b.at_, .int .i64 b.life, .int .i64 b.load, .int .i64 b.task, .int .i64 b.goal]) (by go_simp) (fun V hV => by obtain ⟨d1, ⟨q0, q1, q2, q3, q4, q5, q6, q7⟩, ⟨r0, r1, r2, r3, r4, r5, r6, r7⟩, d2, d3⟩ := hV; go_simp) ?_
  go_simp
  refine headT_read rfl (.pointer (some ⟨w.heap.size, 4, none⟩)) (by go_simp) (fun V hV => by go_simp) ?_
  go_simp
  refine headT_read rfl (.int .i64 a.life) (by go_simp) (fun V hV => by obtain ⟨d1, ⟨q0, q1, q2, q3, q4, q5, q6, q7⟩, ⟨r0, r1, r2, r3, r4, r5, r6, r7⟩, d2, d3⟩ := hV; go_simp) ?_
  go_simp
  refine headT_read rfl (.pointer (some ⟨w.heap.size + 1, 4, none⟩)) (by go_simp) (fun V hV => by go_simp) ?_
  go_simp
  refine headT_read rfl (.int .i64 b.life) (by go_simp) (fun V hV => by obtain ⟨d1, ⟨q0, q1, q2, q3, q4, q5, q6, q7⟩, ⟨r0, r1, r2, r3, r4, r5, r6, r7⟩, d2, d3⟩ := hV; go_simp) ?_
  go_simp
  refine headT_read rfl (.int .i64 (a.life - b.life)) (by go_simp) (fun V hV => by go_simp) ?_
  go_simp
  refine headT_call rfl 43 (#[a.val] ++ #[.pointer (some ⟨bw, 0, none⟩), .pointer (some ⟨bu, 0, none⟩)]) (by go_simp) (by go_simp; rfl) ?_
  refine (far_fg X u a Wn bw bu _ _ _ _ _ w1 (T0.out.below B1.out T0.out.x.lt T0.out.u.lt) GG.out.1 GG.out.2.1 GG.out.2.2.1 GG.out.2.2.2.1 GG.out.2.2.2.2.1).mono ?_
  rintro e w2 ⟨rfl, hb⟩
  have B2 : Hid (Below w.heap.size w w2) := B1.out.trans (hb.mono B1.out.size)
  have A2 : Hid (Unc w2 ⟨w.heap.size, 0, none⟩ a) := A1.out.below hb A1.out.lt
  have V2 : Hid (Unc w2 ⟨w.heap.size + 1, 0, none⟩ b) := V1.out.below hb V1.out.lt
  refine ⟨_, rfl, CB.out _ B2.out A2.out V2.out, ?_⟩
  clear hb B1 A1 V1
  go_simp
  refine headT_call rfl 43 (#[b.val] ++ #[.pointer (some ⟨bw, 0, none⟩), .pointer (some ⟨bu, 0, none⟩)]) (by go_simp) (by go_simp; rfl) ?_
  refine (far_fg X u b Wn bw bu _ _ _ _ _ w2 (T0.out.below B2.out T0.out.x.lt T0.out.u.lt) GG.out.1 GG.out.2.1 GG.out.2.2.1 GG.out.2.2.2.1 GG.out.2.2.2.2.2).mono ?_
  rintro e w3 ⟨rfl, hb⟩
  have B3 : Hid (Below w.heap.size w w3) := B2.out.trans (hb.mono B2.out.size)
  have A3 : Hid (Unc w3 ⟨w.heap.size, 0, none⟩ a) := A2.out.below hb A2.out.lt
  have V3 : Hid (Unc w3 ⟨w.heap.size + 1, 0, none⟩ b) := V2.out.below hb V2.out.lt
  refine ⟨_, rfl, CB.out _ B3.out A3.out V3.out, ?_⟩
  clear hb B2 A2 V2
  go_simp
  obtain ⟨fa, hfa⟩ : ∃ t, farU Wn u a = t := ⟨_, rfl⟩
  obtain ⟨fb, hfb⟩ : ∃ t, farU Wn u b = t := ⟨_, rfl⟩
  have SO : Hid (soonU Wn u a b = if fa - fb = 0 then a.life - b.life else fa - fb) := by unfold Hid soonU; rw [hfa, hfb]
  rw [hfa, hfb] at wf
  rw [hfa, hfb]
  clear hfa hfb
  refine headT_read rfl (.int .i64 (fa - fb)) (by go_simp) (fun V hV => by go_simp) ?_
  go_simp
  have BA : Hid (Below w3.heap.size w3 (w3.alloc (Obj.cells #[.int .i64 (fa - fb), .int .i64 (a.life - b.life)] 3))) := (Below.refl _ _).alloc (Nat.le_refl _) _
  have s0 : (w3.alloc (Obj.cells #[.int .i64 (fa - fb), .int .i64 (a.life - b.life)] 3)).cell? ⟨w3.heap.size, 0, none⟩ = some (.int .i64 (fa - fb)) := by simp
  have s1 : (w3.alloc (Obj.cells #[.int .i64 (fa - fb), .int .i64 (a.life - b.life)] 3)).cell? ⟨w3.heap.size, 1, none⟩ = some (.int .i64 (a.life - b.life)) := by simp
  refine headT_value rfl (.slice (some ⟨w3.heap.size, 0, none⟩) 2 2) (w3.alloc (Obj.cells #[.int .i64 (fa - fb), .int .i64 (a.life - b.life)] 3)) (by go_simp) (by go_simp) (CB.out _ (B3.out.trans (BA.out.mono B3.out.size)) (A3.out.below BA.out A3.out.lt) (V3.out.below BA.out V3.out.lt)) ?_
  go_simp
  generalize (w3.alloc (Obj.cells #[.int .i64 (fa - fb), .int .i64 (a.life - b.life)] 3)) = w4 at *
  have B4 : Hid (Below w.heap.size w w4) := B3.out.trans (BA.out.mono B3.out.size)
  have A4 : Hid (Unc w4 ⟨w.heap.size, 0, none⟩ a) := A3.out.below BA.out A3.out.lt
  have V4 : Hid (Unc w4 ⟨w.heap.size + 1, 0, none⟩ b) := V3.out.below BA.out V3.out.lt
  refine headT_call rfl 48 #[.slice (some ⟨w3.heap.size, 0, none⟩) 2 2] (by go_simp) (by go_simp) ?_
  refine (or2_any _ _ _ w4 s0 s1).mono ?_
  rintro e w5 ⟨rfl, rfl⟩
  refine ⟨_, rfl, CB.out _ B4.out A4.out V4.out, ?_⟩
  rw [← SO.out]
  obtain ⟨t, ht⟩ : ∃ t, soonU Wn u a b = t := ⟨_, rfl⟩
  have ST : Hid (soonU Wn u a b = t) := ht
  rw [ht]
  clear ht SO s0 s1 BA
  go_simp
  refine sched_value rfl (.int .i64 t) w5 (by go_simp) (by go_simp) trivial ?_
  go_simp
  unfold wpSched
  go_wp2
  go_ret
  exact ⟨by rw [ST.out]; rfl, B4.out⟩
end Go.Proofs.Ytplnhgllbhdfjaa

namespace Go.Proofs.Ytplnhgllbhdfjaa.Fd

/-- what is wrong with a cell. -/
def cellFault (g o : Int) : Int := if g < 0 ∨ 3 < g ∨ o < 0 ∨ 1000000 < o then 1 else if 0 < o ∧ g ≠ 0 then 7 else 0
def cellsFault : List Int → List Int → Int
  | g :: gs, o :: os => if cellFault g o = 0 then cellsFault gs os else cellFault g o
  | _, _ => 0
/-- what is wrong with a field. -/
def fault (W H : Int) (gs os : List Int) : Int :=
  if W < 1 ∨ 12 < W ∨ H < 1 ∨ 12 < H then 1 else if (gs.length : Int) ≠ W * H ∨ (os.length : Int) ≠ W * H then 3 else cellsFault gs os

/-- a field with which nothing is wrong. -/
structure Good (W H : Nat) (gs os : List Int) : Prop where
  w1 : 1 ≤ W
  w2 : W ≤ 12
  h1 : 1 ≤ H
  h2 : H ≤ 12
  gl : gs.length = W * H
  ol : os.length = W * H
  cell : ∀ (i : Nat) g o, gs[i]? = some g → os[i]? = some o → 0 ≤ g ∧ g ≤ 3 ∧ 0 ≤ o ∧ o ≤ 1000000 ∧ (0 < o → g = 0)

theorem cellFault_zero {g o : Int} (h : cellFault g o = 0) : 0 ≤ g ∧ g ≤ 3 ∧ 0 ≤ o ∧ o ≤ 1000000 ∧ (0 < o → g = 0) := by
  unfold cellFault at h
  split at h
  · omega
  · split at h
    · omega
    · omega
theorem cellsFault_zero : ∀ (gs os : List Int), cellsFault gs os = 0 → ∀ (i : Nat) g o, gs[i]? = some g → os[i]? = some o → cellFault g o = 0
  | [], _, _, i, g, o, h1, _ => by simp at h1
  | _ :: _, [], _, i, g, o, _, h2 => by simp at h2
  | g0 :: gs, o0 :: os, h, i, g, o, h1, h2 => by
    unfold cellsFault at h
    split at h
    · rename_i hc
      cases i with
      | zero => simp at h1 h2; subst h1; subst h2; exact hc
      | succ i => exact cellsFault_zero gs os h i g o (by simpa using h1) (by simpa using h2)
    · rename_i hc
      exact absurd h hc
theorem cellsFault_range (gs os : List Int) : cellsFault gs os = 0 ∨ cellsFault gs os = 1 ∨ cellsFault gs os = 7 := by
  induction gs generalizing os with
  | nil => left; unfold cellsFault; rfl
  | cons g gs ih =>
    cases os with
    | nil => left; unfold cellsFault; rfl
    | cons o os =>
      unfold cellsFault
      split
      · exact ih os
      · unfold cellFault
        split
        · right; left; rfl
        · split
          · right; right; rfl
          · left; rfl
theorem fault_range (W H : Int) (gs os : List Int) : fault W H gs os = 0 ∨ fault W H gs os = 1 ∨ fault W H gs os = 3 ∨ fault W H gs os = 7 := by
  unfold fault
  split
  · omega
  · split
    · omega
    · have := cellsFault_range gs os; omega
theorem fault_zero {W H : Int} {gs os : List Int} (h : fault W H gs os = 0) : ∃ W' H' : Nat, W = W' ∧ H = H' ∧ Good W' H' gs os := by
  unfold fault at h
  split at h
  · omega
  · split at h
    · omega
    · rename_i h1 h2
      refine ⟨W.toNat, H.toNat, by omega, by omega, by omega, by omega, by omega, by omega, ?_, ?_, fun i g o hg ho => cellFault_zero (cellsFault_zero gs os h i g o hg ho)⟩
      · have e : ((W.toNat * H.toNat : Nat) : Int) = W * H := by rw [Int.natCast_mul, Int.toNat_of_nonneg (by omega), Int.toNat_of_nonneg (by omega)]
        omega
      · have e : ((W.toNat * H.toNat : Nat) : Int) = W * H := by rw [Int.natCast_mul, Int.toNat_of_nonneg (by omega), Int.toNat_of_nonneg (by omega)]
        omega
theorem cellFault_of {g o : Int} (h : 0 ≤ g ∧ g ≤ 3 ∧ 0 ≤ o ∧ o ≤ 1000000 ∧ (0 < o → g = 0)) : cellFault g o = 0 := by
  unfold cellFault
  rw [if_neg (by omega), if_neg (by omega)]
theorem cellsFault_of : ∀ (gs os : List Int), (∀ (i : Nat) g o, gs[i]? = some g → os[i]? = some o → cellFault g o = 0) → cellsFault gs os = 0
  | [], _, _ => by unfold cellsFault; rfl
  | _ :: _, [], _ => by unfold cellsFault; rfl
  | g :: gs, o :: os, h => by
    unfold cellsFault
    rw [if_pos (h 0 g o rfl rfl)]
    exact cellsFault_of gs os fun i g' o' h1 h2 => h (i + 1) g' o' (by simpa using h1) (by simpa using h2)
theorem fault_good {W H : Nat} {gs os : List Int} (h : Good W H gs os) : fault W H gs os = 0 := by
  have e : ((W * H : Nat) : Int) = (W : Int) * H := Int.natCast_mul _ _
  have := h.gl; have := h.ol; have := h.w1; have := h.w2; have := h.h1; have := h.h2
  unfold fault
  rw [if_neg (by omega), if_neg (by omega)]
  exact cellsFault_of gs os fun i g o h1 h2 => cellFault_of (h.cell i g o h1 h2)
theorem Good.pos {W H : Nat} {gs os : List Int} (h : Good W H gs os) : 1 ≤ W * H ∧ W * H ≤ 144 := by
  have h1 := Nat.mul_le_mul h.w1 h.h1
  have h2 := Nat.mul_le_mul h.w2 h.h2
  omega
theorem cellsFault_drop (gs os : List Int) (k : Nat) (g o : Int) (hg : gs[k]? = some g) (ho : os[k]? = some o) :
    cellsFault (gs.drop k) (os.drop k) = if cellFault g o = 0 then cellsFault (gs.drop (k + 1)) (os.drop (k + 1)) else cellFault g o := by
  obtain ⟨h1, e1⟩ := List.getElem?_eq_some_iff.1 hg
  obtain ⟨h2, e2⟩ := List.getElem?_eq_some_iff.1 ho
  rw [List.drop_eq_getElem_cons h1, List.drop_eq_getElem_cons h2, e1, e2]
  rfl

/-- the fault of a cell's number. -/
def askFault (F : Int) (n : Nat) (xs : List Int) : Int := if F ≠ 0 then F else if xs.all (fun x => decide (0 ≤ x ∧ x < n)) then 0 else 6

/-- the cells beside one. -/
def near (W H a : Nat) : List Int :=
  (if 0 < a / W then [(a : Int) - W] else []) ++ ((if 0 < a % W then [(a : Int) - 1] else []) ++ ((if a % W + 1 < W then [(a : Int) + 1] else []) ++ (if a / W + 1 < H then [(a : Int) + W] else [])))

/-- how far it is onto a ground. -/
def onto (g : Int) (flies : Bool) : Int := if g = 1 then 0 else if g = 2 then (if flies then 1 else 0) else if g = 3 then (if flies then 1 else 2) else 1
end Go.Proofs.Ytplnhgllbhdfjaa.Fd

namespace Go.Proofs.Ytplnhgllbhdfjaa

/-- v tells the fault n. -/
def Er (v : Value) (n : Int) : Prop := (n = 0 ∧ v = .nilIface) ∨ (n ≠ 0 ∧ v = .iface 62 (.int .i64 n))
theorem Er.nil : Er .nilIface 0 := .inl ⟨rfl, rfl⟩
theorem Er.no {n : Int} (h : n ≠ 0) : Er (.iface 62 (.int .i64 n)) n := .inr ⟨h, rfl⟩
end Go.Proofs.Ytplnhgllbhdfjaa

namespace Go.Proofs.Ytplnhgllbhdfjaa
open Go.RowKit

set_option maxHeartbeats 400000 in
theorem fin_any (x a b : Int) (w : World) :
    Calls Try.prog 76 #[.int .i64 x, .int .i64 a, .int .i64 b] w fun e w' => e = .returned (.bool (decide (a ≤ x ∧ x ≤ b))) ∧ w' = w := by
  by_cases h1 : a ≤ x
  · by_cases h2 : x ≤ b
    · go_enter Try.func76, Try.ntmps76
      go_wp2
      go_ret
      exact ⟨by simp [h1, h2], rfl⟩
    · go_enter Try.func76, Try.ntmps76
      go_wp2
      go_ret
      exact ⟨by simp; omega, rfl⟩
  · go_enter Try.func76, Try.ntmps76
    go_wp2
    go_ret
    exact ⟨by simp; omega, rfl⟩
theorem fin_yes (x a b : Int) (w : World) (h1 : a ≤ x) (h2 : x ≤ b) :
    Calls Try.prog 76 #[.int .i64 x, .int .i64 a, .int .i64 b] w fun e w' => e = .returned (.bool true) ∧ w' = w :=
  (fin_any x a b w).mono fun e w' ⟨h, hw⟩ => ⟨by rw [h, decide_eq_true ⟨h1, h2⟩], hw⟩
theorem fin_no (x a b : Int) (w : World) (h : x < a ∨ b < x) :
    Calls Try.prog 76 #[.int .i64 x, .int .i64 a, .int .i64 b] w fun e w' => e = .returned (.bool false) ∧ w' = w :=
  (fin_any x a b w).mono fun e w' ⟨h', hw⟩ => ⟨by rw [h', decide_eq_false (by omega)], hw⟩

set_option maxHeartbeats 400000 in
theorem cell_any (g o : Int) (w : World) :
    Calls Try.prog 77 #[.int .i64 g, .int .i64 o] w fun e w' => ∃ v, e = .returned v ∧ Er v (Fd.cellFault g o) ∧ w' = w := by
  unfold Fd.cellFault
  by_cases h1 : 0 ≤ g ∧ g ≤ 3
  · obtain ⟨h1a, h1b⟩ := h1
    by_cases h2 : 0 ≤ o ∧ o ≤ 1000000
    · obtain ⟨h2a, h2b⟩ := h2
      rw [if_neg (by omega)]
      by_cases h3 : 0 < o
      · by_cases h4 : g = 0
        · subst h4
          rw [if_neg (by omega)]
          go_enter Try.func77, Try.ntmps77
          go_wp2_with (go_at_call 76; refine (fin_yes _ _ _ _ (by omega) (by omega)).mono ?_; rintro e w' ⟨rfl, rfl⟩)
          go_ret
          exact ⟨_, rfl, Er.nil, rfl⟩
        · rw [if_pos ⟨h3, h4⟩]
          go_enter Try.func77, Try.ntmps77
          go_wp2_with (go_at_call 76; refine (fin_yes _ _ _ _ (by omega) (by omega)).mono ?_; rintro e w' ⟨rfl, rfl⟩)
          go_ret
          exact ⟨_, rfl, Er.no (by decide), rfl⟩
      · rw [if_neg (by omega)]
        go_enter Try.func77, Try.ntmps77
        go_wp2_with (go_at_call 76; refine (fin_yes _ _ _ _ (by omega) (by omega)).mono ?_; rintro e w' ⟨rfl, rfl⟩)
        go_ret
        exact ⟨_, rfl, Er.nil, rfl⟩
    · rw [if_pos (by omega)]
      have h2' : o < 0 ∨ 1000000 < o := by omega
      clear h2
      go_enter Try.func77, Try.ntmps77
      go_wp2_with fail
      refine (fin_yes _ _ _ _ (by omega) (by omega)).mono ?_
      rintro e w' ⟨rfl, rfl⟩
      go_wp2_with fail
      refine (fin_no _ _ _ _ h2').mono ?_
      rintro e w' ⟨rfl, rfl⟩
      go_wp2
      go_ret
      exact ⟨_, rfl, Er.no (by decide), rfl⟩
  · rw [if_pos (by omega)]
    have h1' : g < 0 ∨ 3 < g := by omega
    clear h1
    go_enter Try.func77, Try.ntmps77
    go_wp2_with fail
    refine (fin_no _ _ _ _ h1').mono ?_
    rintro e w' ⟨rfl, rfl⟩
    go_wp2
    go_ret
    exact ⟨_, rfl, Er.no (by decide), rfl⟩
theorem cell_ok (g o : Int) (w : World) (h : Fd.cellFault g o = 0) :
    Calls Try.prog 77 #[.int .i64 g, .int .i64 o] w fun e w' => e = .returned .nilIface ∧ w' = w := by
  refine (cell_any g o w).mono ?_
  rintro e w' ⟨v, rfl, hv, rfl⟩
  rcases hv with ⟨_, rfl⟩ | ⟨hn, _⟩
  · exact ⟨rfl, rfl⟩
  · exact absurd h hn
theorem cell_bad (g o f : Int) (w : World) (h : Fd.cellFault g o = f) (hf : f ≠ 0) :
    Calls Try.prog 77 #[.int .i64 g, .int .i64 o] w fun e w' => e = .returned (.iface 62 (.int .i64 f)) ∧ w' = w := by
  refine (cell_any g o w).mono ?_
  rintro e w' ⟨v, rfl, hv, rfl⟩
  rw [h] at hv
  rcases hv with ⟨hn, _⟩ | ⟨_, rfl⟩
  · exact absurd hn hf
  · exact ⟨rfl, rfl⟩
end Go.Proofs.Ytplnhgllbhdfjaa

namespace Go.Proofs.Ytplnhgllbhdfjaa
open Go.RowKit
set_option linter.unusedVariables false

/-- v is a field of Ground gs and Ore os. -/
def Fl (w : World) (v : Value) (W H : Int) (gs os : List Int) : Prop := ∃ u1 u2, v = .agg #[.int .i64 W, .int .i64 H, u1, u2] ∧ Ro w u1 gs ∧ Ro w u2 os
theorem Fl.below {w w' : World} {v : Value} {W H : Int} {gs os : List Int} (h : Fl w v W H gs os) (hb : Below w.heap.size w w') : Fl w' v W H gs os := by
  obtain ⟨u1, u2, h1, h2, h3⟩ := h
  exact ⟨u1, u2, h1, h2.below hb, h3.below hb⟩

/-- a field in a box. -/
structure Bf (w : World) (z : Nat) (W H : Int) (u1 u2 : Value) : Prop where
  c0 : w.cell? ⟨z, 0, none⟩ = some (.int .i64 W)
  c1 : w.cell? ⟨z, 1, none⟩ = some (.int .i64 H)
  c2 : w.cell? ⟨z, 2, none⟩ = some u1
  c3 : w.cell? ⟨z, 3, none⟩ = some u2
theorem Bf.lt {w : World} {z : Nat} {W H : Int} {u1 u2 : Value} (h : Bf w z W H u1 u2) : z < w.heap.size := cell_lt h.c0
theorem Bf.below {w w' : World} {z n : Nat} {W H : Int} {u1 u2 : Value} (h : Bf w z W H u1 u2) (hb : Below n w w') (hn : z < n) : Bf w' z W H u1 u2 :=
  ⟨by rw [hb.cell (p := ⟨z, 0, none⟩) hn]; exact h.c0, by rw [hb.cell (p := ⟨z, 1, none⟩) hn]; exact h.c1, by rw [hb.cell (p := ⟨z, 2, none⟩) hn]; exact h.c2, by rw [hb.cell (p := ⟨z, 3, none⟩) hn]; exact h.c3⟩
theorem Bf.drewN {w : World} {z : Nat} {W H : Int} {u1 u2 : Value} (h : Bf w z W H u1 u2) (n : Nat) : Bf (w.drewN n) z W H u1 u2 := h.below (_root_.Go.below_drewN (Below.refl _ _) n) h.lt
theorem Bf.mk' {w : World} {z : Nat} (W H : Int) (u1 u2 : Value) (hz : w.heap.size = z) : Bf (w.alloc (.cells #[.int .i64 W, .int .i64 H, u1, u2] 25)) z W H u1 u2 := by
  subst hz
  exact ⟨by simp, by simp, by simp, by simp⟩

set_option maxHeartbeats 1000000 in
theorem check_cells (a b : Option Addr) (c d : Nat) (W H : Int) (gs os : List Int) (w : World) (w1 : 1 ≤ W) (w2 : W ≤ 12) (h1 : 1 ≤ H) (h2 : H ≤ 12) (hg : (gs.length : Int) = W * H) (ho : (os.length : Int) = W * H)
    (c1 : gs.length ≤ c) (c2 : c ≤ 9223372036854775807) (d1 : os.length ≤ d) (d2 : d ≤ 9223372036854775807) (ha : Cells w a gs) (hb : Cells w b os) :
    Calls Try.prog 63 #[.agg #[.int .i64 W, .int .i64 H, .slice a gs.length c, .slice b os.length d]] w fun e w' => ∃ v, e = .returned v ∧ Er v (Fd.cellsFault gs os) ∧ Below w.heap.size w w' := by
  have Ha : Hid (Cells w a gs) := ha
  have Hb : Hid (Cells w b os) := hb
  have hn : W * H ≤ 144 := by
    have := Int.mul_le_mul w2 h2 (by omega) (by omega)
    omega
  have Ho : Hid (os.length = gs.length) := by unfold Hid; omega
  have e1 : W * H = (gs.length : Int) := by omega
  have e2 : os.length = gs.length := Ho.out
  clear ha hb
  rw [e2] at d1 ⊢
  clear hg ho e2
  generalize hw0 : w.alloc (Obj.cells #[.int .i64 W, .int .i64 H, .slice a gs.length c, .slice b gs.length d] 25) = w0
  have B0 : Hid (Below w.heap.size w w0) := by rw [← hw0]; exact (Below.refl _ _).alloc (Nat.le_refl _) _
  have f0 : w0.cell? ⟨w.heap.size, 2, none⟩ = some (.slice a gs.length c) := by rw [← hw0]; simp
  have f1 : w0.cell? ⟨w.heap.size, 3, none⟩ = some (.slice b gs.length d) := by rw [← hw0]; simp
  have Hw : Hid (w.alloc (Obj.cells #[.int .i64 W, .int .i64 H, .slice a gs.length c, .slice b gs.length d] 25) = w0) := hw0
  clear hw0
  have Ca : Hid (Cells w0 a gs) := Ha.out.below B0.out
  have Cb : Hid (Cells w0 b os) := Hb.out.below B0.out
  clear Ha Hb
  go_enter Try.func63, Try.ntmps63
  go_wp2_with (go_at_call 76; refine (fin_yes _ _ _ _ (by omega) (by omega)).mono ?_; rintro e w' ⟨rfl, rfl⟩)
  rw [Hw.out]
  go_loopw [36] (fun i W' => ∃ (k q : Nat), k ≤ gs.length ∧ i = .int .i64 (k : Nat) ∧ Fd.cellsFault (gs.drop k) (os.drop k) = Fd.cellsFault gs os ∧ W' = w0.drewN q) (fun i _ => gs.length - (intOf i).toNat)
  case atStart => exact ⟨0, 0, Nat.zero_le _, rfl, by simp, rfl⟩
  case round =>
    obtain ⟨k, q, hk, rfl, hf, rfl⟩ := hrel
    have Hf : Hid (Fd.cellsFault (gs.drop k) (os.drop k) = Fd.cellsFault gs os) := hf
    clear hf
    by_cases h0 : k = gs.length
    · subst h0
      go_wp2
      go_ret
      refine ⟨_, rfl, ?_, _root_.Go.below_drewN B0.out q⟩
      rw [← Hf.out, List.drop_of_length_le (Nat.le_refl _)]
      exact Er.nil
    · have hkx : k < gs.length := by omega
      have hky : k < os.length := by rw [Ho.out]; exact hkx
      obtain ⟨x, rfl, -, hx⟩ := Ca.out (by intro h; rw [h] at hkx; simp at hkx)
      obtain ⟨y, rfl, -, hy⟩ := Cb.out (by intro h; rw [h] at hky; simp at hky)
      have cx := hx k gs[k] (List.getElem?_eq_getElem hkx)
      have cy := hy k os[k] (List.getElem?_eq_getElem hky)
      have Te := Fd.cellsFault_drop gs os k gs[k] os[k] (List.getElem?_eq_getElem hkx) (List.getElem?_eq_getElem hky)
      rw [Hf.out] at Te
      have HT : Hid _ := Te
      generalize gs[k] = p at *
      generalize os[k] = r at *
      clear hx hy Te
      have f0q : (w0.drewN q).cell? ⟨w.heap.size, 2, none⟩ = some (.slice (some x) gs.length c) := f0
      have f1q : (w0.drewN q).cell? ⟨w.heap.size, 3, none⟩ = some (.slice (some y) gs.length d) := f1
      have cxq : (w0.drewN q).cell? (x.add k) = some (.int .i64 p) := cx
      have cyq : (w0.drewN q).cell? (y.add k) = some (.int .i64 r) := cy
      have Bq : Hid (∀ n, Below w.heap.size w ((w0.drewN q).drewN n)) := fun n => _root_.Go.below_drewN (_root_.Go.below_drewN B0.out q) n
      have Eq : Hid (∀ n, (w0.drewN q).drewN n = w0.drewN (q + n)) := fun n => by rw [World.drewN_drewN]
      clear cx cy
      generalize w0.drewN q = wq at *
      by_cases hc : Fd.cellFault p r = 0
      · have Hc : Hid (Fd.cellFault p r = 0) := hc
        clear hc
        go_wp2
        go_quiet ((go_at_call 77; exact Calls.quiet_of_same (cell_ok _ _ _ Hc.out)))
        go_wp2
        go_round
        case rel => exact ⟨k + 1, q + nq, by omega, by go_num, by have := HT.out; rw [if_pos Hc.out] at this; exact this.symm, Eq.out _⟩
        case measure => simp [intOf]; omega
      · generalize hff : Fd.cellFault p r = ff at *
        have Hc : Hid (Fd.cellFault p r = ff) := hff
        have Hn : Hid (ff ≠ 0) := hc
        clear hc hff
        go_wp2
        go_quiet ((go_at_call 77; exact Calls.quiet_of_same (cell_bad _ _ _ _ Hc.out Hn.out)))
        go_wp2
        go_ret
        refine ⟨_, rfl, ?_, Bq.out _⟩
        rw [HT.out, if_neg Hn.out]
        exact Er.no Hn.out

set_option maxHeartbeats 1000000 in
theorem check_range (u1 u2 : Value) (W H : Int) (w : World) (h : W < 1 ∨ 12 < W ∨ H < 1 ∨ 12 < H) :
    Calls Try.prog 63 #[.agg #[.int .i64 W, .int .i64 H, u1, u2]] w fun e w' => e = .returned (.iface 62 (.int .i64 1)) ∧ Below w.heap.size w w' := by
  by_cases h1 : 1 ≤ W ∧ W ≤ 12
  · obtain ⟨h1a, h1b⟩ := h1
    have h2 : H < 1 ∨ 12 < H := by omega
    clear h
    go_enter Try.func63, Try.ntmps63
    go_wp2_with fail
    refine (fin_yes _ _ _ _ (by omega) (by omega)).mono ?_
    rintro e w' ⟨rfl, rfl⟩
    go_wp2_with fail
    refine (fin_no _ _ _ _ h2).mono ?_
    rintro e w' ⟨rfl, rfl⟩
    go_wp2
    go_ret
    exact ⟨rfl, (Below.refl _ _).alloc (Nat.le_refl _) _⟩
  · have h2 : W < 1 ∨ 12 < W := by omega
    clear h h1
    go_enter Try.func63, Try.ntmps63
    go_wp2_with fail
    refine (fin_no _ _ _ _ h2).mono ?_
    rintro e w' ⟨rfl, rfl⟩
    go_wp2
    go_ret
    exact ⟨rfl, (Below.refl _ _).alloc (Nat.le_refl _) _⟩

set_option maxHeartbeats 1000000 in
theorem check_shape (a b : Option Addr) (n m c d : Nat) (W H : Int) (w : World) (w1 : 1 ≤ W) (w2 : W ≤ 12) (h1 : 1 ≤ H) (h2 : H ≤ 12) (h : (n : Int) ≠ W * H ∨ (m : Int) ≠ W * H) :
    Calls Try.prog 63 #[.agg #[.int .i64 W, .int .i64 H, .slice a n c, .slice b m d]] w fun e w' => e = .returned (.iface 62 (.int .i64 3)) ∧ Below w.heap.size w w' := by
  have hn : W * H ≤ 144 := by
    have := Int.mul_le_mul w2 h2 (by omega) (by omega)
    omega
  have hp : 0 ≤ W * H := Int.mul_nonneg (by omega) (by omega)
  by_cases e : (n : Int) = W * H
  · have e2 : ¬ (m : Int) = W * H := by omega
    have e' : W * H = (n : Int) := e.symm
    rw [e'] at e2
    clear h e
    go_enter Try.func63, Try.ntmps63
    go_wp2_with (go_at_call 76; refine (fin_yes _ _ _ _ (by omega) (by omega)).mono ?_; rintro e w' ⟨rfl, rfl⟩)
    go_ret
    exact ⟨rfl, (Below.refl _ _).alloc (Nat.le_refl _) _⟩
  · clear h
    go_enter Try.func63, Try.ntmps63
    go_wp2_with (go_at_call 76; refine (fin_yes _ _ _ _ (by omega) (by omega)).mono ?_; rintro e w' ⟨rfl, rfl⟩)
    go_ret
    exact ⟨rfl, (Below.refl _ _).alloc (Nat.le_refl _) _⟩

/-- what Check says. -/
theorem check_any (v : Value) (W H : Int) (gs os : List Int) (w : World) (h : Fl w v W H gs os) :
    Calls Try.prog 63 #[v] w fun e w' => ∃ u, e = .returned u ∧ Er u (Fd.fault W H gs os) ∧ Below w.heap.size w w' := by
  obtain ⟨u1, u2, rfl, ⟨a, c, rfl, c1, c2, ca⟩, ⟨b, d, rfl, d1, d2, cb⟩⟩ := h
  unfold Fd.fault
  by_cases h1 : W < 1 ∨ 12 < W ∨ H < 1 ∨ 12 < H
  · rw [if_pos h1]
    exact (check_range _ _ W H w h1).mono fun e w' ⟨he, hb⟩ => ⟨_, he, Er.no (by decide), hb⟩
  · rw [if_neg h1]
    by_cases h2 : (gs.length : Int) ≠ W * H ∨ (os.length : Int) ≠ W * H
    · rw [if_pos h2]
      exact (check_shape _ _ _ _ _ _ W H w (by omega) (by omega) (by omega) (by omega) h2).mono fun e w' ⟨he, hb⟩ => ⟨_, he, Er.no (by decide), hb⟩
    · rw [if_neg h2]
      exact check_cells a b c d W H gs os w (by omega) (by omega) (by omega) (by omega) (by omega) (by omega) c1 c2 d1 d2 ca cb
end Go.Proofs.Ytplnhgllbhdfjaa

namespace Go.Proofs.Ytplnhgllbhdfjaa
open Go.RowKit
set_option linter.unusedVariables false

theorem wl_shape9 {w : World} {v : Value} {X : WV} (h : Wl w v X) : ∃ p1 q1 p2 q2 p3 q3 p4 q4 p5 q5, v = .agg #[.int .i64 X.turn, .int .i64 X.next, .int .i64 X.wide, .int .i64 X.high, .slice p1 X.gs.length q1, .slice p2 X.os.length q2, .slice p3 X.gold.length q3, .slice p4 X.us.length q4, .slice p5 X.qs.length q5] := by
  obtain ⟨u1, u2, u3, u4, u5, rfl, ⟨p1, q1, rfl, -⟩, ⟨p2, q2, rfl, -⟩, ⟨p3, q3, rfl, -⟩, ⟨p4, q4, rfl, -⟩, ⟨p5, q5, rfl, -⟩⟩ := h
  exact ⟨_, _, _, _, _, _, _, _, _, _, rfl⟩
theorem fl_of {w : World} {X : WV} {u1 u2 u3 u4 u5 : Value} (h : Wl w (.agg #[.int .i64 X.turn, .int .i64 X.next, .int .i64 X.wide, .int .i64 X.high, u1, u2, u3, u4, u5]) X) : Fl w (.agg #[.int .i64 X.wide, .int .i64 X.high, u1, u2]) X.wide X.high X.gs X.os :=
  ⟨u1, u2, rfl, h.slices.1, h.slices.2.1⟩
end Go.Proofs.Ytplnhgllbhdfjaa

