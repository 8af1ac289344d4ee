/- The program's kinds: a number within bounds, where a name is. · The program's kinds: their numbers, and whether these are within bounds. · A name's letters, asked rune by rune. Plain mathematics. · The program's kinds: what is a name; what is wrong with one kind, those ahead being right. · The program's kinds: what is wrong with some; the number of a name. · Worlds: what is wrong with what one lies on, and with its numbers. · Worlds: Check. · a unit that is to be put: what is wrong, and what comes of it. · world.checkPlace. · A region that draws its order, in which calls that change memory stand in one order, and what else there is reads what they leave: it may be walked in an order of one's own. · A region that draws its order: what reads, and calls in one order, first, in an order of one's own; then what turns what was read, each the only one that may come. -/
import Derived.Test.YtaicnhkobhdehaaDoorZWorldBegins1
import Derived.Laws.Closers25
import Derived.Deep.DeepCutAuto
import Derived.IntWalk
import Derived.Shelf.GgClosure.StringsIndexFunc
import Derived.Test.YtaicnhkobhdehaaDoorShelf
import Derived.Test.YtaicnhkobhdehaaDoorZWorldBegins2
import Derived.StillTail
import Derived.Below
namespace Go.Proofs.YtaicnhkobhdehaaDoor
open Go.RowKit
set_option linter.unusedVariables false

set_option maxHeartbeats 400000 in
theorem kwin_any (x a b : Int) (w : World) :
    Calls Tryd.prog 67 #[.int .i64 x, .int .i64 a, .int .i64 b] w fun e w' => e = .returned (.bool (decide (a ≤ x ∧ x ≤ b))) ∧ w' = w := by
  by_cases h1 : a ≤ x
  · by_cases h2 : x ≤ b
    · go_enter Tryd.func67, Tryd.ntmps67
      go_wp2
      go_ret
      exact ⟨by simp [h1, h2], rfl⟩
    · go_enter Tryd.func67, Tryd.ntmps67
      go_wp2
      go_ret
      exact ⟨by simp; omega, rfl⟩
  · go_enter Tryd.func67, Tryd.ntmps67
    go_wp2
    go_ret
    exact ⟨by simp; omega, rfl⟩
theorem kwin_yes (x a b : Int) (w : World) (h1 : a ≤ x) (h2 : x ≤ b) :
    Calls Tryd.prog 67 #[.int .i64 x, .int .i64 a, .int .i64 b] w fun e w' => e = .returned (.bool true) ∧ w' = w :=
  (kwin_any x a b w).mono fun e w' ⟨h, hw⟩ => ⟨by rw [h, decide_eq_true ⟨h1, h2⟩], hw⟩
theorem kwin_no (x a b : Int) (w : World) (h : x < a ∨ b < x) :
    Calls Tryd.prog 67 #[.int .i64 x, .int .i64 a, .int .i64 b] w fun e w' => e = .returned (.bool false) ∧ w' = w :=
  (kwin_any x a b w).mono fun e w' ⟨h', hw⟩ => ⟨by rw [h', decide_eq_false (by omega)], hw⟩

/-- r is where the first is; -1: there is none. -/
def FstK (p : KV → Bool) (ks : List KV) (r : Int) : Prop := (r = -1 ∧ ks.any p = false) ∨ ∃ (k : Nat) (x : KV), r = k ∧ ks[k]? = some x ∧ p x = true ∧ (ks.take k).any p = false
theorem anyk_next {p : KV → Bool} {ks : List KV} {k : Nat} {x : KV} (h : ks[k]? = some x) : (ks.take (k + 1)).any p = ((ks.take k).any p || p x) := by
  obtain ⟨hi, e⟩ := List.getElem?_eq_some_iff.1 h
  rw [List.take_succ_eq_append_getElem hi, List.any_append, e]
  simp

set_option maxHeartbeats 2000000 in
theorem idxk_any (K : Nat) (eK : ∀ args w, (callFunc K args).run Tryd.prog w = .ok (.enter K args) w) (u : Value) (cs : Array Value) (ks : List KV) (p : KV → Bool) (w : World) (hu : Kl w u ks)
    (hp : ∀ W, Below w.heap.size w W → ∀ k : KV, Calls Tryd.prog K (#[k.val] ++ cs) W fun e w' => e = .returned (.bool (p k)) ∧ Below W.heap.size W w') :
    Calls Tryd.prog 69 #[u, .func (Fn.func K) #[] cs] w fun e w' => ∃ r : Int, e = .returned (.int .i64 r) ∧ FstK p ks r ∧ Below w.heap.size w w' := by
  obtain ⟨a, c, rfl, c1, c2, ca⟩ := hu
  have Ca : Hid (ks ≠ [] → ∃ x, a = some x ∧ x.block < w.heap.size ∧ ∀ (i : Nat) k, ks[i]? = some k → Kc w (x.add (i * 11)) k) := ca
  have Hp : Hid (∀ W, Below w.heap.size w W → ∀ k : KV, Calls Tryd.prog K (#[k.val] ++ cs) W fun e w' => e = .returned (.bool (p k)) ∧ Below W.heap.size W w') := hp
  clear ca hp
  go_enter Tryd.func69, Tryd.ntmps69
  go_wp2
  go_loopw [8] (fun i W' => ∃ k : Nat, k ≤ ks.length ∧ i = .int .i64 (k : Nat) ∧ (ks.take k).any p = false ∧ Below w.heap.size w W') (fun i _ => ks.length - (intOf i).toNat)
  case atStart => exact ⟨0, Nat.zero_le _, rfl, by simp, Below.refl _ _⟩
  case round =>
    obtain ⟨k, hk, rfl, ht, hb⟩ := hrel
    have Ht : Hid ((ks.take k).any p = false) := ht
    have B : Hid (Below w.heap.size w wr) := hb
    clear ht hb
    by_cases h0 : k = ks.length
    · subst h0
      go_wp2
      go_ret
      refine ⟨_, rfl, .inl ⟨rfl, ?_⟩, B⟩
      have := Ht.out
      rw [List.take_of_length_le (Nat.le_refl _)] at this
      exact this
    · have hkx : k < ks.length := by omega
      obtain ⟨x, rfl, hx1, hx⟩ := Ca.out (by intro h; rw [h] at hkx; simp at hkx)
      obtain ⟨y, hy⟩ : ∃ y, ks[k]? = some y := ⟨_, List.getElem?_eq_getElem hkx⟩
      have Yc := (hx k y hy).below B.out (by rw [add_block]; exact hx1)
      obtain ⟨q0, q1, q2, q3, q4, q5, q6, q7, q8, q9, q10⟩ := Yc
      have hc := Hp.out wr B.out y
      have Hs : Hid _ := anyk_next (p := p) hy
      have Hm : Hid (ks[k]? = some y) := hy
      clear hx hx1 hy
      cases hy : p y with
      | true =>
        rw [hy] at hc
        have Hc : Hid (Calls Tryd.prog K (#[y.val] ++ cs) wr fun e w' => e = .returned (.bool true) ∧ Below wr.heap.size wr w') := hc
        have Hy : Hid (p y = true) := hy
        clear hc hy
        go_wp2_with fail
        refine Calls.mono Hc.out ?_
        rintro e w1 ⟨rfl, b1⟩
        have B1 : Hid (Below w.heap.size w w1) := B.out.trans (b1.mono B.out.size)
        clear b1
        go_wp2
        go_ret
        exact ⟨_, rfl, .inr ⟨k, y, rfl, Hm, Hy, Ht⟩, B1⟩
      | false =>
        rw [hy] at hc
        have Hc : Hid (Calls Tryd.prog K (#[y.val] ++ cs) wr fun e w' => e = .returned (.bool false) ∧ Below wr.heap.size wr w') := hc
        have Hy : Hid (p y = false) := hy
        clear hc hy
        go_wp2_with fail
        refine Calls.mono Hc.out ?_
        rintro e w1 ⟨rfl, b1⟩
        have B1 : Hid (Below w.heap.size w w1) := B.out.trans (b1.mono B.out.size)
        clear b1
        go_wp2
        go_round
        case rel => exact ⟨k + 1, by omega, by go_num, by have := Hs.out; rw [Ht.out, Hy.out] at this; exact this, B1⟩
        case measure => simp [intOf]; omega

set_option maxHeartbeats 400000 in
theorem findc_any (k : KV) (s : ByteArray) (b : Nat) (w : World) (hc : w.cell? ⟨b, 0, none⟩ = some (.string s)) :
    Calls Tryd.prog 70 #[k.val, .pointer (some ⟨b, 0, none⟩)] w fun e w' => e = .returned (.bool (k.k.name == s.data.toList)) ∧ Below w.heap.size w w' := by
  obtain ⟨kb, n0, n1, n2, n3, n4, n5, n6, n7, kf, kt⟩ := k
  have hl := cell_lt hc
  unfold KV.val
  go_enter Tryd.func70, Tryd.ntmps70
  go_wp2
  go_ret
  refine ⟨?_, (Below.refl _ _).alloc (Nat.le_refl _) _⟩
  show Ending.returned (.bool (kb.toList == s.toList)) = _
  rw [ByteArray.toList_eq, ByteArray.toList_eq]
  rfl

theorem efind1 : ∀ args w, (callFunc 70 args).run Tryd.prog w = .ok (.enter 70 args) w := by
  intro args w
  go_simp

set_option maxHeartbeats 400000 in
/-- where a name is. -/
theorem find_any (v : Value) (ks : List KV) (s : ByteArray) (w : World) (h : Kl w v ks) :
    Calls Tryd.prog 56 #[v, .string s] w fun e w' => ∃ r : Int, e = .returned (.int .i64 r) ∧ FstK (fun k => k.k.name == s.data.toList) ks r ∧ Below w.heap.size w w' := by
  have K0 : Hid (Kl w v ks) := h
  obtain ⟨a, c, rfl, c1, c2, -⟩ := h
  go_enter Tryd.func56, Tryd.ntmps56
  go_wp2_with fail
  have B1 : Below w.heap.size w (w.alloc (Obj.cells #[.string s] 9)) := (Below.refl _ _).alloc (Nat.le_refl _) _
  have hc : (w.alloc (Obj.cells #[.string s] 9)).cell? ⟨w.heap.size, 0, none⟩ = some (.string s) := by simp
  have hz : (w.alloc (Obj.cells #[.string s] 9)).heap.size = w.heap.size + 1 := by simp
  refine (idxk_any 70 efind1 _ _ ks (fun k => k.k.name == s.data.toList) _ (K0.out.below B1) ?_).mono ?_
  · intro W hW k
    exact findc_any k s w.heap.size W (by rw [hW.cell (p := ⟨w.heap.size, 0, none⟩) (by rw [hz]; exact Nat.lt_succ_self _)]; exact hc)
  · rintro e w1 ⟨r, rfl, hr, b1⟩
    have B2 : Hid (Below w.heap.size w w1) := B1.trans (b1.mono B1.size)
    have Hr : Hid (FstK (fun k => k.k.name == s.data.toList) ks r) := hr
    clear hr b1 B1 hc hz
    go_wp2
    go_ret
    exact ⟨r, rfl, Hr, B2⟩
end Go.Proofs.YtaicnhkobhdehaaDoor

namespace Go.Proofs.YtaicnhkobhdehaaDoor
open Go.RowKit
set_option linter.unusedVariables false

def KV.arr (k : KV) : Value := .agg #[.int .i64 k.n0, .int .i64 k.n1, .int .i64 k.n2, .int .i64 k.n3, .int .i64 k.n4, .int .i64 k.n5, .int .i64 k.n6, .int .i64 k.n7]
set_option maxHeartbeats 1000000 in
theorem nums_any (k : KV) (w : World) :
    Calls Tryd.prog 71 #[k.val] w fun e w' => e = .returned k.arr ∧ Below w.heap.size w w' := by
  obtain ⟨kb, n0, n1, n2, n3, n4, n5, n6, n7, kf, kt⟩ := k
  unfold KV.val KV.arr
  go_enter Tryd.func71, Tryd.ntmps71
  go_wp2
  refine bodyPost_ret (v := .agg #[.int .i64 n0, .int .i64 n1, .int .i64 n2, .int .i64 n3, .int .i64 n4, .int .i64 n5, .int .i64 n6, .int .i64 n7]) (by simp [results, Tryd.results71, go_sem]) rfl ⟨rfl, ?_⟩
  exact ((Below.refl _ _).alloc (Nat.le_refl _) _).alloc (by simp) _

theorem idx8 (cs : Array Value) (p : Nat) (x : Int) (hp : p < 8) (h : cs[p]? = some (.int .i64 x)) (W : World) : (Instr.index 128 (.agg cs) (.int .i64 (p : Int))).run Tryd.prog W = .ok (.int .i64 x) W := by
  have h1 : (0 : Int) ≤ p ∧ (p : Int) < 8 := by omega
  have hs : p < cs.size := (Array.getElem?_eq_some_iff.1 h).1
  unfold Instr.index
  simp [go_sem, h1]
  rw [if_pos hp, h]
  simp [go_sem]
def KV.ns (k : KV) : List Int := [k.n0, k.n1, k.n2, k.n3, k.n4, k.n5, k.n6, k.n7]
set_option maxRecDepth 100000 in
set_option maxHeartbeats 4000000 in
theorem inb_any (k : KV) (w : World) :
    Calls Tryd.prog 57 #[k.val] w fun e w' => e = .returned (.bool (decide (Kd.numsFault k.ns = 0))) ∧ Below w.heap.size w w' := by
  have NA := nums_any k
  obtain ⟨kb, n0, n1, n2, n3, n4, n5, n6, n7, kf, kt⟩ := k
  have R : Hid (Kd.numsFault (KV.ns ⟨kb, n0, n1, n2, n3, n4, n5, n6, n7, kf, kt⟩) = if [n0, n1, n2, n3, n4, n5, n6, n7].any (fun x => decide (x < 0 ∨ 1000 < x)) then 1 else if n0 < 1 ∨ 4 < n4 ∨ 12 < n2 ∨ 12 < n3 then 1 else 0) := rfl
  generalize Kd.numsFault (KV.ns ⟨kb, n0, n1, n2, n3, n4, n5, n6, n7, kf, kt⟩) = r at *
  unfold KV.val KV.arr at *
  simp only at NA
  have NA' : Hid (∀ w : World, Calls Tryd.prog 71 #[.agg #[.string kb, .int .i64 n0, .int .i64 n1, .int .i64 n2, .int .i64 n3, .int .i64 n4, .int .i64 n5, .int .i64 n6, .int .i64 n7, .bool kf, .bool kt]] w fun e w' => e = .returned (.agg #[.int .i64 n0, .int .i64 n1, .int .i64 n2, .int .i64 n3, .int .i64 n4, .int .i64 n5, .int .i64 n6, .int .i64 n7]) ∧ Below w.heap.size w w') := NA
  clear NA
  go_enter Tryd.func57, Tryd.ntmps57
  have B1 : Hid (Below w.heap.size w (w.alloc (Obj.cells #[.string kb, .int .i64 n0, .int .i64 n1, .int .i64 n2, .int .i64 n3, .int .i64 n4, .int .i64 n5, .int .i64 n6, .int .i64 n7, .bool kf, .bool kt] 41))) := (Below.refl _ _).alloc (Nat.le_refl _) _
  have X1 : Hid (Kc (w.alloc (Obj.cells #[.string kb, .int .i64 n0, .int .i64 n1, .int .i64 n2, .int .i64 n3, .int .i64 n4, .int .i64 n5, .int .i64 n6, .int .i64 n7, .bool kf, .bool kt] 41)) ⟨w.heap.size, 0, none⟩ ⟨kb, n0, n1, n2, n3, n4, n5, n6, n7, kf, kt⟩) := Kc.mk' ⟨kb, n0, n1, n2, n3, n4, n5, n6, n7, kf, kt⟩ rfl
  go_wp2_with fail
  refine (NA'.out _).mono ?_
  rintro e w2 ⟨rfl, b2⟩
  have X2 : Hid (Kc w2 ⟨w.heap.size, 0, none⟩ ⟨kb, n0, n1, n2, n3, n4, n5, n6, n7, kf, kt⟩) := X1.out.below b2 X1.out.lt
  have B2 : Hid (Below w.heap.size w w2) := B1.out.trans (b2.mono B1.out.size)
  clear b2 B1 X1 NA'
  obtain ⟨ns, hns⟩ : ∃ ns, [n0, n1, n2, n3, n4, n5, n6, n7] = ns := ⟨_, rfl⟩
  have Hns : Hid ([n0, n1, n2, n3, n4, n5, n6, n7] = ns) := hns
  have nl : Hid (ns.length = 8) := by rw [← hns]; rfl
  rw [hns] at R
  clear hns
  go_wp2_with fail
  go_loop [7] (fun j => ∃ p : Nat, p ≤ 8 ∧ j = .int .i64 (p : Nat) ∧ (ns.take p).any (fun x => decide (x < 0 ∨ 1000 < x)) = false) (fun j => 8 - (intOf j).toNat)
  case atStart => exact ⟨0, Nat.zero_le _, rfl, by simp⟩
  case round =>
    obtain ⟨p, hp, rfl, hany⟩ := hrel
    have An : Hid ((ns.take p).any (fun x => decide (x < 0 ∨ 1000 < x)) = false) := hany
    clear hany
    by_cases hp8 : p = 8
    · have R2 : Hid (r = if n0 < 1 ∨ 4 < n4 ∨ 12 < n2 ∨ 12 < n3 then 1 else 0) := by
        have h9 := An.out
        rw [List.take_of_length_le (by rw [nl.out, hp8]; exact Nat.le_refl _)] at h9
        unfold Hid
        rw [R.out, if_neg (by rw [h9]; decide)]
      have z1 : w2.cell? ⟨w.heap.size, 1, none⟩ = some (.int .i64 n0) := X2.out.c1
      have z3 : w2.cell? ⟨w.heap.size, 3, none⟩ = some (.int .i64 n2) := X2.out.c3
      have z4 : w2.cell? ⟨w.heap.size, 4, none⟩ = some (.int .i64 n3) := X2.out.c4
      have z5 : w2.cell? ⟨w.heap.size, 5, none⟩ = some (.int .i64 n4) := X2.out.c5
      subst hp8
      clear R An X2
      by_cases t1 : 0 < n0
      · by_cases t2 : n4 ≤ 4
        · by_cases t3 : n2 ≤ 12
          · by_cases t4 : n3 ≤ 12
            · have E : Hid (decide (r = 0) = true) := by unfold Hid; rw [R2.out, if_neg (by omega)]; rfl
              go_wp2
              go_ret
              exact ⟨by rw [E.out]; rfl, B2⟩
            · have E : Hid (decide (r = 0) = false) := by unfold Hid; rw [R2.out, if_pos (by omega)]; rfl
              go_wp2
              go_ret
              exact ⟨by rw [E.out]; rfl, B2⟩
          · have E : Hid (decide (r = 0) = false) := by unfold Hid; rw [R2.out, if_pos (by omega)]; rfl
            go_wp2
            go_ret
            exact ⟨by rw [E.out]; rfl, B2⟩
        · have E : Hid (decide (r = 0) = false) := by unfold Hid; rw [R2.out, if_pos (by omega)]; rfl
          go_wp2
          go_ret
          exact ⟨by rw [E.out]; rfl, B2⟩
      · have E : Hid (decide (r = 0) = false) := by unfold Hid; rw [R2.out, if_pos (by omega)]; rfl
        go_wp2
        go_ret
        exact ⟨by rw [E.out]; rfl, B2⟩
    · have hp9 : p < 8 := by omega
      obtain ⟨x, hx⟩ : ∃ x, ns[p]? = some x := ⟨_, List.getElem?_eq_getElem (by rw [nl.out]; exact hp9)⟩
      have As : Hid ((ns.take (p + 1)).any (fun x => decide (x < 0 ∨ 1000 < x)) = decide (x < 0 ∨ 1000 < x)) := by
        obtain ⟨hi, e⟩ := List.getElem?_eq_some_iff.1 hx
        unfold Hid
        rw [List.take_succ_eq_append_getElem hi, List.any_append, An.out, e]
        simp
      have ax : (#[.int .i64 n0, .int .i64 n1, .int .i64 n2, .int .i64 n3, .int .i64 n4, .int .i64 n5, .int .i64 n6, .int .i64 n7] : Array Value)[p]? = some (.int .i64 x) := by
        have h9 : (ns.map (Value.int .i64)).toArray[p]? = some (.int .i64 x) := by simp [hx]
        rw [← Hns.out] at h9
        exact h9
      have hix := idx8 _ p x hp9 ax
      clear ax
      have Mx : Hid (x ∈ ns) := List.mem_of_getElem? hx
      clear hx
      by_cases t : x < 0 ∨ 1000 < x
      · have E : Hid (decide (r = 0) = false) := by
          unfold Hid
          rw [R.out, if_pos (List.any_eq_true.2 ⟨x, Mx.out, by simpa using t⟩)]; rfl
        go_wp2_with (go_at_call 67; refine (kwin_no _ _ _ _ t).mono ?_; rintro e w' ⟨rfl, rfl⟩)
        go_ret
        exact ⟨by rw [E.out]; rfl, B2⟩
      · have A2 : Hid ((ns.take (p + 1)).any (fun x => decide (x < 0 ∨ 1000 < x)) = false) := by unfold Hid; rw [As.out, decide_eq_false t]
        go_wp2_with (go_at_call 67; refine (kwin_yes _ _ _ _ (by omega) (by omega)).mono ?_; rintro e w' ⟨rfl, rfl⟩)
        go_round
        case rel => exact ⟨p + 1, by omega, by go_num, A2⟩
        case measure => simp [intOf]; omega
end Go.Proofs.YtaicnhkobhdehaaDoor

namespace Go.Proofs.YtaicnhkobhdehaaDoor.Kd
set_option linter.unusedVariables false

/-- a rune that is none of a to z. -/
def otherR (r : Nat) : Bool := decide ((r : Int) < 97) || decide (122 < (r : Int))
theorem other_big {r : Nat} (h : 128 ≤ r) : otherR r = true := by
  unfold otherR
  rw [decide_eq_true (show (122 : Int) < (r : Int) by omega), Bool.or_true]
theorem decode_small (s : ByteArray) (i : Nat) (h : (s.get! i).toNat < 128) : Utf8.decode s i = ((s.get! i).toNat, 1) := by
  unfold Utf8.decode
  simp only [Nat.add_zero]
  rw [if_pos h]
theorem decode_big (s : ByteArray) (i : Nat) (h : ¬ (s.get! i).toNat < 128) : 128 ≤ (Utf8.decode s i).1 := by
  unfold Utf8.decode
  simp only [Nat.add_zero]
  rw [if_neg h]
  simp only [Utf8.runeError]
  split
  · split
    · rename_i h2; exact h2
    · simp
  · split
    · split
      · rename_i h2
        simp only [Bool.and_eq_true, decide_eq_true_eq] at h2
        have := h2.1
        simp only
        omega
      · simp
    · split
      · split
        · rename_i h2
          simp only [Bool.and_eq_true, decide_eq_true_eq] at h2
          have := h2.1
          simp only
          omega
        · simp
      · simp
theorem other_letter (b : UInt8) (h : b.toNat < 128) : otherR b.toNat = !isLetter b := by
  unfold otherR isLetter
  by_cases h1 : 97 ≤ b.toNat
  · by_cases h2 : b.toNat ≤ 122
    · rw [decide_eq_true h1, decide_eq_true h2, decide_eq_false (show ¬ (b.toNat : Int) < 97 by omega), decide_eq_false (show ¬ 122 < (b.toNat : Int) by omega)]; rfl
    · rw [decide_eq_true h1, decide_eq_false h2, decide_eq_false (show ¬ (b.toNat : Int) < 97 by omega), decide_eq_true (show 122 < (b.toNat : Int) by omega)]; rfl
  · rw [decide_eq_false h1, decide_eq_true (show (b.toNat : Int) < 97 by omega)]; rfl
theorem get_at (s : ByteArray) (i : Nat) (h : i < s.size) : s.get! i = s.data.toList[i]'h := by
  show s.data[i]! = _
  rw [getElem!_pos s.data i h]
  simp
theorem other_from (s : ByteArray) : ∀ (f pos : Nat), s.size ≤ pos + f → decide (0 ≤ Lib.idxFuncFrom otherR true s f pos) = !((s.data.toList.drop pos).all isLetter)
  | 0, pos, h => by
    rw [List.drop_eq_nil_of_le (by show s.size ≤ pos; omega)]
    rfl
  | f + 1, pos, h => by
    unfold Lib.idxFuncFrom
    by_cases hp : pos < s.size
    · have hl : pos < s.data.toList.length := hp
      rw [if_pos hp, List.drop_eq_getElem_cons hl, List.all_cons, ← get_at s pos hp]
      by_cases hb : (s.get! pos).toNat < 128
      · rw [decode_small s pos hb]
        simp only
        rw [other_letter _ hb]
        cases hi : isLetter (s.get! pos) with
        | true =>
          rw [if_neg (by simp), Bool.true_and]
          exact other_from s f (pos + 1) (by omega)
        | false =>
          rw [if_pos (by simp), decide_eq_true (by omega)]
          simp
      · rw [if_pos (other_big (decode_big s pos hb)), decide_eq_true (by omega)]
        have : isLetter (s.get! pos) = false := by
          unfold isLetter
          rw [decide_eq_false (show ¬ (s.get! pos).toNat ≤ 122 by omega), Bool.and_false]
        rw [this]
        rfl
    · rw [if_neg hp, List.drop_eq_nil_of_le (by show s.size ≤ pos; omega)]
      rfl
theorem other_name (s : ByteArray) : decide (0 ≤ Lib.idxFunc otherR true s) = !(s.data.toList.all isLetter) := by
  have := other_from s s.size 0 (by omega)
  rw [List.drop_zero] at this
  exact this
end Go.Proofs.YtaicnhkobhdehaaDoor.Kd

namespace Go.Proofs.YtaicnhkobhdehaaDoor
open Go.RowKit
set_option linter.unusedVariables false

theorem ename1 : ∀ args w, (callFunc 66 args).run Tryd.prog w = .ok (.enter 66 args) w := by
  intro args w
  go_simp
set_option maxHeartbeats 400000 in
theorem other_any (x : Nat) (w : World) :
    Calls Tryd.prog 66 #[.int .i32 (x : Int)] w fun e w' => e = .returned (.bool (Kd.otherR x)) ∧ w' = w := by
  unfold Kd.otherR
  by_cases h1 : (x : Int) < 97
  · go_enter Tryd.func66, Tryd.ntmps66
    go_wp2
    go_ret
    exact ⟨by first | (simp; done) | (simp; omega), rfl⟩
  · by_cases h2 : 122 < (x : Int)
    · go_enter Tryd.func66, Tryd.ntmps66
      go_wp2
      go_ret
      exact ⟨by first | (simp; done) | (simp; omega), rfl⟩
    · go_enter Tryd.func66, Tryd.ntmps66
      go_wp2
      go_ret
      exact ⟨by first | (simp; done) | (simp; omega), rfl⟩
theorem letters_any (s : ByteArray) (w : World) :
    Calls Tryd.prog 68 #[.string s, .func (.func 66) #[] #[]] w fun e w' => e = .returned (.bool (!(s.data.toList.all Kd.isLetter))) ∧ Below w.heap.size w w' := by
  have h := Tryd.strings_ContainsFunc_grows 66 #[] ename1 Kd.otherR s w (fun W x _ _ => (other_any x W).mono fun e w' ⟨h1, h2⟩ => ⟨h1, by rw [h2]; exact Below.refl _ _⟩)
  rw [Kd.other_name s] at h
  exact h

set_option maxHeartbeats 1000000 in
theorem isName_any (s : ByteArray) (w : World) (hb : s.size ≤ 9223372036854775807) :
    Calls Tryd.prog 55 #[.string s] w fun e w' => e = .returned (.bool (Kd.nameOk s.data.toList)) ∧ Below w.heap.size w w' := by
  have L : Hid (∀ w : World, Calls Tryd.prog 68 #[.string s, .func (.func 66) #[] #[]] w fun e w' => e = .returned (.bool (!(s.data.toList.all Kd.isLetter))) ∧ Below w.heap.size w w') := fun w => letters_any s w
  obtain ⟨l, hl⟩ : ∃ l, s.data.toList = l := ⟨_, rfl⟩
  have Ll : Hid (l.length = s.size) := by unfold Hid; rw [← hl]; rfl
  rw [hl] at L ⊢
  clear hl
  by_cases h1 : 1 ≤ s.size ∧ s.size ≤ 8
  · obtain ⟨h2, h3⟩ := h1
    have E : Hid (Kd.nameOk l = l.all Kd.isLetter) := by
      unfold Hid Kd.nameOk
      rw [decide_eq_true (show l.length ≤ 8 by rw [Ll.out]; exact h3), Bool.true_and]
      cases l with
      | nil => have := Ll.out; simp at this; omega
      | cons a r => rfl
    generalize l.all Kd.isLetter = b at *
    rw [E.out]
    clear E
    go_enter Tryd.func55, Tryd.ntmps55
    go_wp2_with (go_at_call 67; refine (kwin_yes _ _ _ _ (by omega) (by omega)).mono ?_; rintro e w' ⟨rfl, hw⟩; obtain rfl := hw.symm)
    refine (L.out _).mono ?_
    rintro e w1 ⟨rfl, b1⟩
    have B1 : Hid (Below w.heap.size w w1) := b1
    clear b1
    go_wp2
    go_ret
    exact ⟨by simp, B1⟩
  · have E : Hid (Kd.nameOk l = false) := by
      unfold Hid Kd.nameOk
      cases l with
      | nil => rfl
      | cons a r =>
        rw [decide_eq_false (show ¬ (a :: r).length ≤ 8 by intro h; have := Ll.out; simp at this h; omega)]
        simp
    rw [E.out]
    go_enter Tryd.func55, Tryd.ntmps55
    go_wp2_with (go_at_call 67; refine (kwin_no _ _ _ _ (by omega)).mono ?_; rintro e w' ⟨rfl, rfl⟩)
    go_ret
    exact ⟨rfl, Below.refl _ _⟩
theorem FstK.none {p : KV → Bool} {ks : List KV} {r : Int} (h : FstK p ks r) : (0 ≤ r ∧ ks.any p = true) ∨ (r = -1 ∧ ks.any p = false) := by
  rcases h with h | ⟨k, x, rfl, h1, h2, _⟩
  · exact .inr h
  · exact .inl ⟨by omega, List.any_eq_true.2 ⟨x, List.mem_of_getElem? h1, h2⟩⟩

set_option maxHeartbeats 2000000 in
theorem ckind_any (v : Value) (ks : List KV) (k : KV) (w : World) (h : Kl w v ks) (hb : k.b.size ≤ 9223372036854775807) :
    Calls Tryd.prog 40 #[v, k.val] w fun e w' => ∃ u, e = .returned u ∧ Er u (Kd.kindFault (ks.map KV.k) k.k) ∧ Below w.heap.size w w' := by
  have K0 : Hid (Kl w v ks) := h
  obtain ⟨a, c, rfl, c1, c2, -⟩ := h
  have NM := isName_any k.b
  have IB := inb_any k
  have KF : Hid (Kd.kindFault (ks.map KV.k) k.k = if Kd.nameOk k.b.data.toList then (if (ks.any fun a => a.k.name == k.b.data.toList) then 8 else Kd.numsFault k.ns) else 2) := by
    unfold Hid Kd.kindFault
    rw [List.any_map]
    rfl
  obtain ⟨R, hR⟩ : ∃ R, Kd.kindFault (ks.map KV.k) k.k = R := ⟨_, rfl⟩
  rw [hR] at KF ⊢
  clear hR
  obtain ⟨kb, n0, n1, n2, n3, n4, n5, n6, n7, kf, kt⟩ := k
  simp only at hb NM KF
  unfold KV.val at IB ⊢
  simp only at IB ⊢
  have NM' : Hid (∀ w : World, kb.size ≤ 9223372036854775807 → Calls Tryd.prog 55 #[.string kb] w fun e w' => e = .returned (.bool (Kd.nameOk kb.data.toList)) ∧ Below w.heap.size w w') := NM
  obtain ⟨F, hF⟩ : ∃ F, Kd.numsFault (KV.ns ⟨kb, n0, n1, n2, n3, n4, n5, n6, n7, kf, kt⟩) = F := ⟨_, rfl⟩
  rw [hF] at IB KF
  have IB' : Hid (∀ w : World, Calls Tryd.prog 57 #[.agg #[.string kb, .int .i64 n0, .int .i64 n1, .int .i64 n2, .int .i64 n3, .int .i64 n4, .int .i64 n5, .int .i64 n6, .int .i64 n7, .bool kf, .bool kt]] w fun e w' => e = .returned (.bool (decide (F = 0))) ∧ Below w.heap.size w w') := IB
  have HF : Hid (F = 0 ∨ F = 1) := by
    unfold Hid
    rw [← hF]
    unfold Kd.numsFault
    split
    · exact .inr rfl
    · split
      · exact .inr rfl
      · exact .inl rfl
  clear NM IB hF
  go_enter Tryd.func40, Tryd.ntmps40
  have B1 : Hid (Below w.heap.size w (w.alloc (Obj.cells #[.string kb, .int .i64 n0, .int .i64 n1, .int .i64 n2, .int .i64 n3, .int .i64 n4, .int .i64 n5, .int .i64 n6, .int .i64 n7, .bool kf, .bool kt] 41))) := (Below.refl _ _).alloc (Nat.le_refl _) _
  have X1 : Hid (Kc (w.alloc (Obj.cells #[.string kb, .int .i64 n0, .int .i64 n1, .int .i64 n2, .int .i64 n3, .int .i64 n4, .int .i64 n5, .int .i64 n6, .int .i64 n7, .bool kf, .bool kt] 41)) ⟨w.heap.size, 0, none⟩ ⟨kb, n0, n1, n2, n3, n4, n5, n6, n7, kf, kt⟩) := Kc.mk' ⟨kb, n0, n1, n2, n3, n4, n5, n6, n7, kf, kt⟩ rfl
  go_wp2_with fail
  generalize w.alloc (Obj.cells #[.string kb, .int .i64 n0, .int .i64 n1, .int .i64 n2, .int .i64 n3, .int .i64 n4, .int .i64 n5, .int .i64 n6, .int .i64 n7, .bool kf, .bool kt] 41) = w1 at *
  refine (NM'.out _ hb).mono ?_
  rintro e w2 ⟨rfl, b2⟩
  have B2 : Hid (Below w.heap.size w w2) := B1.out.trans (b2.mono B1.out.size)
  have X2 : Hid (Kc w2 ⟨w.heap.size, 0, none⟩ ⟨kb, n0, n1, n2, n3, n4, n5, n6, n7, kf, kt⟩) := X1.out.below b2 X1.out.lt
  clear b2 X1 NM'
  cases hn : Kd.nameOk kb.data.toList with
  | false =>
    have E : Hid (R = 2) := by unfold Hid; rw [KF.out, hn]; rfl
    clear hn
    go_wp2
    go_ret
    exact ⟨_, rfl, by rw [E.out]; exact Er.no (by decide), B2⟩
  | true =>
    have KF2 : Hid (R = if (ks.any fun a => a.k.name == kb.data.toList) then 8 else F) := by unfold Hid; rw [KF.out, hn]; rfl
    clear hn KF
    have x0 : w2.cell? ⟨w.heap.size, 0, none⟩ = some (.string kb) := X2.out.c0
    go_wp2_with fail
    refine (find_any _ ks kb _ (K0.out.below B2.out)).mono ?_
    rintro e w3 ⟨r, rfl, hr, b3⟩
    have B3 : Hid (Below w.heap.size w w3) := B2.out.trans (b3.mono B2.out.size)
    have X3 : Hid (Kc w3 ⟨w.heap.size, 0, none⟩ ⟨kb, n0, n1, n2, n3, n4, n5, n6, n7, kf, kt⟩) := X2.out.below b3 X2.out.lt
    clear b3 X2 x0
    rcases hr.none with ⟨h0, ha⟩ | ⟨h0, ha⟩
    · have E : Hid (R = 8) := by unfold Hid; rw [KF2.out, if_pos ha]
      clear ha hr
      go_wp2
      go_ret
      exact ⟨_, rfl, by rw [E.out]; exact Er.no (by decide), B3⟩
    · have E : Hid (R = F) := by unfold Hid; rw [KF2.out, if_neg (by rw [ha]; decide)]
      clear ha hr
      subst h0
      obtain ⟨x0, x1, x2, x3, x4, x5, x6, x7, x8, x9, x10⟩ := X3.out
      have x1 : w3.cell? ⟨w.heap.size, 1, none⟩ = some (.int .i64 n0) := x1
      have x2 : w3.cell? ⟨w.heap.size, 2, none⟩ = some (.int .i64 n1) := x2
      have x3 : w3.cell? ⟨w.heap.size, 3, none⟩ = some (.int .i64 n2) := x3
      have x4 : w3.cell? ⟨w.heap.size, 4, none⟩ = some (.int .i64 n3) := x4
      have x5 : w3.cell? ⟨w.heap.size, 5, none⟩ = some (.int .i64 n4) := x5
      have x6 : w3.cell? ⟨w.heap.size, 6, none⟩ = some (.int .i64 n5) := x6
      have x7 : w3.cell? ⟨w.heap.size, 7, none⟩ = some (.int .i64 n6) := x7
      have x8 : w3.cell? ⟨w.heap.size, 8, none⟩ = some (.int .i64 n7) := x8
      have x9 : w3.cell? ⟨w.heap.size, 9, none⟩ = some (.bool kf) := x9
      have x10 : w3.cell? ⟨w.heap.size, 10, none⟩ = some (.bool kt) := x10
      go_wp2_with fail
      refine (IB'.out _).mono ?_
      rintro e w4 ⟨rfl, b4⟩
      have B4 : Hid (Below w.heap.size w w4) := B3.out.trans (b4.mono B3.out.size)
      clear b4 IB' x0 x1 x2 x3 x4 x5 x6 x7 x8 x9 x10
      rcases HF.out with hF | hF
      · rw [hF]
        have E2 : Hid (R = 0) := by unfold Hid; rw [E.out, hF]
        go_wp2
        go_ret
        exact ⟨_, rfl, by rw [E2.out]; exact Er.nil, B4⟩
      · rw [hF]
        have E2 : Hid (R = 1) := by unfold Hid; rw [E.out, hF]
        go_wp2
        go_ret
        exact ⟨_, rfl, by rw [E2.out]; exact Er.no (by decide), B4⟩
end Go.Proofs.YtaicnhkobhdehaaDoor

namespace Go.Proofs.YtaicnhkobhdehaaDoor
open Go.RowKit
set_option linter.unusedVariables false

theorem Kl.take {w : World} {a : Option Addr} {n c : Nat} {ks : List KV} (h : Kl w (.slice a n c) ks) {q : Nat} (hq : q ≤ ks.length) : Kl w (.slice a q c) (ks.take q) := by
  obtain ⟨a', c', e, h1, h2, h3⟩ := h
  injection e with e1 e2 e3
  subst e1 e3
  have hl : (ks.take q).length = q := by rw [List.length_take]; omega
  refine ⟨a, c, by rw [hl], by rw [hl]; omega, h2, fun hn => ?_⟩
  obtain ⟨x, hx, hb, hk⟩ := h3 (by rintro rfl; simp at hn)
  refine ⟨x, hx, hb, fun i k hi => hk i k ?_⟩
  rw [List.getElem?_take] at hi
  split at hi
  · exact hi
  · cases hi
theorem kgo_at {ks : List KV} {i : Nat} {k : KV} (h : ks[i]? = some k) : Kd.kindsGo ((ks.take i).map KV.k) ((ks.drop i).map KV.k) = if Kd.kindFault ((ks.take i).map KV.k) k.k = 0 then Kd.kindsGo ((ks.take (i + 1)).map KV.k) ((ks.drop (i + 1)).map KV.k) else Kd.kindFault ((ks.take i).map KV.k) k.k := by
  obtain ⟨hi, e⟩ := List.getElem?_eq_some_iff.1 h
  rw [List.drop_eq_getElem_cons hi, e, List.map_cons, Kd.kindsGo, List.take_succ_eq_append_getElem hi, e, List.map_append]
  rfl

set_option maxHeartbeats 4000000 in
theorem kcheck_any (v : Value) (ks : List KV) (w : World) (h : Kl w v ks) (hb : ∀ k ∈ ks, k.b.size ≤ 9223372036854775807) :
    Calls Tryd.prog 27 #[v] w fun e w' => ∃ u, e = .returned u ∧ Er u (Kd.kindsFault (ks.map KV.k)) ∧ Below w.heap.size w w' := by
  have K0 : Hid (Kl w v ks) := h
  have Hb : Hid (∀ k ∈ ks, k.b.size ≤ 9223372036854775807) := hb
  obtain ⟨R, hR⟩ : ∃ R, Kd.kindsFault (ks.map KV.k) = R := ⟨_, rfl⟩
  have HR : Hid (Kd.kindsFault (ks.map KV.k) = R) := hR
  rw [hR]
  clear hR hb
  obtain ⟨a, c, rfl, c1, c2, -⟩ := h
  by_cases h8 : 8 < ks.length
  · have E : Hid (R = 4) := by unfold Hid; rw [← HR.out]; unfold Kd.kindsFault; rw [if_pos (by simpa using h8)]
    have h8' : (8 : Int) < (ks.length : Int) := by omega
    go_enter Tryd.func27, Tryd.ntmps27
    go_wp2
    go_ret
    exact ⟨_, rfl, by rw [E.out]; exact Er.no (by decide), Below.refl _ _⟩
  · have h8' : ¬ (8 : Int) < (ks.length : Int) := by omega
    have R1 : Hid (Kd.kindsGo [] (ks.map KV.k) = R) := by unfold Hid; rw [← HR.out]; unfold Kd.kindsFault; rw [if_neg (by simpa using h8)]
    go_enter Tryd.func27, Tryd.ntmps27
    go_wp2_with fail
    go_loopw [12] (fun j W' => ∃ q : Nat, q ≤ ks.length ∧ j = .int .i64 (q : Nat) ∧ Kd.kindsGo ((ks.take q).map KV.k) ((ks.drop q).map KV.k) = R ∧ Below w.heap.size w W') (fun j _ => ks.length - (intOf j).toNat)
    case atStart => exact ⟨0, Nat.zero_le _, rfl, R1, Below.refl _ _⟩
    case round =>
      obtain ⟨q, hq, rfl, hg, hb⟩ := hrel
      have Gq : Hid (Kd.kindsGo ((ks.take q).map KV.k) ((ks.drop q).map KV.k) = R) := hg
      have B : Hid (Below w.heap.size w wr) := hb
      clear hg hb
      by_cases hql : q = ks.length
      · have E : Hid (R = 0) := by
          unfold Hid
          rw [← Gq.out, hql, List.drop_of_length_le (Nat.le_refl _)]
          rfl
        subst hql
        go_wp2
        go_ret
        exact ⟨_, rfl, by rw [E.out]; exact Er.nil, B⟩
      · have hqk : q < ks.length := by omega
        obtain ⟨k, hk⟩ : ∃ k, ks[q]? = some k := ⟨_, List.getElem?_eq_getElem hqk⟩
        have At : Hid (R = if Kd.kindFault ((ks.take q).map KV.k) k.k = 0 then Kd.kindsGo ((ks.take (q + 1)).map KV.k) ((ks.drop (q + 1)).map KV.k) else Kd.kindFault ((ks.take q).map KV.k) k.k) := by
          unfold Hid
          rw [← kgo_at hk]
          exact Gq.out.symm
        have K1 := K0.out.below B.out
        have CK : Hid (∀ W : World, Below wr.heap.size wr W → Calls Tryd.prog 40 #[.slice a q c, k.val] W fun e w' => ∃ u, e = .returned u ∧ Er u (Kd.kindFault ((ks.take q).map KV.k) k.k) ∧ Below W.heap.size W w') :=
          fun W hW => ckind_any _ (ks.take q) k W ((K1.take hq).below hW) (Hb.out k (List.mem_of_getElem? hk))
        generalize Kd.kindFault ((ks.take q).map KV.k) k.k = F at *
        obtain ⟨a', c', e, -, -, h3⟩ := K1
        injection e with e1 e2 e3
        subst e1 e3
        obtain ⟨x, rfl, hx1, hx⟩ := h3 (by rintro rfl; simp at hqk)
        have Yc := hx q k hk
        clear hx h3 e2 hk
        obtain ⟨kb, n0, n1, n2, n3, n4, n5, n6, n7, kf, kt⟩ := k
        obtain ⟨q0, q1, q2, q3, q4, q5, q6, q7, q8, q9, q10⟩ := Yc
        simp only at q0 q1 q2 q3 q4 q5 q6 q7 q8 q9 q10
        unfold KV.val at CK
        simp only at CK
        go_upto_region 6 with fail
        have B1 : Hid (Below wr.heap.size wr (wr.alloc (Obj.cells #[.string kb, .int .i64 n0, .int .i64 n1, .int .i64 n2, .int .i64 n3, .int .i64 n4, .int .i64 n5, .int .i64 n6, .int .i64 n7, .bool kf, .bool kt] 41))) := (Below.refl _ _).alloc (Nat.le_refl _) _
        have X1 := Kc.mk' (w := wr) ⟨kb, n0, n1, n2, n3, n4, n5, n6, n7, kf, kt⟩ rfl
        simp only at X1
        clear q0 q1 q2 q3 q4 q5 q6 q7 q8 q9 q10
        generalize wr.alloc (Obj.cells #[.string kb, .int .i64 n0, .int .i64 n1, .int .i64 n2, .int .i64 n3, .int .i64 n4, .int .i64 n5, .int .i64 n6, .int .i64 n7, .bool kf, .bool kt] 41) = w1 at *
        obtain ⟨x0, x1, x2, x3, x4, x5, x6, x7, x8, x9, x10⟩ := X1
        simp only at x0 x1 x2 x3 x4 x5 x6 x7 x8 x9 x10
        go_region_with (go_at_call 40; refine Calls.mono (CK.out _ B1.out.drew) ?_; rintro e w2 ⟨u, rfl, hu, b2⟩; have Hu : Hid (Er u F) := hu; have B2 : Hid (Below wr.heap.size wr w2) := B1.out.drew.trans (b2.mono B1.out.drew.size); clear hu b2)
        all_goals
          have B3 : Hid (Below w.heap.size w w2) := B.out.trans (B2.out.mono B.out.size)
          clear B2 CK x0 x1 x2 x3 x4 x5 x6 x7 x8 x9 x10
          rcases Hu.out with ⟨hF, rfl⟩ | ⟨hF, rfl⟩
          · have G2 : Hid (Kd.kindsGo ((ks.take (q + 1)).map KV.k) ((ks.drop (q + 1)).map KV.k) = R) := by
              unfold Hid
              have := At.out
              rw [if_pos hF] at this
              exact this.symm
            clear At
            go_wp2
            go_round
            case rel => exact ⟨q + 1, by omega, by go_num, G2, B3⟩
            case measure => simp [intOf]; omega
          · have E : Hid (R = F) := by
              unfold Hid
              have := At.out
              rw [if_neg hF] at this
              exact this
            have Hf : Hid (F ≠ 0) := hF
            clear At
            go_wp2
            go_ret
            exact ⟨_, rfl, by rw [E.out]; exact Er.no Hf.out, B3⟩

end Go.Proofs.YtaicnhkobhdehaaDoor

namespace Go.Proofs.YtaicnhkobhdehaaDoor
open Go.RowKit
set_option linter.unusedVariables false

set_option maxHeartbeats 1000000 in
theorem ground_any (v f : Value) (ks : List KV) (W : WV) (w : World) (h : Kl w v ks) (hb : ∀ k ∈ ks, k.b.size ≤ 9223372036854775807) (hf : Fl w f W.wide W.high W.gs W.os) :
    Calls Tryd.prog 15 #[v, f] w fun e w' => ∃ u, e = .returned u ∧ Er u (Wd.ground ks W) ∧ Below w.heap.size w w' := by
  have K : Hid (Kl w v ks ∧ ∀ k ∈ ks, k.b.size ≤ 9223372036854775807) := ⟨h, hb⟩
  have F : Hid (Fl w f W.wide W.high W.gs W.os) := hf
  obtain ⟨u1, u2, rfl, h1, h2⟩ := hf
  clear h hb h1 h2
  go_enter Tryd.func15, Tryd.ntmps15
  go_wp2_with fail
  have B0 : Hid (Below w.heap.size w (w.alloc (Obj.cells #[.int .i64 W.wide, .int .i64 W.high, u1, u2] 25))) := (Below.refl _ _).alloc (Nat.le_refl _) _
  have X0 : Hid (Bf (w.alloc (Obj.cells #[.int .i64 W.wide, .int .i64 W.high, u1, u2] 25)) w.heap.size W.wide W.high u1 u2) := Bf.mk' W.wide W.high u1 u2 rfl
  generalize w.alloc (Obj.cells #[.int .i64 W.wide, .int .i64 W.high, u1, u2] 25) = w0 at *
  refine (kcheck_any _ ks w0 (K.out.1.below B0.out) K.out.2).mono ?_
  rintro e w1 ⟨r, rfl, hr, hb1⟩
  have B1 : Hid (Below w.heap.size w w1) := B0.out.trans (hb1.mono B0.out.size)
  have X1 : Hid (Bf w1 w.heap.size W.wide W.high u1 u2) := X0.out.below hb1 X0.out.lt
  clear hb1 X0
  rcases hr with ⟨hz, rfl⟩ | ⟨hz, rfl⟩
  · have G : Hid (Wd.ground ks W = Fd.fault W.wide W.high W.gs W.os) := by unfold Hid Wd.ground; rw [if_pos hz]
    obtain ⟨c0, c1, c2, c3⟩ := X1.out
    clear hz
    go_wp2_with fail
    refine (check_any _ W.wide W.high W.gs W.os w1 (F.out.below B1.out)).mono ?_
    rintro e w2 ⟨r, rfl, hr, hb2⟩
    have R : Hid (Er r (Wd.ground ks W) ∧ Below w.heap.size w w2) := ⟨by rw [G.out]; exact hr, B1.out.trans (hb2.mono B1.out.size)⟩
    clear hr hb2 c0 c1 c2 c3
    go_wp2
    go_ret
    exact ⟨_, rfl, R.out.1, R.out.2⟩
  · have G : Hid (Er (.iface 51 (.int .i64 (Kd.kindsFault (ks.map KV.k)))) (Wd.ground ks W)) := by
      unfold Hid Wd.ground; rw [if_neg hz]; exact Er.no hz
    clear hz
    go_wp2
    go_ret
    exact ⟨_, rfl, G.out, B1.out⟩
/-- what is wrong with the numbers. -/
def numsF (W : WV) : Int := if Wd.numsBad W = true then 1 else 0
theorem off_any (n : Int) (w : World) : Calls Tryd.prog 49 #[.int .i64 n] w fun e w' => e = .returned (.bool (Wd.off 0 n)) ∧ w' = w := by
  go_enter Tryd.func49, Tryd.ntmps49
  go_wp2_with fail
  refine (wwithin_any n 0 1000000 w).mono ?_
  rintro e w1 ⟨rfl, rfl⟩
  obtain ⟨b, hb⟩ : ∃ b, decide (0 ≤ n ∧ n ≤ 1000000) = b := ⟨_, rfl⟩
  have HB : Hid (Wd.off 0 n = !b) := by unfold Hid Wd.off; rw [hb]
  rw [hb]
  clear hb
  go_wp2
  go_ret
  exact ⟨by rw [HB.out]; rfl, rfl⟩
set_option maxRecDepth 100000 in
set_option maxHeartbeats 2000000 in
theorem numbad_any (v : Value) (W : WV) (w : World) (h : Wl w v W) :
    Calls Tryd.prog 34 #[v] w fun e w' => ∃ u, e = .returned u ∧ Er u (numsF W) ∧ Below w.heap.size w w' := by
  obtain ⟨u1, u2, u3, u4, u5, rfl, -, -, h3, -, -⟩ := h
  have R3 : Hid (Ro w u3 W.gold) := h3
  obtain ⟨a, c, rfl, c1, c2, -⟩ := h3
  go_enter Tryd.func34, Tryd.ntmps34
  go_upto_region 2 with fail
  have B0 : Hid (Below w.heap.size w (w.alloc (Obj.cells #[.int .i64 W.turn, .int .i64 W.next, .int .i64 W.wide, .int .i64 W.high, u1, u2, .slice a W.gold.length c, u4, u5] 29))) := (Below.refl _ _).alloc (Nat.le_refl _) _
  have X0 : Hid (Bw (w.alloc (Obj.cells #[.int .i64 W.turn, .int .i64 W.next, .int .i64 W.wide, .int .i64 W.high, u1, u2, .slice a W.gold.length c, u4, u5] 29)) w.heap.size W u1 u2 (.slice a W.gold.length c) u4 u5) := Bw.mk' W _ _ _ _ _ rfl
  generalize w.alloc (Obj.cells #[.int .i64 W.turn, .int .i64 W.next, .int .i64 W.wide, .int .i64 W.high, u1, u2, .slice a W.gold.length c, u4, u5] 29) = w0 at *
  obtain ⟨x0, x1, -, -, -, -, x6, -, -⟩ := X0.out
  obtain ⟨t, ht⟩ : ∃ t, decide (0 ≤ W.turn ∧ W.turn ≤ 1000000) = t := ⟨_, rfl⟩
  obtain ⟨n, hn⟩ : ∃ n, decide (1 ≤ W.next ∧ W.next ≤ 1000000) = n := ⟨_, rfl⟩
  obtain ⟨g, hg⟩ : ∃ g, decide (1 ≤ (W.gold.length : Int) ∧ (W.gold.length : Int) ≤ 4) = g := ⟨_, rfl⟩
  obtain ⟨m, hm⟩ : ∃ m, W.gold.any (Wd.off 0) = m := ⟨_, rfl⟩
  have HN : Hid (Wd.numsBad W = (!t || (!n || (!g || m)))) := by unfold Hid Wd.numsBad Wd.off; rw [ht, hn, hg]; unfold Wd.off at hm; rw [hm]
  go_wp2_with fail
  refine (wwithin_any W.turn 0 1000000 w0).mono ?_
  rintro e y1 ⟨rfl, hww⟩
  obtain rfl := hww.symm
  rw [ht]
  cases t with
  | false =>
    go_wp2
    go_ret
    have EB : Wd.numsBad W = true := by rw [HN.out]; rfl
    exact ⟨_, rfl, by unfold numsF; rw [EB]; exact Er.no (by decide), B0.out⟩
  | true =>
    go_wp2_with fail
    refine (wwithin_any W.next 1 1000000 _).mono ?_
    rintro e y2 ⟨rfl, hww⟩
    obtain rfl := hww.symm
    rw [hn]
    cases n with
    | false =>
      go_wp2
      go_ret
      have EB : Wd.numsBad W = true := by rw [HN.out]; rfl
      exact ⟨_, rfl, by unfold numsF; rw [EB]; exact Er.no (by decide), B0.out⟩
    | true =>
      go_wp2_with fail
      refine (wwithin_any (W.gold.length : Int) 1 4 _).mono ?_
      rintro e y3 ⟨rfl, hww⟩
      obtain rfl := hww.symm
      rw [hg]
      cases g with
      | false =>
        go_wp2
        go_ret
        have EB : Wd.numsBad W = true := by rw [HN.out]; rfl
        exact ⟨_, rfl, by unfold numsF; rw [EB]; exact Er.no (by decide), B0.out⟩
      | true =>
        go_wp2_with fail
        refine (hasf_any 49 (by intro args w; go_simp) _ #[] W.gold (Wd.off 0) _ (R3.out.below B0.out) (fun q x _ => (off_any x _).mono fun e w' ⟨h1, h2⟩ => ⟨h1, q, h2⟩)).mono ?_
        rintro e y4 ⟨rfl, q, hq⟩
        have BQ : Hid (Below w.heap.size w y4) := by rw [hq]; exact B0.out.trans ⟨rfl, rfl, rfl, Nat.le_refl _, fun _ _ => rfl⟩
        clear hq
        rw [hm]
        cases m with
        | false =>
          go_wp2
          go_ret
          have EB : Wd.numsBad W = false := by rw [HN.out]; rfl
          exact ⟨_, rfl, by unfold numsF; rw [EB]; exact Er.nil, BQ.out⟩
        | true =>
          go_wp2
          go_ret
          have EB : Wd.numsBad W = true := by rw [HN.out]; rfl
          exact ⟨_, rfl, by unfold numsF; rw [EB]; exact Er.no (by decide), BQ.out⟩
end Go.Proofs.YtaicnhkobhdehaaDoor

namespace Go.Proofs.YtaicnhkobhdehaaDoor
open Go.RowKit
set_option linter.unusedVariables false

theorem units_all {ks : List KV} {W : WV} : ∀ (l : List UnV) (i : Nat), Wd.unitsGo ks W i l = 0 → ∀ u ∈ l, ∃ j, Wd.unitFault ks W j u = 0
  | [], _, _, u, hu => by cases hu
  | x :: l, i, h, u, hu => by
    unfold Wd.unitsGo at h
    split at h
    · rename_i h0
      rcases List.mem_cons.1 hu with rfl | hu
      · exact ⟨i, h0⟩
      · exact units_all l (i + 1) h u hu
    · rename_i h0
      exact absurd h h0
theorem fault_kind {ks : List KV} {W : WV} {j : Nat} {u : UnV} (h : Wd.unitFault ks W j u = 0) : 0 ≤ u.kind ∧ u.kind < (ks.length : Int) := by
  have : Wd.has ks.length u.kind = true := by
    cases hh : Wd.has ks.length u.kind with
    | true => rfl
    | false =>
      unfold Wd.unitFault at h
      rw [hh] at h
      split at h
      · cases h
      · split at h
        · cases h
        · rw [if_pos (by simp)] at h
          cases h
  exact of_decide_eq_true this
theorem kinds_len {ks : List KV} (h : Kd.kindsFault (ks.map KV.k) = 0) : ks.length ≤ 8 := by
  unfold Kd.kindsFault at h
  split at h
  · cases h
  · rename_i h8
    rw [List.length_map] at h8
    omega
theorem nums_ok {W : WV} (h : Wd.numsBad W = false) : Wd.off 1 W.next = false ∧ W.gold.length ≤ 4 := by
  unfold Wd.numsBad at h
  simp only [Bool.or_eq_false_iff] at h
  obtain ⟨-, h1, h2, -⟩ := h
  refine ⟨h1, ?_⟩
  have : decide (1 ≤ (W.gold.length : Int) ∧ (W.gold.length : Int) ≤ 4) = true := by
    cases hh : decide (1 ≤ (W.gold.length : Int) ∧ (W.gold.length : Int) ≤ 4) with
    | true => rfl
    | false => rw [hh] at h2; cases h2
  have := of_decide_eq_true this
  omega
set_option maxRecDepth 100000 in
set_option maxHeartbeats 16000000 in
theorem wcheck_any (vk vw : Value) (ks : List KV) (W : WV) (w : World) (hk : Kl w vk ks) (hb : ∀ k ∈ ks, k.b.size ≤ 9223372036854775807) (hw : Wl w vw W) :
    Calls Tryd.prog 24 #[vk, vw] w fun e w' => ∃ r, e = .returned r ∧ Er r (Wd.wfault ks W) ∧ Below w.heap.size w w' := by
  have K : Hid (Kl w vk ks ∧ ∀ k ∈ ks, k.b.size ≤ 9223372036854775807) := ⟨hk, hb⟩
  have H : Hid (Wl w vw W) := hw
  obtain ⟨u1, u2, u3, u4, u5, rfl, r1, r2, r3, r4, r5⟩ := hw
  obtain ⟨p1, q1, rfl, -⟩ := r1
  obtain ⟨p2, q2, rfl, -⟩ := r2
  obtain ⟨p3, q3, rfl, -⟩ := r3
  obtain ⟨p4, q4, rfl, -⟩ := r4
  obtain ⟨p5, q5, rfl, k51, k52, k53⟩ := r5
  have JC : Hid (W.qs ≠ [] → ∃ x, p5 = some x ∧ x.block < w.heap.size ∧ ∀ (i : Nat) k, W.qs[i]? = some k → Jbc w (x.add (i * 4)) k) := k53
  clear hk hb k53
  go_enter Tryd.func24, Tryd.ntmps24
  go_wp2_with fail
  have B0 : Hid (Below w.heap.size w (w.alloc (Obj.cells #[.int .i64 W.turn, .int .i64 W.next, .int .i64 W.wide, .int .i64 W.high, .slice p1 W.gs.length q1, .slice p2 W.os.length q2, .slice p3 W.gold.length q3, .slice p4 W.us.length q4, .slice p5 W.qs.length q5] 29))) := (Below.refl _ _).alloc (Nat.le_refl _) _
  have X0 : Hid (Bw (w.alloc (Obj.cells #[.int .i64 W.turn, .int .i64 W.next, .int .i64 W.wide, .int .i64 W.high, .slice p1 W.gs.length q1, .slice p2 W.os.length q2, .slice p3 W.gold.length q3, .slice p4 W.us.length q4, .slice p5 W.qs.length q5] 29)) w.heap.size W (.slice p1 W.gs.length q1) (.slice p2 W.os.length q2) (.slice p3 W.gold.length q3) (.slice p4 W.us.length q4) (.slice p5 W.qs.length q5)) := Bw.mk' W _ _ _ _ _ rfl
  generalize (w.alloc (Obj.cells #[.int .i64 W.turn, .int .i64 W.next, .int .i64 W.wide, .int .i64 W.high, .slice p1 W.gs.length q1, .slice p2 W.os.length q2, .slice p3 W.gold.length q3, .slice p4 W.us.length q4, .slice p5 W.qs.length q5] 29)) = w0 at *
  refine (ground_any _ _ ks W w0 (K.out.1.below B0.out) K.out.2 ⟨_, _, rfl, (H.out.below B0.out).slices.1, (H.out.below B0.out).slices.2.1⟩).mono ?_
  rintro e w1 ⟨r, rfl, hr, hb1⟩
  have B1 : Hid (Below w.heap.size w w1) := B0.out.trans (hb1.mono B0.out.size)
  have X1 : Hid (Bw w1 w.heap.size W (.slice p1 W.gs.length q1) (.slice p2 W.os.length q2) (.slice p3 W.gold.length q3) (.slice p4 W.us.length q4) (.slice p5 W.qs.length q5)) := X0.out.below hb1 X0.out.lt
  clear hb1 X0 B0
  rcases hr with ⟨hz, rfl⟩ | ⟨hz, rfl⟩
  · have HZ : Hid (Wd.ground ks W = 0) := hz
    obtain ⟨x0, x1, x2, x3, x4, x5, x6, x7, x8⟩ := X1.out
    clear hz
    go_wp2_with fail
    refine (numbad_any _ W w1 (H.out.below B1.out)).mono ?_
    rintro e w2 ⟨r, rfl, hr, hb2⟩
    have B2 : Hid (Below w.heap.size w w2) := B1.out.trans (hb2.mono B1.out.size)
    have X2 : Hid (Bw w2 w.heap.size W (.slice p1 W.gs.length q1) (.slice p2 W.os.length q2) (.slice p3 W.gold.length q3) (.slice p4 W.us.length q4) (.slice p5 W.qs.length q5)) := X1.out.below hb2 X1.out.lt
    clear hb2 X1 B1 x0 x1 x2 x3 x4 x5 x6 x7 x8
    rcases hr with ⟨hn, rfl⟩ | ⟨hn, rfl⟩
    · have HN : Hid (Wd.numsBad W = false) := by
        unfold Hid
        unfold numsF at hn
        cases h : Wd.numsBad W with
        | false => rfl
        | true => rw [h] at hn; cases hn
      clear hn
      have x7 := X2.out.c7
      by_cases h40 : 40 < W.us.length
      · have F4 : Hid (Wd.wfault ks W = 4) := by unfold Hid Wd.wfault; rw [if_neg (by rw [HZ.out]; simp), HN.out, if_neg (by simp), if_pos h40]
        have h40i : (40 : Int) < (W.us.length : Int) := by omega
        go_wp2
        go_ret
        exact ⟨_, rfl, by rw [F4.out]; exact Er.no (by decide), B2.out⟩
      · have h40i : ¬ (40 : Int) < (W.us.length : Int) := by omega
        have KL : Hid (ks.length ≤ 8) := by
          have := HZ.out
          unfold Wd.ground at this
          split at this
          · rename_i h0
            exact kinds_len h0
          · rename_i h0
            exact absurd this h0
        have GD : Hid (∃ Wn Hn : Nat, W.wide = Wn ∧ W.high = Hn ∧ Fd.Good Wn Hn W.gs W.os) := by
          have := HZ.out
          unfold Wd.ground at this
          split at this
          · exact Fd.fault_zero this
          · rename_i h0
            exact absurd this h0
        obtain ⟨Wn, Hn, hWn, hHn, hG⟩ := GD.out
        have GG : Hid (W.wide = Wn ∧ W.high = Hn ∧ Fd.Good Wn Hn W.gs W.os) := ⟨hWn, hHn, hG⟩
        have US : Hid (W.us.length ≤ 40) := by unfold Hid; omega
        have WF : Hid (Wd.unitsGo ks W 0 W.us ≠ 0 → Wd.wfault ks W = Wd.unitsGo ks W 0 W.us) := fun hne => by unfold Wd.wfault; rw [if_neg (by rw [HZ.out]; simp), HN.out, if_neg (by simp), if_neg h40, if_pos hne]
        have WG : Hid (Wd.unitsGo ks W 0 W.us = 0 → Wd.wfault ks W = if 12 < W.qs.length then 4 else Wd.jobsGo ks W W.qs) := fun h0 => by unfold Wd.wfault; rw [if_neg (by rw [HZ.out]; simp), HN.out, if_neg (by simp), if_neg h40, if_neg (by rw [h0]; simp)]
        clear hWn hHn hG h40
        go_wp2
        clear x7
        go_loopw [32] (fun iv V => ∃ i : Nat, i ≤ W.us.length ∧ iv = .int .i64 (i : Nat) ∧ Wd.unitsGo ks W i (W.us.drop i) = Wd.unitsGo ks W 0 W.us ∧ Bw V w.heap.size W (.slice p1 W.gs.length q1) (.slice p2 W.os.length q2) (.slice p3 W.gold.length q3) (.slice p4 W.us.length q4) (.slice p5 W.qs.length q5) ∧ Below w.heap.size w V) (fun iv _ => W.us.length - (intOf iv).toNat)
        case atStart => exact ⟨0, Nat.zero_le _, rfl, rfl, X2.out, B2.out⟩
        case round =>
          obtain ⟨i, hi, rfl, hgo, hX, hB⟩ := hrel
          have XR : Hid (Bw wr w.heap.size W (.slice p1 W.gs.length q1) (.slice p2 W.os.length q2) (.slice p3 W.gold.length q3) (.slice p4 W.us.length q4) (.slice p5 W.qs.length q5)) := hX
          have BR : Hid (Below w.heap.size w wr) := hB
          have GO : Hid (Wd.unitsGo ks W i (W.us.drop i) = Wd.unitsGo ks W 0 W.us) := hgo
          clear hX hB hgo X2 B2
          by_cases hil : i = W.us.length
          · have U0 : Hid (Wd.unitsGo ks W 0 W.us = 0) := by unfold Hid; rw [← GO.out, hil, List.drop_length]; rfl
            have x8 := XR.out.c8
            subst hil
            clear hi
            by_cases h12 : 12 < W.qs.length
            · have F4 : Hid (Wd.wfault ks W = 4) := by unfold Hid; rw [WG.out U0.out, if_pos h12]
              have h12i : (12 : Int) < (W.qs.length : Int) := by omega
              go_wp2
              go_ret
              exact ⟨_, rfl, by rw [F4.out]; exact Er.no (by decide), BR.out⟩
            · have h12i : ¬ (12 : Int) < (W.qs.length : Int) := by omega
              have FJ : Hid (Wd.wfault ks W = Wd.jobsGo ks W W.qs) := by unfold Hid; rw [WG.out U0.out, if_neg h12]
              have ALL : Hid (∀ u ∈ W.us, 0 ≤ u.kind ∧ u.kind < (ks.length : Int)) := fun u hu => by
                obtain ⟨j, hj⟩ := units_all W.us 0 U0.out u hu
                exact fault_kind hj
              go_wp2
              clear x8
              go_loopw [51] (fun iv V => ∃ i : Nat, i ≤ W.qs.length ∧ iv = .int .i64 (i : Nat) ∧ Wd.jobsGo ks W (W.qs.drop i) = Wd.jobsGo ks W W.qs ∧ Bw V w.heap.size W (.slice p1 W.gs.length q1) (.slice p2 W.os.length q2) (.slice p3 W.gold.length q3) (.slice p4 W.us.length q4) (.slice p5 W.qs.length q5) ∧ Below w.heap.size w V) (fun iv _ => W.qs.length - (intOf iv).toNat)
              case atStart => exact ⟨0, Nat.zero_le _, rfl, rfl, XR.out, BR.out⟩
              case round =>
                obtain ⟨i, hi, rfl, hgo, hX, hB⟩ := hrel
                have XR : Hid (Bw wr w.heap.size W (.slice p1 W.gs.length q1) (.slice p2 W.os.length q2) (.slice p3 W.gold.length q3) (.slice p4 W.us.length q4) (.slice p5 W.qs.length q5)) := hX
                have BR : Hid (Below w.heap.size w wr) := hB
                have GO : Hid (Wd.jobsGo ks W (W.qs.drop i) = Wd.jobsGo ks W W.qs) := hgo
                clear hX hB hgo
                by_cases hil : i = W.qs.length
                · have J0 : Hid (Wd.wfault ks W = 0) := by unfold Hid; rw [FJ.out, ← GO.out, hil, List.drop_length]; rfl
                  subst hil
                  clear hi
                  go_wp2
                  go_ret
                  exact ⟨_, rfl, by rw [J0.out]; exact Er.nil, BR.out⟩
                · have hlt : i < W.qs.length := by omega
                  have hli : (i : Int) < (W.qs.length : Int) := by omega
                  obtain ⟨j, hj⟩ : ∃ j, W.qs[i]? = some j := ⟨_, List.getElem?_eq_getElem hlt⟩
                  obtain ⟨x, rfl, hx, hcell⟩ := JC.out (by intro e; rw [e] at hlt; simp at hlt)
                  obtain ⟨d0, d1, d2, d3⟩ := (hcell i j hj).below BR.out (by rw [add_block]; exact hx)
                  have GA : Hid (Wd.jobsGo ks W W.qs = if Wd.jobFault ks W j = 0 then Wd.jobsGo ks W (W.qs.drop (i + 1)) else Wd.jobFault ks W j) := by unfold Hid; rw [← GO.out, Wd.jobsGo_at hj]
                  obtain ⟨x0, x1, x2, x3, x4, x5, x6, x7, x8⟩ := XR.out
                  clear hcell hx hj hil
                  go_upto_region 21 with fail
                  have BA : Hid (Below wr.heap.size wr (wr.alloc (Obj.cells #[.int .i64 j.player, .int .i64 j.unit, .int .i64 j.kind, .int .i64 j.left] 57))) := (Below.refl _ _).alloc (Nat.le_refl _) _
                  have J1 : Hid (Jbc (wr.alloc (Obj.cells #[.int .i64 j.player, .int .i64 j.unit, .int .i64 j.kind, .int .i64 j.left] 57)) ⟨wr.heap.size, 0, none⟩ j) := Jbc.mk' j rfl
                  generalize (wr.alloc (Obj.cells #[.int .i64 j.player, .int .i64 j.unit, .int .i64 j.kind, .int .i64 j.left] 57)) = w5 at *
                  have B5 : Hid (Below w.heap.size w w5) := BR.out.trans (BA.out.mono BR.out.size)
                  have X5 : Hid (Bw w5 w.heap.size W (.slice p1 W.gs.length q1) (.slice p2 W.os.length q2) (.slice p3 W.gold.length q3) (.slice p4 W.us.length q4) (.slice (some x) W.qs.length q5)) := XR.out.below BA.out XR.out.lt
                  clear d0 d1 d2 d3 x0 x1 x2 x3 x4 x5 x6 x7 x8 XR BR BA
                  obtain ⟨x0, x1, x2, x3, x4, x5, x6, x7, x8⟩ := X5.out
                  obtain ⟨j0, j1, j2, j3⟩ := J1.out
                  generalize wr.heap.size = zj at *
                  simp only [Nat.zero_add] at j1 j2 j3
                  go_wp2_with fail
                  refine (job_any _ _ ks W j w5 (K.out.1.below B5.out) (H.out.below B5.out) US.out KL.out ALL.out).mono ?_
                  rintro e w6 ⟨r, rfl, hr, hb6⟩
                  have B6 : Hid (Below w.heap.size w w6) := B5.out.trans (hb6.mono B5.out.size)
                  have X6 : Hid (Bw w6 w.heap.size W (.slice p1 W.gs.length q1) (.slice p2 W.os.length q2) (.slice p3 W.gold.length q3) (.slice p4 W.us.length q4) (.slice (some x) W.qs.length q5)) := X5.out.below hb6 X5.out.lt
                  clear hb6 x0 x1 x2 x3 x4 x5 x6 x7 x8 j0 j1 j2 j3 X5 B5 J1
                  rcases hr with ⟨h0, rfl⟩ | ⟨h0, rfl⟩
                  · have G2 : Hid (Wd.jobsGo ks W (W.qs.drop (i + 1)) = Wd.jobsGo ks W W.qs) := by unfold Hid; rw [GA.out, if_pos h0]
                    clear h0
                    go_wp2
                    go_roundw
                    case rel => exact ⟨i + 1, by omega, rfl, G2.out, X6.out, B6.out⟩
                    case measure => simp [intOf]; omega
                  · have FB : Hid (Wd.wfault ks W = Wd.jobFault ks W j) := by unfold Hid; rw [FJ.out, GA.out, if_neg h0]
                    have H0 : Hid (Wd.jobFault ks W j ≠ 0) := h0
                    clear h0
                    go_wp2
                    go_ret
                    exact ⟨_, rfl, by rw [FB.out]; exact Er.no H0.out, B6.out⟩
          · have hlt : i < W.us.length := by omega
            have hli : (i : Int) < (W.us.length : Int) := by omega
            obtain ⟨u, hu⟩ : ∃ u, W.us[i]? = some u := ⟨_, List.getElem?_eq_getElem hlt⟩
            have HU : Hid (W.us[i]? = some u) := hu
            have GA : Hid (Wd.unitsGo ks W 0 W.us = if Wd.unitFault ks W i u = 0 then Wd.unitsGo ks W (i + 1) (W.us.drop (i + 1)) else Wd.unitFault ks W i u) := by unfold Hid; rw [← GO.out, Wd.unitsGo_at hu]
            obtain ⟨x0, x1, x2, x3, x4, x5, x6, x7, x8⟩ := XR.out
            clear hu hil
            go_wp2_with fail
            refine (unit_any _ _ ks W Wn Hn i u wr (K.out.1.below BR.out) (H.out.below BR.out) GG.out.1 GG.out.2.1 GG.out.2.2 HU.out (nums_ok HN.out).1 US.out KL.out (nums_ok HN.out).2).mono ?_
            rintro e w6 ⟨r, rfl, hr, hb6⟩
            have B6 : Hid (Below w.heap.size w w6) := BR.out.trans (hb6.mono BR.out.size)
            have X6 : Hid (Bw w6 w.heap.size W (.slice p1 W.gs.length q1) (.slice p2 W.os.length q2) (.slice p3 W.gold.length q3) (.slice p4 W.us.length q4) (.slice p5 W.qs.length q5)) := XR.out.below hb6 XR.out.lt
            clear hb6 x0 x1 x2 x3 x4 x5 x6 x7 x8 XR BR
            rcases hr with ⟨h0, rfl⟩ | ⟨h0, rfl⟩
            · have G2 : Hid (Wd.unitsGo ks W (i + 1) (W.us.drop (i + 1)) = Wd.unitsGo ks W 0 W.us) := by unfold Hid; rw [GA.out, if_pos h0]
              clear h0
              go_wp2
              go_roundw
              case rel => exact ⟨i + 1, by omega, rfl, G2.out, X6.out, B6.out⟩
              case measure => simp [intOf]; omega
            · have EU : Wd.unitsGo ks W 0 W.us = Wd.unitFault ks W i u := by rw [GA.out, if_neg h0]
              have FB : Hid (Wd.wfault ks W = Wd.unitFault ks W i u) := by unfold Hid; rw [WF.out (by rw [EU]; exact h0), EU]
              have H0 : Hid (Wd.unitFault ks W i u ≠ 0) := h0
              clear h0 EU
              go_wp2
              go_ret
              exact ⟨_, rfl, by rw [FB.out]; exact Er.no H0.out, B6.out⟩
    · have F1 : Hid (Wd.wfault ks W = numsF W) := by
        unfold Hid Wd.wfault
        unfold numsF at hn ⊢
        have hbad : Wd.numsBad W = true := by
          cases h : Wd.numsBad W with
          | true => rfl
          | false => rw [h] at hn; exact absurd rfl hn
        rw [if_neg (by rw [HZ.out]; simp), hbad]
        rfl
      have H0 : Hid (numsF W ≠ 0) := hn
      clear hn
      go_wp2
      go_ret
      exact ⟨_, rfl, by rw [F1.out]; exact Er.no H0.out, B2.out⟩
  · have F1 : Hid (Wd.wfault ks W = Wd.ground ks W) := by unfold Hid Wd.wfault; rw [if_pos hz]
    have H0 : Hid (Wd.ground ks W ≠ 0) := hz
    clear hz
    go_wp2
    go_ret
    exact ⟨_, rfl, by rw [F1.out]; exact Er.no H0.out, B1.out⟩
end Go.Proofs.YtaicnhkobhdehaaDoor

namespace Go.Proofs.YtaicnhkobhdehaaDoor
open Go.RowKit
set_option linter.unusedVariables false

namespace Wd
/-- what is wrong with a unit that is to be put. -/
def placeFault (ks : List KV) (W : WV) (pl kd at_ : Int) : Int :=
  if 40 ≤ (W.us.length : Int) ∨ 1000000 ≤ W.next then 4
  else if ¬ (0 ≤ pl ∧ pl < (W.gold.length : Int)) ∨ ¬ (0 ≤ kd ∧ kd < (ks.length : Int)) then 1
  else if ¬ (0 ≤ at_ ∧ at_ < (W.gs.length : Int)) then 6
  else match ks[kd.toNat]? with
    | some k => if open_ W.gs W.us at_ k.f = false then 7 else 0
    | none => 1
theorem pf4 {ks : List KV} {W : WV} {pl kd at_ : Int} (h : 40 ≤ (W.us.length : Int) ∨ 1000000 ≤ W.next) : placeFault ks W pl kd at_ = 4 := by unfold placeFault; rw [if_pos h]
theorem pf1 {ks : List KV} {W : WV} {pl kd at_ : Int} (h : ¬ (40 ≤ (W.us.length : Int) ∨ 1000000 ≤ W.next)) (h1 : ¬ (0 ≤ pl ∧ pl < (W.gold.length : Int)) ∨ ¬ (0 ≤ kd ∧ kd < (ks.length : Int))) : placeFault ks W pl kd at_ = 1 := by unfold placeFault; rw [if_neg h, if_pos h1]
theorem pf6 {ks : List KV} {W : WV} {pl kd at_ : Int} (h : ¬ (40 ≤ (W.us.length : Int) ∨ 1000000 ≤ W.next)) (h1 : 0 ≤ pl ∧ pl < (W.gold.length : Int)) (h2 : 0 ≤ kd ∧ kd < (ks.length : Int)) (h3 : ¬ (0 ≤ at_ ∧ at_ < (W.gs.length : Int))) : placeFault ks W pl kd at_ = 6 := by unfold placeFault; rw [if_neg h, if_neg (by omega), if_pos h3]
theorem pfk {ks : List KV} {W : WV} {pl kd at_ : Int} {k : KV} (h : ¬ (40 ≤ (W.us.length : Int) ∨ 1000000 ≤ W.next)) (h1 : 0 ≤ pl ∧ pl < (W.gold.length : Int)) (h2 : 0 ≤ kd ∧ kd < (ks.length : Int)) (h3 : 0 ≤ at_ ∧ at_ < (W.gs.length : Int)) (hk : ks[kd.toNat]? = some k) : placeFault ks W pl kd at_ = if open_ W.gs W.us at_ k.f = false then 7 else 0 := by unfold placeFault; rw [if_neg h, if_neg (by omega), if_neg (by omega), hk]
end Wd
structure WRight (ks : List KV) (W : WV) : Prop where
  kinds : Kd.kindsFault (ks.map KV.k) = 0
  good : ∃ Wn Hn : Nat, W.wide = Wn ∧ W.high = Hn ∧ Fd.Good Wn Hn W.gs W.os
  nums : Wd.numsBad W = false
  ul : W.us.length ≤ 40
  units : Wd.unitsGo ks W 0 W.us = 0
  ql : W.qs.length ≤ 12
  jobs : Wd.jobsGo ks W W.qs = 0
theorem wright_of {ks : List KV} {W : WV} (h : Wd.wfault ks W = 0) : WRight ks W := by
  unfold Wd.wfault at h
  by_cases h0 : Wd.ground ks W = 0
  · rw [if_neg (by rw [h0]; simp)] at h
    cases h1 : Wd.numsBad W with
    | true => rw [h1, if_pos rfl] at h; cases h
    | false =>
      rw [h1, if_neg (by simp)] at h
      by_cases h2 : 40 < W.us.length
      · rw [if_pos h2] at h; cases h
      · rw [if_neg h2] at h
        by_cases h3 : Wd.unitsGo ks W 0 W.us = 0
        · rw [if_neg (by rw [h3]; simp)] at h
          by_cases h4 : 12 < W.qs.length
          · rw [if_pos h4] at h; cases h
          · rw [if_neg h4] at h
            unfold Wd.ground at h0
            by_cases h5 : Kd.kindsFault (ks.map KV.k) = 0
            · rw [if_pos h5] at h0
              exact ⟨h5, Fd.fault_zero h0, h1, by omega, h3, by omega, h⟩
            · rw [if_neg h5] at h0; exact absurd h0 h5
        · rw [if_pos h3] at h; exact absurd h h3
  · rw [if_pos h0] at h; exact absurd h h0
theorem WRight.len {ks : List KV} {W : WV} (h : WRight ks W) : WLen W := by
  obtain ⟨Wn, Hn, -, -, G⟩ := h.good
  have h1 := G.pos
  have h2 := G.gl
  have h3 := G.ol
  have h4 := (nums_ok h.nums).2
  have h5 := h.ul
  have h6 := h.ql
  exact ⟨by omega, by omega, by omega, by omega, by omega⟩
namespace Wd
/-- what is told where a unit is put. -/
def putFault (ks : List KV) (W : WV) (pl kd at_ : Int) : Int := if wfault ks W = 0 then placeFault ks W pl kd at_ else wfault ks W
def newUnit (ks : List KV) (W : WV) (pl kd at_ : Int) : UnV := ⟨W.next, pl, kd, at_, (match ks[kd.toNat]? with | some k => k.n0 | none => 0), 0, 0, 0⟩
/-- the world behind it. -/
def put (ks : List KV) (W : WV) (pl kd at_ : Int) : WV := { W with next := W.next + 1, us := W.us ++ [newUnit ks W pl kd at_] }
def placed (ks : List KV) (W : WV) (pl kd at_ : Int) : WV := if putFault ks W pl kd at_ = 0 then put ks W pl kd at_ else WV.zero
end Wd
theorem placed_bad {ks : List KV} {W : WV} {pl kd at_ : Int} (h : Wd.putFault ks W pl kd at_ ≠ 0) : Wd.placed ks W pl kd at_ = WV.zero := by unfold Wd.placed; rw [if_neg h]
theorem placed_ok {ks : List KV} {W : WV} {pl kd at_ : Int} (h : Wd.putFault ks W pl kd at_ = 0) : Wd.placed ks W pl kd at_ = Wd.put ks W pl kd at_ := by unfold Wd.placed; rw [if_pos h]
theorem zero_wo (w : World) (base : Nat) : Wo w base (.agg #[.int .i64 0, .int .i64 0, .int .i64 0, .int .i64 0, .slice none 0 0, .slice none 0 0, .slice none 0 0, .slice none 0 0, .slice none 0 0]) WV.zero := ⟨_, _, _, _, _, rfl, Ow.nil _ _, Ow.nil _ _, Ow.nil _ _, Uno.nil _ _, Jbo.nil _ _⟩
theorem pf_zero {ks : List KV} {W : WV} {pl kd at_ : Int} (h : Wd.placeFault ks W pl kd at_ = 0) : ¬ (40 ≤ (W.us.length : Int) ∨ 1000000 ≤ W.next) ∧ (0 ≤ pl ∧ pl < (W.gold.length : Int)) ∧ (0 ≤ at_ ∧ at_ < (W.gs.length : Int)) ∧ ∃ kn k, kd = ((kn : Nat) : Int) ∧ kn < ks.length ∧ ks[kn]? = some k ∧ Wd.open_ W.gs W.us at_ k.f = true := by
  unfold Wd.placeFault at h
  split at h
  · cases h
  · rename_i h1
    split at h
    · cases h
    · rename_i h2
      split at h
      · cases h
      · rename_i h3
        split at h
        · rename_i k hk
          split at h
          · cases h
          · rename_i h4
            have hl := (List.getElem?_eq_some_iff.1 hk).1
            exact ⟨h1, by omega, by omega, kd.toNat, k, by omega, hl, hk, by simpa using h4⟩
        · cases h
end Go.Proofs.YtaicnhkobhdehaaDoor

namespace Go.Proofs.YtaicnhkobhdehaaDoor
open Go.RowKit
set_option linter.unusedVariables false

set_option maxRecDepth 100000 in
set_option maxHeartbeats 4000000 in
theorem cplace_any (vk vw : Value) (ks : List KV) (W : WV) (pl kd at_ : Int) (w : World) (hk : Kl w vk ks) (hw : Wl w vw W) (hr : WRight ks W) :
    Calls Tryd.prog 25 #[vk, vw, .int .i64 pl, .int .i64 kd, .int .i64 at_] w fun e w' => ∃ r, e = .returned r ∧ Er r (Wd.placeFault ks W pl kd at_) ∧ Below w.heap.size w w' := by
  have K : Hid (Kl w vk ks) := hk
  have H : Hid (Wl w vw W) := hw
  have R : Hid (WRight ks W) := hr
  obtain ⟨u1, u2, u3, u4, u5, rfl, r1, r2, r3, r4, r5⟩ := hw
  obtain ⟨p1, q1, rfl, -⟩ := r1
  obtain ⟨p2, q2, rfl, -⟩ := r2
  obtain ⟨p3, q3, rfl, -⟩ := r3
  obtain ⟨p4, q4, rfl, -⟩ := r4
  obtain ⟨p5, q5, rfl, -⟩ := r5
  obtain ⟨pk, qk, rfl, -, -, kc⟩ := hk
  have KC : Hid (ks ≠ [] → ∃ x, pk = some x ∧ x.block < w.heap.size ∧ ∀ (i : Nat) k, ks[i]? = some k → Kc w (x.add (i * 11)) k) := kc
  have lk : ks.length ≤ 8 := kinds_len hr.kinds
  have lg : W.gold.length ≤ 4 := (nums_ok hr.nums).2
  have lu : W.us.length ≤ 40 := hr.ul
  have lc : W.gs.length ≤ 144 := by
    obtain ⟨Wn, Hn, -, -, G⟩ := hr.good
    have h1 := G.pos
    have h2 := G.gl
    omega
  clear hr kc
  go_enter Tryd.func25, Tryd.ntmps25
  go_upto_region 1 with fail
  have B0 : Hid (Below w.heap.size w (w.alloc (Obj.cells #[.int .i64 W.turn, .int .i64 W.next, .int .i64 W.wide, .int .i64 W.high, .slice p1 W.gs.length q1, .slice p2 W.os.length q2, .slice p3 W.gold.length q3, .slice p4 W.us.length q4, .slice p5 W.qs.length q5] 29))) := (Below.refl _ _).alloc (Nat.le_refl _) _
  have X0 : Hid (Bw (w.alloc (Obj.cells #[.int .i64 W.turn, .int .i64 W.next, .int .i64 W.wide, .int .i64 W.high, .slice p1 W.gs.length q1, .slice p2 W.os.length q2, .slice p3 W.gold.length q3, .slice p4 W.us.length q4, .slice p5 W.qs.length q5] 29)) w.heap.size W (.slice p1 W.gs.length q1) (.slice p2 W.os.length q2) (.slice p3 W.gold.length q3) (.slice p4 W.us.length q4) (.slice p5 W.qs.length q5)) := Bw.mk' W _ _ _ _ _ rfl
  generalize (w.alloc (Obj.cells #[.int .i64 W.turn, .int .i64 W.next, .int .i64 W.wide, .int .i64 W.high, .slice p1 W.gs.length q1, .slice p2 W.os.length q2, .slice p3 W.gold.length q3, .slice p4 W.us.length q4, .slice p5 W.qs.length q5] 29)) = w0 at *
  obtain ⟨x0, x1, x2, x3, x4, x5, x6, x7, x8⟩ := X0.out
  by_cases h40 : (40 : Int) ≤ (W.us.length : Int)
  · go_wp2
    go_ret
    exact ⟨_, rfl, by rw [Wd.pf4 (.inl h40)]; exact Er.no (by decide), B0.out⟩
  by_cases hnx : (1000000 : Int) ≤ W.next
  · go_wp2
    go_ret
    exact ⟨_, rfl, by rw [Wd.pf4 (.inr hnx)]; exact Er.no (by decide), B0.out⟩
  have HF : Hid (¬ (40 ≤ (W.us.length : Int) ∨ 1000000 ≤ W.next)) := fun h => h.elim h40 hnx
  by_cases h1 : 0 ≤ pl ∧ pl < (W.gold.length : Int)
  case neg =>
    have t1 : decide (0 ≤ pl ∧ pl < (W.gold.length : Int)) = false := decide_eq_false h1
    have F : Hid (Wd.placeFault ks W pl kd at_ = 1) := Wd.pf1 HF.out (.inl h1)
    clear h1
    go_wp2_with fail
    refine (isone_ints _ _ _ _ _ (by omega)).mono ?_
    rintro e w1 ⟨rfl, hww⟩
    obtain rfl := hww.symm
    rw [t1]
    clear t1
    go_wp2
    go_ret
    exact ⟨_, rfl, by rw [F.out]; exact Er.no (by decide), B0.out⟩
  have t1 : decide (0 ≤ pl ∧ pl < (W.gold.length : Int)) = true := decide_eq_true h1
  have H1 : Hid (0 ≤ pl ∧ pl < (W.gold.length : Int)) := h1
  clear h1
  go_wp2_with fail
  refine (isone_ints _ _ _ _ _ (by omega)).mono ?_
  rintro e w1 ⟨rfl, hww⟩
  obtain rfl := hww.symm
  rw [t1]
  clear t1
  by_cases h2 : 0 ≤ kd ∧ kd < (ks.length : Int)
  case neg =>
    have t1 : decide (0 ≤ kd ∧ kd < (ks.length : Int)) = false := decide_eq_false h2
    have F : Hid (Wd.placeFault ks W pl kd at_ = 1) := Wd.pf1 HF.out (.inr h2)
    clear h2
    go_wp2_with fail
    refine (isone_kinds _ _ _ _ _ (by omega)).mono ?_
    rintro e w1 ⟨rfl, hww⟩
    obtain rfl := hww.symm
    rw [t1]
    clear t1
    go_wp2
    go_ret
    exact ⟨_, rfl, by rw [F.out]; exact Er.no (by decide), B0.out⟩
  have t1 : decide (0 ≤ kd ∧ kd < (ks.length : Int)) = true := decide_eq_true h2
  have H2 : Hid (0 ≤ kd ∧ kd < (ks.length : Int)) := h2
  clear h2
  go_wp2_with fail
  refine (isone_kinds _ _ _ _ _ (by omega)).mono ?_
  rintro e w1 ⟨rfl, hww⟩
  obtain rfl := hww.symm
  rw [t1]
  clear t1
  by_cases h3 : 0 ≤ at_ ∧ at_ < (W.gs.length : Int)
  case neg =>
    have t1 : decide (0 ≤ at_ ∧ at_ < (W.gs.length : Int)) = false := decide_eq_false h3
    have F : Hid (Wd.placeFault ks W pl kd at_ = 6) := Wd.pf6 HF.out H1.out H2.out h3
    clear h3
    go_wp2_with fail
    refine (isone_ints _ _ _ _ _ (by omega)).mono ?_
    rintro e w1 ⟨rfl, hww⟩
    obtain rfl := hww.symm
    rw [t1]
    clear t1
    go_wp2
    go_ret
    exact ⟨_, rfl, by rw [F.out]; exact Er.no (by decide), B0.out⟩
  have t1 : decide (0 ≤ at_ ∧ at_ < (W.gs.length : Int)) = true := decide_eq_true h3
  have H3 : Hid (0 ≤ at_ ∧ at_ < (W.gs.length : Int)) := h3
  go_wp2_with fail
  refine (isone_ints _ _ _ _ _ (by omega)).mono ?_
  rintro e w1 ⟨rfl, hww⟩
  obtain rfl := hww.symm
  rw [t1]
  clear t1
  obtain ⟨an, ea⟩ : ∃ an : Nat, at_ = an := ⟨at_.toNat, by omega⟩
  obtain ⟨kn, ek⟩ : ∃ kn : Nat, kd = kn := ⟨kd.toNat, by have := H2.out; omega⟩
  subst ea
  subst ek
  have hkl : kn < ks.length := by have := H2.out; omega
  have hki : (kn : Int) < (ks.length : Int) := by omega
  obtain ⟨k, hk⟩ : ∃ k, ks[kn]? = some k := ⟨_, List.getElem?_eq_getElem hkl⟩
  obtain ⟨g, hg0⟩ : ∃ g, W.gs[an]? = some g := ⟨_, List.getElem?_eq_getElem (by omega)⟩
  have FK : Hid (Wd.placeFault ks W pl (kn : Nat) (an : Nat) = if Wd.open_ W.gs W.us (an : Nat) k.f = false then 7 else 0) := Wd.pfk HF.out H1.out H2.out H3.out (by simpa using hk)
  have hgan : Hid (W.gs[an]? = some g) := hg0
  obtain ⟨xk, rfl, hxl, hxc⟩ := KC.out (by intro e; rw [e] at hkl; simp at hkl)
  have hkc : Hid (Kc w0 (xk.add (kn * 11)) k) := (hxc kn k hk).below B0.out (by rw [add_block]; exact hxl)
  have FC : Hid (∀ V, Below w0.heap.size w0 V → V.cell? ⟨w.heap.size, 2, none⟩ = some (.int .i64 W.wide) ∧ V.cell? ⟨w.heap.size, 3, none⟩ = some (.int .i64 W.high) ∧ V.cell? ⟨w.heap.size, 4, none⟩ = some (.slice p1 W.gs.length q1) ∧ V.cell? ⟨w.heap.size, 5, none⟩ = some (.slice p2 W.os.length q2) ∧ V.cell? ⟨w.heap.size, 7, none⟩ = some (.slice p4 W.us.length q4) ∧ V.cell? ⟨(xk.add (kn * 11)).block, (xk.add (kn * 11)).off + 9, none⟩ = some (.bool k.f)) := fun V hV => by
    obtain ⟨-, -, z2, z3, z4, z5, -, z7, -⟩ := X0.out.below hV X0.out.lt
    obtain ⟨-, -, -, -, -, -, -, -, -, m9, -⟩ := hkc.out.below hV hkc.out.lt
    exact ⟨z2, z3, z4, z5, z7, m9⟩
  have OPN : Hid (∀ V, Below w0.heap.size w0 V → Calls Tryd.prog 39 #[.agg #[.int .i64 W.wide, .int .i64 W.high, .slice p1 W.gs.length q1, .slice p2 W.os.length q2], .slice p4 W.us.length q4, .int .i64 (an : Nat), .bool k.f] V fun e w' => e = .returned (.bool (Wd.open_ W.gs W.us (an : Nat) k.f)) ∧ Below w0.heap.size w0 w') := fun V hV => by
    have BV : Below w.heap.size w V := B0.out.trans (hV.mono B0.out.size)
    obtain ⟨r1, r2, -, r4, -⟩ := (H.out.below BV).slices
    obtain ⟨Wn, Hn, hWn, hHn, hGood⟩ := R.out.good
    rw [hWn, hHn]
    exact (isopen_any _ _ Wn Hn W.gs W.os W.us an g k.f V ⟨_, _, rfl, r1, r2⟩ hGood r4 (by have := hGood.gl; omega) hgan.out).mono fun e w' ⟨h1, h2⟩ => ⟨h1, hV.trans (h2.mono hV.size)⟩
  have eo : ∀ args w, (callFunc 39 args).run Tryd.prog w = .ok (.enter 39 args) w := by intro args w; go_simp
  clear hxc hk hg0 h3 x0 x1 x2 x3 x4 x5 x6 x7 x8
  go_upto_region 9 with fail
  refine wp_region_class 11 (fun V => Below w0.heap.size w0 V) (by kernel_rfl) (by kernel_rfl) (Below.refl _ _).drew ?_
  simp only [List.take_succ_cons, List.take_zero, List.drop_succ_cons, List.drop_zero]
  refine head_step (.pointer (some ⟨w.heap.size, 2, none⟩)) (by go_simp) (fun V hV => by go_simp) ?_
  go_simp
  refine head_step (.agg #[.int .i64 W.wide, .int .i64 W.high, .slice p1 W.gs.length q1, .slice p2 W.os.length q2]) (by go_simp) (fun V hV => by obtain ⟨f2, f3, f4, f5, -⟩ := FC.out V hV; go_simp) ?_
  go_simp
  refine head_step (.pointer (some ⟨w.heap.size, 7, none⟩)) (by go_simp) (fun V hV => by go_simp) ?_
  go_simp
  refine head_step (.slice p4 W.us.length q4) (by go_simp) (fun V hV => by obtain ⟨-, -, -, -, f7, -⟩ := FC.out V hV; go_simp) ?_
  go_simp
  refine head_step (.int .i64 (an : Nat)) (by go_simp) (fun V hV => by go_simp) ?_
  go_simp
  refine head_step (.slice (some xk) ks.length qk) (by go_simp) (fun V hV => by go_simp) ?_
  go_simp
  refine head_step (.int .i64 (kn : Nat)) (by go_simp) (fun V hV => by go_simp) ?_
  go_simp
  refine head_step (.pointer (some (xk.add (kn * 11)))) (by go_simp) (fun V hV => by go_simp) ?_
  go_simp
  refine head_step (.pointer (some ⟨(xk.add (kn * 11)).block, (xk.add (kn * 11)).off + 9, none⟩)) (by go_simp) (fun V hV => by go_simp) ?_
  go_simp
  refine head_step (.bool k.f) (by go_simp) (fun V hV => by obtain ⟨-, -, -, -, -, f10⟩ := FC.out V hV; go_simp) ?_
  go_simp
  refine head_call (.bool (Wd.open_ W.gs W.us (an : Nat) k.f)) 39 #[.agg #[.int .i64 W.wide, .int .i64 W.high, .slice p1 W.gs.length q1, .slice p2 W.os.length q2], .slice p4 W.us.length q4, .int .i64 (an : Nat), .bool k.f] (by go_simp) (fun V hV => by go_simp) (fun V hV => OPN.out V hV) ?_
  go_simp
  intro V hV
  have BV : Hid (Below w.heap.size w V) := B0.out.trans (hV.mono B0.out.size)
  obtain ⟨b9, hb9⟩ : ∃ b, Wd.open_ W.gs W.us (an : Nat) k.f = b := ⟨_, rfl⟩
  rw [hb9] at FK ⊢
  clear hV FC OPN hb9
  cases b9 with
  | false =>
    go_wp2
    go_ret
    exact ⟨_, rfl, by rw [FK.out]; exact Er.no (by decide), BV.out⟩
  | true =>
    go_wp2
    go_ret
    exact ⟨_, rfl, by rw [FK.out]; exact Er.nil, BV.out⟩
end Go.Proofs.YtaicnhkobhdehaaDoor

namespace Go.Proofs.YtaicnhkobhdehaaDoor
open Go Go.RowKit
set_option linter.unusedVariables false

section
variable {P : Program} {ops : Array Oper} {md : Region.Mode} {C : World → Prop} {Q : Exit → Act → World → Prop}

/-- the operation gives v in each of the worlds C, and turns nothing. -/
def YieldsS (P : Program) (ops : Array Oper) (C : World → Prop) (o : Oper) (v : Value) (a : Act) : Prop :=
  Region.wanted o (yielded ops a.tmps) = true ∧ ∀ W, C W → (execOp a.eval o).run P W = .ok (.value v) W
/-- the operation goes on, to a world of C. -/
def StepS (P : Program) (ops : Array Oper) (C : World → Prop) (o : Oper) (K : Act → World → Prop) (a : Act) (W : World) : Prop :=
  Region.wanted o (yielded ops a.tmps) = true ∧
   ((∃ v W', (execOp a.eval o).run P W = .ok (.value v) W' ∧ C W' ∧ K (a.put o.dst v) W') ∨ (∃ W', (execOp a.eval o).run P W = .ok .skip W' ∧ C W' ∧ K (a.put o.dst undef) W') ∨
    ∃ f args, (execOp a.eval o).run P W = .ok (.enter f args) W ∧ Calls P f args W (fun e w' => ∃ v, e = .returned v ∧ C w' ∧ K (a.put o.dst v) w'))
theorem StepS.mono {o : Oper} {K K' : Act → World → Prop} {a : Act} {W : World} (h : ∀ a W, C W → K a W → K' a W) (hh : StepS P ops C o K a W) : StepS P ops C o K' a W := by
  obtain ⟨h1, h2⟩ := hh
  refine ⟨h1, ?_⟩
  rcases h2 with ⟨v, W', e, hc, hk⟩ | ⟨W', e, hc, hk⟩ | ⟨f, args, e, hc⟩
  · exact .inl ⟨v, W', e, hc, h _ _ hc hk⟩
  · exact .inr (.inl ⟨W', e, hc, h _ _ hc hk⟩)
  · exact .inr (.inr ⟨f, args, e, hc.mono fun e w' ⟨v, he, hw, hk⟩ => ⟨v, he, hw, h _ _ hw hk⟩⟩)
theorem YieldsS.step {o : Oper} {v : Value} {K : Act → World → Prop} {a : Act} {W : World} (hy : YieldsS P ops C o v a) (hC : C W) (h : K (a.put o.dst v) W) : StepS P ops C o K a W :=
  ⟨hy.1, .inl ⟨v, W, hy.2 W hC, hC, h⟩⟩
theorem StepS.put {oi oj : Oper} {v : Value} (hap : oi.apart ops oj = true)
    (hsi : ∀ cs b, oi.op ≠ .select cs b) (hsj : ∀ cs b, oj.op ≠ .select cs b) {K : Act → World → Prop} {a : Act} {W : World}
    (hy : YieldsS P ops C oi v a) (h : StepS P ops C oj K (a.put oi.dst v) W) :
    StepS P ops C oj (fun a' w' => YieldsS P ops C oi v a' ∧ K (a'.put oi.dst v) w') a W := by
  obtain ⟨h1, h2, h3⟩ := Oper.apart_spec hap
  have keep : ∀ u, YieldsS P ops C oi v (a.put oj.dst u) := fun u => by
    unfold YieldsS at *
    rw [execOp_put oi hsi a oj.dst u h3, wanted_put oi a oj.dst u h3]
    exact hy
  unfold StepS at *
  rw [wanted_put oj a oi.dst v h1, execOp_put oj hsj a oi.dst v h1] at h
  obtain ⟨hw, h⟩ := h
  refine ⟨hw, ?_⟩
  rcases h with ⟨u, W', e, hc, hk⟩ | ⟨W', e, hc, hk⟩ | ⟨f, args, e, hc⟩
  · exact .inl ⟨u, W', e, hc, keep u, by rw [← Act.put_comm a v u h2]; exact hk⟩
  · exact .inr (.inl ⟨W', e, hc, keep _, by rw [← Act.put_comm a v _ h2]; exact hk⟩)
  · exact .inr (.inr ⟨f, args, e, hc.mono fun e w' ⟨u, he, hw, hk⟩ => ⟨u, he, hw, keep u, by rw [← Act.put_comm a v u h2]; exact hk⟩⟩)
def wpAnyS (P : Program) (md : Region.Mode) (ops : Array Oper) (C : World → Prop) (Q : Exit → Act → World → Prop) : Nat → Array Bool → Act → World → Prop
  | 0, listed, a, W => Region.ready md ops listed = [] ∧ Q .normal a W
  | f + 1, listed, a, W => Region.ready md ops listed ≠ [] ∧ ∀ i ∈ Region.ready md ops listed, ∃ o, ops[i]? = some o ∧ StepS P ops C o (wpAnyS P md ops C Q f (listed.setIfInBounds i true)) a W
theorem wpAny_of_S : ∀ (f : Nat) (listed : Array Bool) (a : Act) (W : World), wpAnyS P md ops C Q f listed a W → wpAny P md ops Q f listed a W
  | 0, listed, a, W, h => h
  | f + 1, listed, a, W, h => by
    refine ⟨fun h0 => absurd h0 h.1, fun i hi => ?_⟩
    obtain ⟨o, ho, hs⟩ := h.2 i hi
    unfold wpOp
    simp only [ho]
    obtain ⟨hw, hs⟩ := hs
    rw [if_pos hw]
    refine .inl ?_
    unfold Oper.wp
    rcases hs with ⟨v, W', e, -, hk⟩ | ⟨W', e, -, hk⟩ | ⟨g, args, e, hc⟩
    · rw [e]; exact wpAny_of_S f _ _ _ hk
    · rw [e]; exact wpAny_of_S f _ _ _ hk
    · rw [e]
      exact hc.mono fun e w' ⟨v, he, _, hk⟩ => by subst he; exact wpAny_of_S f _ _ _ hk
theorem wpAnyS_first {i : Nat} {oi : Oper} {v : Value} (hi : ops[i]? = some oi) (hsel : ∀ (j : Nat) (o : Oper) cs b, ops[j]? = some o → o.op ≠ .select cs b) :
    ∀ (f : Nat) (listed : Array Bool) (a : Act) (W : World),
      (∀ j oj, ops[j]? = some oj → j ≠ i → listed.getD j true = false → (∀ e ∈ oj.after, Region.binds md e = true → e.on ≠ i) → oi.apart ops oj = true) →
      i ∈ Region.ready md ops listed → YieldsS P ops C oi v a → C W →
      wpAnyS P md ops C Q f (listed.setIfInBounds i true) (a.put oi.dst v) W → wpAnyS P md ops C Q (f + 1) listed a W := by
  intro f
  induction f with
  | zero =>
    intro listed a W _ hr hy hC H
    refine ⟨fun h => (by rw [h] at hr; cases hr), fun j hj => ?_⟩
    by_cases hji : j = i
    · subst hji; exact ⟨oi, hi, hy.step hC H⟩
    · have := ready_mono hj hji
      rw [H.1] at this
      cases this
  | succ f ih =>
    intro listed a W hfree hr hy hC H
    refine ⟨fun h => (by rw [h] at hr; cases hr), fun j hj => ?_⟩
    by_cases hji : j = i
    · subst hji; exact ⟨oi, hi, hy.step hC H⟩
    · obtain ⟨o', ho', h1⟩ := H.2 j (ready_mono hj hji)
      obtain ⟨hjun, oj, hoj, hall⟩ := mem_ready.1 hj
      obtain rfl : o' = oj := Option.some.inj (ho'.symm.trans hoj)
      have hnot : ∀ e ∈ o'.after, Region.binds md e = true → e.on ≠ i := fun e he hb heq => by
        have h1 := hall e he hb
        have h0 := (mem_ready.1 hr).1
        rw [heq, getD_both h0] at h1
        cases h1
      have h2 := StepS.put (hfree j o' hoj hji hjun hnot) (fun cs b => hsel i oi cs b hi) (fun cs b => hsel j o' cs b hoj) hy h1
      have hfree' : ∀ k ok, ops[k]? = some ok → k ≠ i → (listed.setIfInBounds j true).getD k true = false →
          (∀ e ∈ ok.after, Region.binds md e = true → e.on ≠ i) → oi.apart ops ok = true := fun k ok hk hki hun hno => by
        refine hfree k ok hk hki ?_ hno
        by_cases hjk : j = k
        · subst hjk; exact hjun
        · rw [getD_set_ne true hjk] at hun; exact hun
      refine ⟨o', hoj, h2.mono fun a' W' hC' h3 => ih (listed.setIfInBounds j true) a' W' hfree' (ready_mono hr (Ne.symm hji)) h3.1 hC' ?_⟩
      rw [Array.setIfInBounds_comm _ _ hji]
      exact h3.2
/-- an order of one's own: those marked true read, and may come at any time; of the others each is the only one that may come. -/
def wpSched (P : Program) (ops : Array Oper) (C : World → Prop) (Q : Exit → Act → World → Prop) : List (Bool × Nat) → Act → World → Prop
  | [], a, W => Q .normal a W
  | (true, i) :: r, a, W => ∃ o v, ops[i]? = some o ∧ YieldsS P ops C o v a ∧ wpSched P ops C Q r (a.put o.dst v) W
  | (false, i) :: r, a, W => ∃ o, ops[i]? = some o ∧ StepS P ops C o (wpSched P ops C Q r) a W
def schedB (md : Region.Mode) (ops : Array Oper) : List (Bool × Nat) → Array Bool → Bool
  | [], listed => (Region.ready md ops listed).isEmpty
  | (true, i) :: r, listed => (Region.ready md ops listed).contains i && (Region.free md ops listed i && schedB md ops r (listed.setIfInBounds i true))
  | (false, i) :: r, listed => decide (Region.ready md ops listed = [i]) && schedB md ops r (listed.setIfInBounds i true)
theorem wpAnyS_of_sched (hsel : Region.noSelect ops = true) : ∀ (s : List (Bool × Nat)) (listed : Array Bool) (a : Act) (W : World), schedB md ops s listed = true → C W → wpSched P ops C Q s a W → wpAnyS P md ops C Q s.length listed a W
  | [], listed, a, W, hB, hC, h => ⟨by simpa [schedB] using hB, h⟩
  | (true, i) :: r, listed, a, W, hB, hC, h => by
    simp only [schedB, Bool.and_eq_true] at hB
    obtain ⟨hr, hf, hB⟩ := hB
    obtain ⟨o, v, ho, hy, hk⟩ := h
    have hr' : i ∈ Region.ready md ops listed := by simpa using hr
    exact wpAnyS_first ho (Region.noSelect_spec hsel) r.length listed a W (Region.free_spec ho hf) hr' hy hC (wpAnyS_of_sched hsel r _ _ _ hB hC hk)
  | (false, i) :: r, listed, a, W, hB, hC, h => by
    simp only [schedB, Bool.and_eq_true, decide_eq_true_eq] at hB
    obtain ⟨hr, hB⟩ := hB
    obtain ⟨o, ho, hs⟩ := h
    refine ⟨fun h => (by rw [hr] at h; cases h), fun j hj => ?_⟩
    rw [hr] at hj
    obtain rfl : j = i := by simpa using hj
    exact ⟨o, ho, hs.mono fun a' W' hC' hk => wpAnyS_of_sched hsel r _ _ _ hB hC' hk⟩
theorem wp_region_sched {id : Nat} {a : Act} {w : World} (s : List (Bool × Nat)) (C : World → Prop) (hm : P.follows .mixedOrders = true) (hs : Region.noSelect ops = true) (hl : s.length = ops.size) (hB : schedB .any ops s (Array.replicate ops.size false) = true)
    (hC : C { w with drawn := w.drawn + 1 }) (h : wpSched P ops C Q s a { w with drawn := w.drawn + 1 }) : (Code.region id ops true).wp P Q a w := by
  refine wp_region_any hm ?_
  rw [← hl]
  exact wpAny_of_S _ _ _ _ (wpAnyS_of_sched hs s _ a _ (by rw [hl]; exact hB) hC h)
theorem sched_read {i : Nat} {r : List (Bool × Nat)} {o : Oper} {a : Act} {W : World} (ho : ops[i]? = some o) (v : Value) (hw : Region.wanted o (yielded ops a.tmps) = true) (hr : ∀ W, C W → (execOp a.eval o).run P W = .ok (.value v) W) (h : wpSched P ops C Q r (a.put o.dst v) W) : wpSched P ops C Q ((true, i) :: r) a W :=
  ⟨o, v, ho, ⟨hw, hr⟩, h⟩
theorem sched_call {i : Nat} {r : List (Bool × Nat)} {o : Oper} {a : Act} {W : World} (ho : ops[i]? = some o) (f : FuncId) (args : Array Value) (hw : Region.wanted o (yielded ops a.tmps) = true) (hr : (execOp a.eval o).run P W = .ok (.enter f args) W)
    (hc : Calls P f args W (fun e w' => ∃ v, e = .returned v ∧ C w' ∧ wpSched P ops C Q r (a.put o.dst v) w')) : wpSched P ops C Q ((false, i) :: r) a W :=
  ⟨o, ho, hw, .inr (.inr ⟨f, args, hr, hc⟩)⟩
theorem sched_value {i : Nat} {r : List (Bool × Nat)} {o : Oper} {a : Act} {W : World} (ho : ops[i]? = some o) (v : Value) (W' : World) (hw : Region.wanted o (yielded ops a.tmps) = true) (hr : (execOp a.eval o).run P W = .ok (.value v) W') (hC : C W') (h : wpSched P ops C Q r (a.put o.dst v) W') : wpSched P ops C Q ((false, i) :: r) a W :=
  ⟨o, ho, hw, .inl ⟨v, W', hr, hC, h⟩⟩
theorem sched_skip {i : Nat} {r : List (Bool × Nat)} {o : Oper} {a : Act} {W : World} (ho : ops[i]? = some o) (W' : World) (hw : Region.wanted o (yielded ops a.tmps) = true) (hr : (execOp a.eval o).run P W = .ok .skip W') (hC : C W') (h : wpSched P ops C Q r (a.put o.dst undef) W') : wpSched P ops C Q ((false, i) :: r) a W :=
  ⟨o, ho, hw, .inr (.inl ⟨W', hr, hC, h⟩)⟩
end
end Go.Proofs.YtaicnhkobhdehaaDoor

namespace Go.Proofs.YtaicnhkobhdehaaDoor
open Go Go.RowKit
set_option linter.unusedVariables false

section
variable {P : Program} {ops : Array Oper} {md : Region.Mode} {C : World → Prop} {Q : Exit → Act → World → Prop} {L : Array Bool → Act → World → Prop}

def wpAnyT (P : Program) (md : Region.Mode) (ops : Array Oper) (C : World → Prop) (L : Array Bool → Act → World → Prop) : Nat → Array Bool → Act → World → Prop
  | 0, listed, a, W => L listed a W
  | f + 1, listed, a, W => Region.ready md ops listed ≠ [] ∧ ∀ i ∈ Region.ready md ops listed, ∃ o, ops[i]? = some o ∧ StepS P ops C o (wpAnyT P md ops C L f (listed.setIfInBounds i true)) a W
theorem wpAny_of_T {g : Nat} (hL : ∀ listed a W, L listed a W → wpAny P md ops Q g listed a W) : ∀ (f : Nat) (listed : Array Bool) (a : Act) (W : World), wpAnyT P md ops C L f listed a W → wpAny P md ops Q (f + g) listed a W
  | 0, listed, a, W, h => by rw [Nat.zero_add]; exact hL _ _ _ h
  | f + 1, listed, a, W, h => by
    rw [show f + 1 + g = (f + g) + 1 by omega]
    refine ⟨fun h0 => absurd h0 h.1, fun i hi => ?_⟩
    obtain ⟨o, ho, hs⟩ := h.2 i hi
    unfold wpOp
    simp only [ho]
    obtain ⟨hw, hs⟩ := hs
    rw [if_pos hw]
    refine .inl ?_
    unfold Oper.wp
    rcases hs with ⟨v, W', e, -, hk⟩ | ⟨W', e, -, hk⟩ | ⟨k, args, e, hc⟩
    · rw [e]; exact wpAny_of_T hL f _ _ _ hk
    · rw [e]; exact wpAny_of_T hL f _ _ _ hk
    · rw [e]
      exact hc.mono fun e w' ⟨v, he, _, hk⟩ => by subst he; exact wpAny_of_T hL f _ _ _ hk
theorem unset_of {l H : Array Bool} {i : Nat} (h0 : l.getD i true = false) (e : l.setIfInBounds i true = H) : l = H.setIfInBounds i false := by
  subst e
  apply Array.ext_getElem?
  intro k
  by_cases hk : i = k
  · subst hk
    rcases Nat.lt_or_ge i l.size with hl | hl
    · simp [Array.getD, hl] at h0
      simp [hl, h0]
    · simp [Array.getD, Nat.not_lt.2 hl] at h0
  · simp [hk]
/-- what is listed has all that it waits for. -/
def Clos (md : Region.Mode) (ops : Array Oper) (listed : Array Bool) : Prop := ∀ (j : Nat) (oj : Oper), ops[j]? = some oj → listed.getD j false = true → ∀ e ∈ oj.after, Region.binds md e = true → listed.getD e.on false = true
theorem Clos.set {i : Nat} {listed : Array Bool} (inv : Clos md ops listed) (hi : i ∈ Region.ready md ops listed) : Clos md ops (listed.setIfInBounds i true) := by
  obtain ⟨_, oi, hoi, hall⟩ := mem_ready.1 hi
  intro j oj hj hl e he hb
  by_cases hij : i = j
  · subst hij
    have : oj = oi := Option.some.inj (hj.symm.trans hoi)
    subst this
    exact getD_set_true (hall e he hb)
  · rw [getD_set_ne false hij] at hl
    exact getD_set_true (inv j oj hj hl e he hb)
/-- one that is listed waits for i. -/
def waits (md : Region.Mode) (ops : Array Oper) (H0 : Array Bool) (i : Nat) : Bool := (List.range ops.size).any fun j => H0.getD j false && (decide (j ≠ i) && match ops[j]? with | some o => o.after.any fun e => Region.binds md e && decide (e.on = i) | none => false)
theorem waits_spec {H0 : Array Bool} {i : Nat} (h : waits md ops H0 i = true) : ∃ j o, ops[j]? = some o ∧ j ≠ i ∧ H0.getD j false = true ∧ ∃ e ∈ o.after, Region.binds md e = true ∧ e.on = i := by
  unfold waits at h
  obtain ⟨j, -, hj⟩ := List.any_eq_true.1 h
  simp only [Bool.and_eq_true, decide_eq_true_eq] at hj
  obtain ⟨h1, h2, h3⟩ := hj
  cases ho : ops[j]? with
  | none => rw [ho] at h3; cases h3
  | some o =>
    rw [ho] at h3
    obtain ⟨k, hk, he⟩ := Array.any_eq_true.1 h3
    simp only [Bool.and_eq_true, decide_eq_true_eq] at he
    exact ⟨j, o, ho, h2, h1, o.after[k], Array.getElem_mem hk, he.1, he.2⟩
theorem wpAnyT_first {i : Nat} {oi : Oper} {v : Value} {H0 : Array Bool} (hi : ops[i]? = some oi) (hsel : ∀ (j : Nat) (o : Oper) cs b, ops[j]? = some o → o.op ≠ .select cs b)
    (hH : waits md ops H0 i = true ∨ Region.ready md ops (H0.setIfInBounds i false) = [i]) (hLH : ∀ listed a W, L listed a W → listed = H0) :
    ∀ (f : Nat) (listed : Array Bool) (a : Act) (W : World), Clos md ops listed →
      (∀ j oj, ops[j]? = some oj → j ≠ i → listed.getD j true = false → (∀ e ∈ oj.after, Region.binds md e = true → e.on ≠ i) → oi.apart ops oj = true) →
      i ∈ Region.ready md ops listed → YieldsS P ops C oi v a → C W →
      wpAnyT P md ops C L f (listed.setIfInBounds i true) (a.put oi.dst v) W → wpAnyT P md ops C L (f + 1) listed a W := by
  intro f
  induction f with
  | zero =>
    intro listed a W inv _ hr hy hC H
    refine ⟨fun h => (by rw [h] at hr; cases hr), fun j hj => ?_⟩
    by_cases hji : j = i
    · subst hji; exact ⟨oi, hi, hy.step hC H⟩
    · rcases hH with hH | hH
      · obtain ⟨k, ok, hk, hki, hkl, e, he, hb, heq⟩ := waits_spec hH
        rw [← hLH _ _ _ H, getD_set_ne false (Ne.symm hki)] at hkl
        have h1 := inv k ok hk hkl e he hb
        rw [heq, getD_both (mem_ready.1 hr).1] at h1
        cases h1
      · have e := unset_of (mem_ready.1 hr).1 (hLH _ _ _ H)
        rw [e, hH] at hj
        exact absurd (by simpa using hj) hji
  | succ f ih =>
    intro listed a W inv hfree hr hy hC H
    refine ⟨fun h => (by rw [h] at hr; cases hr), fun j hj => ?_⟩
    by_cases hji : j = i
    · subst hji; exact ⟨oi, hi, hy.step hC H⟩
    · obtain ⟨o', ho', h1⟩ := H.2 j (ready_mono hj hji)
      obtain ⟨hjun, oj, hoj, hall⟩ := mem_ready.1 hj
      obtain rfl : o' = oj := Option.some.inj (ho'.symm.trans hoj)
      have hnot : ∀ e ∈ o'.after, Region.binds md e = true → e.on ≠ i := fun e he hb heq => by
        have h1 := hall e he hb
        have h0 := (mem_ready.1 hr).1
        rw [heq, getD_both h0] at h1
        cases h1
      have h2 := StepS.put (hfree j o' hoj hji hjun hnot) (fun cs b => hsel i oi cs b hi) (fun cs b => hsel j o' cs b hoj) hy h1
      have hfree' : ∀ k ok, ops[k]? = some ok → k ≠ i → (listed.setIfInBounds j true).getD k true = false →
          (∀ e ∈ ok.after, Region.binds md e = true → e.on ≠ i) → oi.apart ops ok = true := fun k ok hk hki hun hno => by
        refine hfree k ok hk hki ?_ hno
        by_cases hjk : j = k
        · subst hjk; exact hjun
        · rw [getD_set_ne true hjk] at hun; exact hun
      refine ⟨o', hoj, h2.mono fun a' W' hC' h3 => ih (listed.setIfInBounds j true) a' W' (inv.set hj) hfree' (ready_mono hr (Ne.symm hji)) h3.1 hC' ?_⟩
      rw [Array.setIfInBounds_comm _ _ hji]
      exact h3.2
/-- the head, in an order of one's own; K behind it. -/
def wpHeadT (P : Program) (ops : Array Oper) (C : World → Prop) (K : Act → World → Prop) : List (Bool × Nat) → Act → World → Prop
  | [], a, W => K a W
  | (true, i) :: r, a, W => ∃ o v, ops[i]? = some o ∧ YieldsS P ops C o v a ∧ wpHeadT P ops C K r (a.put o.dst v) W
  | (false, i) :: r, a, W => ∃ o, ops[i]? = some o ∧ StepS P ops C o (wpHeadT P ops C K r) a W
def headB (md : Region.Mode) (ops : Array Oper) (H0 : Array Bool) : List (Bool × Nat) → Array Bool → Bool
  | [], listed => decide (listed = H0)
  | (true, i) :: r, listed => (Region.ready md ops listed).contains i && (Region.free md ops listed i && ((waits md ops H0 i || decide (Region.ready md ops (H0.setIfInBounds i false) = [i])) && headB md ops H0 r (listed.setIfInBounds i true)))
  | (false, i) :: r, listed => decide (Region.ready md ops listed = [i]) && headB md ops H0 r (listed.setIfInBounds i true)
theorem wpAnyT_of_head {K : Act → World → Prop} {H0 : Array Bool} (hsel : Region.noSelect ops = true) : ∀ (s : List (Bool × Nat)) (listed : Array Bool) (a : Act) (W : World), Clos md ops listed → headB md ops H0 s listed = true → C W → wpHeadT P ops C K s a W → wpAnyT P md ops C (fun l a W => l = H0 ∧ K a W) s.length listed a W
  | [], listed, a, W, inv, hB, hC, h => ⟨of_decide_eq_true hB, h⟩
  | (true, i) :: r, listed, a, W, inv, hB, hC, h => by
    simp only [headB, Bool.and_eq_true, Bool.or_eq_true, decide_eq_true_eq] at hB
    obtain ⟨hr, hf, hH, hB⟩ := hB
    obtain ⟨o, v, ho, hy, hk⟩ := h
    have hr' : i ∈ Region.ready md ops listed := by simpa using hr
    exact wpAnyT_first ho (Region.noSelect_spec hsel) hH (fun _ _ _ h => h.1) r.length listed a W inv (Region.free_spec ho hf) hr' hy hC (wpAnyT_of_head hsel r _ _ _ (inv.set hr') hB hC hk)
  | (false, i) :: r, listed, a, W, inv, hB, hC, h => by
    simp only [headB, Bool.and_eq_true, decide_eq_true_eq] at hB
    obtain ⟨hr, hB⟩ := hB
    obtain ⟨o, ho, hs⟩ := h
    refine ⟨fun h => (by rw [hr] at h; cases h), fun j hj => ?_⟩
    have hr' : i ∈ Region.ready md ops listed := by rw [hr]; simp
    rw [hr] at hj
    obtain rfl : j = i := by simpa using hj
    exact ⟨o, ho, hs.mono fun a' W' hC' hk => wpAnyT_of_head hsel r _ _ _ (inv.set hr') hB hC' hk⟩
def listedBy (n : Nat) (s : List (Bool × Nat)) : Array Bool := s.foldl (fun l p => l.setIfInBounds p.2 true) (Array.replicate n false)
/-- the region: its head s, in the worlds C; its tail t. -/
theorem wp_region_two {id : Nat} {a : Act} {w : World} (s t : List (Bool × Nat)) (C : World → Prop) (hm : P.follows .mixedOrders = true) (hs : Region.noSelect ops = true) (hl : s.length + t.length = ops.size) (hB : headB .any ops (listedBy ops.size s) s (Array.replicate ops.size false) = true)
    (hT : schedB .any ops t (listedBy ops.size s) = true)
    (hC : C { w with drawn := w.drawn + 1 }) (h : wpHeadT P ops C (wpSched P ops (fun _ => True) Q t) s a { w with drawn := w.drawn + 1 }) : (Code.region id ops true).wp P Q a w := by
  refine wp_region_any hm ?_
  rw [← hl]
  refine wpAny_of_T (g := t.length) (fun listed a W hh => ?_) _ _ _ _ (wpAnyT_of_head (H0 := listedBy ops.size s) hs s _ a _ (fun j oj _ hj => by rw [getD_replicate_false] at hj; cases hj) (by rw [hl]; exact hB) hC h)
  obtain ⟨rfl, hk⟩ := hh
  exact wpAny_of_S _ _ _ _ (wpAnyS_of_sched hs t _ a W hT trivial hk)
theorem headT_read {K : Act → World → Prop} {i : Nat} {r : List (Bool × Nat)} {o : Oper} {a : Act} {W : World} (ho : ops[i]? = some o) (v : Value) (hw : Region.wanted o (yielded ops a.tmps) = true) (hr : ∀ W, C W → (execOp a.eval o).run P W = .ok (.value v) W) (h : wpHeadT P ops C K r (a.put o.dst v) W) : wpHeadT P ops C K ((true, i) :: r) a W :=
  ⟨o, v, ho, ⟨hw, hr⟩, h⟩
theorem headT_call {K : Act → World → Prop} {i : Nat} {r : List (Bool × Nat)} {o : Oper} {a : Act} {W : World} (ho : ops[i]? = some o) (f : FuncId) (args : Array Value) (hw : Region.wanted o (yielded ops a.tmps) = true) (hr : (execOp a.eval o).run P W = .ok (.enter f args) W)
    (hc : Calls P f args W (fun e w' => ∃ v, e = .returned v ∧ C w' ∧ wpHeadT P ops C K r (a.put o.dst v) w')) : wpHeadT P ops C K ((false, i) :: r) a W :=
  ⟨o, ho, hw, .inr (.inr ⟨f, args, hr, hc⟩)⟩
theorem exec_append {o : Oper} {a : Act} {w w' : World} {v' : Value} (s x : Operand) (t tx : TypeId) (ho : o.op = .call { callee := .builtin .append, args := #[s, x], argTypes := #[t, tx] }) (v xv : Value) (hs : a.eval s = v) (hx : a.eval x = xv)
    (hr : (Builtin.append_ #[t, tx] o.type #[v, xv]).run P w = .ok v' w') : (execOp a.eval o).run P w = .ok (.value v') w' := by
  unfold execOp
  simp only [ho, resolve, invoke, builtin, Sem.run_bind, Sem.run_pure, Result.andThen_ok, List.map_toArray, List.map_cons, List.map_nil, hs, hx, hr]
theorem headT_value {K : Act → World → Prop} {i : Nat} {r : List (Bool × Nat)} {o : Oper} {a : Act} {W : World} (ho : ops[i]? = some o) (v : Value) (W' : World) (hw : Region.wanted o (yielded ops a.tmps) = true) (hr : (execOp a.eval o).run P W = .ok (.value v) W') (hC : C W') (h : wpHeadT P ops C K r (a.put o.dst v) W') : wpHeadT P ops C K ((false, i) :: r) a W :=
  ⟨o, ho, hw, .inl ⟨v, W', hr, hC, h⟩⟩
end
end Go.Proofs.YtaicnhkobhdehaaDoor

