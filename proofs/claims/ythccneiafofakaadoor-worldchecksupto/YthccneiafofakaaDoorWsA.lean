/- Worlds: sums, and a unit by its id. -/
import Derived.Test.YthccneiafofakaaDoorWdE
import Derived.Test.YthccneiafofakaaDoorWbA
namespace Go.Proofs.YthccneiafofakaaDoor
open Go.RowKit
set_option linter.unusedVariables false

namespace Wd
def sum1 (x : Nat) (c : UInt8) : Nat := (x * 257 + c.toNat) % 1000000007
def sum (l : List UInt8) : Nat := l.foldl sum1 1
theorem sum_lt (l : List UInt8) : sum l < 1000000007 := by
  unfold sum
  have : ∀ (l : List UInt8) (x : Nat), x < 1000000007 → l.foldl sum1 x < 1000000007 := by
    intro l
    induction l with
    | nil => intro x h; exact h
    | cons c l ih => intro x h; exact ih _ (Nat.mod_lt _ (by decide))
  exact this l 1 (by decide)
theorem sum_next {l : List UInt8} {k : Nat} {c : UInt8} (h : l[k]? = some c) : sum (l.take (k + 1)) = sum1 (sum (l.take k)) c := by
  obtain ⟨hi, e⟩ := List.getElem?_eq_some_iff.1 h
  unfold sum
  rw [List.take_succ_eq_append_getElem hi, List.foldl_append, e]
  rfl
/-- the index of a unit by its id. -/
def find (us : List UnV) (id : Int) : Int := match us.findIdx? (fun u => u.id == id) with
  | some i => (i : Nat)
  | none => -1
end Wd
set_option maxRecDepth 100000 in
set_option maxHeartbeats 2000000 in
theorem rsum_any (v : Value) (l : List UInt8) (w : World) (h : By w v l) :
    Calls Tryd.prog 31 #[v] w fun e w' => e = .returned (.int .i64 (Wd.sum l : Nat)) ∧ w' = w := by
  obtain ⟨a, cap, rfl, h1, h2, h3⟩ := h
  have H : Hid (l ≠ [] → ∃ x, a = some x ∧ x.block < w.heap.size ∧ ∀ (i : Nat) d, l[i]? = some d → w.cell? (x.add i) = some (.int .u8 (d.toNat : Int))) := h3
  have hml : l.length ≤ 9223372036854775807 := by unfold maxLen at h2; omega
  clear h1 h2 h3
  go_enter Tryd.func31, Tryd.ntmps31
  go_wp2
  go_loopw [3, 4] (fun xv iv W => ∃ (k : Nat), xv = .int .i64 (Wd.sum (l.take k) : Nat) ∧ iv = .int .i64 (k : Nat) ∧ k ≤ l.length ∧ W = w) (fun _ iv _ => l.length - (intOf iv).toNat)
  case atStart => exact ⟨0, rfl, rfl, Nat.zero_le _, rfl⟩
  case round =>
    obtain ⟨k, rfl, rfl, hk, rfl⟩ := hrel
    by_cases he : k = l.length
    · subst he
      rw [List.take_length]
      go_wp2
      go_ret
      exact ⟨rfl, rfl⟩
    · have hlt : k < l.length := by omega
      have hli : (k : Int) < (l.length : Int) := by omega
      obtain ⟨c, hc⟩ : ∃ c, l[k]? = some c := ⟨_, List.getElem?_eq_getElem hlt⟩
      obtain ⟨y, rfl, hy, hcell⟩ := H.out (by intro e; subst e; simp at hlt)
      have cc : wr.cell? (y.add k) = some (.int .u8 (c.toNat : Int)) := hcell k c hc
      have N : Hid (Wd.sum (l.take (k + 1)) = Wd.sum1 (Wd.sum (l.take k)) c) := Wd.sum_next hc
      have sl := Wd.sum_lt (l.take k)
      have cl : c.toNat < 256 := c.toNat_lt
      obtain ⟨x, hx⟩ : ∃ x, Wd.sum (l.take k) = x := ⟨_, rfl⟩
      unfold Wd.sum1 at N
      rw [hx] at N sl ⊢
      obtain ⟨m, hm⟩ : ∃ m, c.toNat = m := ⟨_, rfl⟩
      rw [hm] at N cl cc
      obtain ⟨p, hp⟩ : ∃ p, x * 257 = p := ⟨_, rfl⟩
      obtain ⟨q, hq⟩ : ∃ q, p + m = q := ⟨_, rfl⟩
      obtain ⟨r, hr⟩ : ∃ r, q % 1000000007 = r := ⟨_, rfl⟩
      have e1 : (x : Int) * 257 = (p : Nat) := by omega
      have w1 : IntKind.i64.wrap ((p : Nat) : Int) = (p : Nat) := by rw [IntKind.wrap_i64]; omega
      have e2 : ((p : Nat) : Int) + (m : Nat) = (q : Nat) := by omega
      have w2 : IntKind.i64.wrap ((q : Nat) : Int) = (q : Nat) := by rw [IntKind.wrap_i64]; omega
      have e3 : ((q : Nat) : Int) % 1000000007 = (r : Nat) := by omega
      have NR : Hid (Wd.sum (l.take (k + 1)) = r) := by unfold Hid; rw [N.out, hp, hq, hr]
      have hmi : (m : Int) < 256 := by omega
      clear hcell hy hc N hx hm hp hq hr sl cl
      go_wp2
      go_roundw
      case rel => exact ⟨k + 1, by rw [NR.out, e3], rfl, by omega, trivial⟩
      case measure => simp [intOf]; omega
set_option maxRecDepth 100000 in
set_option maxHeartbeats 2000000 in
theorem sum_any (v : Value) (W : WV) (w : World) (h : Wl w v W) (hs : WSmall W) (hi : ∀ n ∈ Wd.nums W, Wd.In64 n) :
    Calls Tryd.prog 29 #[v] w fun e w' => e = .returned (.int .i64 (Wd.sum (Wd.enc W) : Nat)) ∧ Below w.heap.size w w' := by
  have H : Hid (Wl w v W) := h
  obtain ⟨u1, u2, u3, u4, u5, rfl, h1, h2, h3, h4, h5⟩ := h
  clear h1 h2 h3 h4 h5
  have S : Hid (WSmall W ∧ ∀ n ∈ Wd.nums W, Wd.In64 n) := ⟨hs, hi⟩
  clear hs hi
  go_enter Tryd.func29, Tryd.ntmps29
  go_wp2_with fail
  have B0 : Hid (Below w.heap.size w (w.alloc (Obj.cells #[.int .i64 W.turn, .int .i64 W.next, .int .i64 W.wide, .int .i64 W.high, u1, u2, u3, u4, u5] 49))) := (Below.refl _ _).alloc (Nat.le_refl _) _
  generalize w.alloc (Obj.cells #[.int .i64 W.turn, .int .i64 W.next, .int .i64 W.wide, .int .i64 W.high, u1, u2, u3, u4, u5] 49) = w0 at *
  refine (encode_any _ W w0 (H.out.below B0.out) S.out.1 S.out.2).mono ?_
  rintro e w1 ⟨u, rfl, ho, hb⟩
  obtain ⟨l, hl⟩ : ∃ l, Wd.enc W = l := ⟨_, rfl⟩
  rw [hl] at ho
  have E : Hid (Wd.enc W = l) := hl
  have B1 : Hid (Below w.heap.size w w1) := B0.out.trans (hb.mono B0.out.size)
  obtain ⟨a, cap, rfl, k1, k2, h3⟩ := ho.by_
  have H3 : Hid (l ≠ [] → ∃ x, a = some x ∧ x.block < w1.heap.size ∧ ∀ (i : Nat) d, l[i]? = some d → w1.cell? (x.add i) = some (.int .u8 (d.toNat : Int))) := h3
  have hml : l.length ≤ 9223372036854775807 := by unfold maxLen at k2; omega
  clear ho hb hl k1 k2 h3 B0 H S
  go_wp2
  go_loopw [3, 9] (fun xv iv W' => ∃ (k : Nat), xv = .int .i64 (Wd.sum (l.take k) : Nat) ∧ iv = .int .i64 (k : Nat) ∧ k ≤ l.length ∧ W' = w1) (fun _ iv _ => l.length - (intOf iv).toNat)
  case atStart => exact ⟨0, rfl, rfl, Nat.zero_le _, rfl⟩
  case round =>
    obtain ⟨k, rfl, rfl, hk, rfl⟩ := hrel
    by_cases he : k = l.length
    · subst he
      rw [List.take_length]
      go_wp2
      go_ret
      exact ⟨by rw [E.out]; rfl, B1.out⟩
    · have hlt : k < l.length := by omega
      have hli : (k : Int) < (l.length : Int) := by omega
      obtain ⟨c, hc⟩ : ∃ c, l[k]? = some c := ⟨_, List.getElem?_eq_getElem hlt⟩
      obtain ⟨y, rfl, hy, hcell⟩ := H3.out (by intro e; subst e; simp at hlt)
      have cc : wr.cell? (y.add k) = some (.int .u8 (c.toNat : Int)) := hcell k c hc
      have N : Hid (Wd.sum (l.take (k + 1)) = Wd.sum1 (Wd.sum (l.take k)) c) := Wd.sum_next hc
      have sl := Wd.sum_lt (l.take k)
      have cl : c.toNat < 256 := c.toNat_lt
      obtain ⟨x, hx⟩ : ∃ x, Wd.sum (l.take k) = x := ⟨_, rfl⟩
      unfold Wd.sum1 at N
      rw [hx] at N sl ⊢
      obtain ⟨m, hm⟩ : ∃ m, c.toNat = m := ⟨_, rfl⟩
      rw [hm] at N cl cc
      obtain ⟨p, hp⟩ : ∃ p, x * 257 = p := ⟨_, rfl⟩
      obtain ⟨q, hq⟩ : ∃ q, p + m = q := ⟨_, rfl⟩
      obtain ⟨r, hr⟩ : ∃ r, q % 1000000007 = r := ⟨_, rfl⟩
      have e1 : (x : Int) * 257 = (p : Nat) := by omega
      have w1' : IntKind.i64.wrap ((p : Nat) : Int) = (p : Nat) := by rw [IntKind.wrap_i64]; omega
      have e2 : ((p : Nat) : Int) + (m : Nat) = (q : Nat) := by omega
      have w2' : IntKind.i64.wrap ((q : Nat) : Int) = (q : Nat) := by rw [IntKind.wrap_i64]; omega
      have e3 : ((q : Nat) : Int) % 1000000007 = (r : Nat) := by omega
      have NR : Hid (Wd.sum (l.take (k + 1)) = r) := by unfold Hid; rw [N.out, hp, hq, hr]
      have hmi : (m : Int) < 256 := by omega
      clear hcell hy hc N hx hm hp hq hr sl cl
      go_wp2
      go_roundw
      case rel => exact ⟨k + 1, by rw [NR.out, e3], rfl, by omega, trivial⟩
      case measure => simp [intOf]; omega
end Go.Proofs.YthccneiafofakaaDoor
