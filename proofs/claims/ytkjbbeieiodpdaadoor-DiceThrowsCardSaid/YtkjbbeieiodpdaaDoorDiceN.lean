/- Dice: the numbers that are drawn, and what New, Next, State and Fork do. -/
import Derived.Test.YtkjbbeieiodpdaaDoorRows
import Derived.Test.YtkjbbeieiodpdaaDoorDiceMath
import Derived.Test.YtkjbbeieiodpdaaDoorKeep
import Derived.WalkKit
import Derived.WalkSpells
import Derived.WalkLawsBesides
import Derived.Deep.QuietTactic
import Derived.BigQuiet
import Derived.Laws.Bits64
namespace Go.Proofs.YtkjbbeieiodpdaaDoor
open Go.RowKit

namespace Dm
/-- the state behind a state. -/
def stp (s : Nat) : Nat := (s + 11400714819323198485) % 18446744073709551616
def mixA (x : Nat) : Nat := (x ^^^ x / 1073741824) * 13787848793156543929 % 18446744073709551616
def mixB (x : Nat) : Nat := (x ^^^ x / 134217728) * 10723151780598845931 % 18446744073709551616
def mixC (x : Nat) : Nat := x ^^^ x / 2147483648
/-- the number that is drawn, the state being x then. -/
def draw (x : Nat) : Nat := mixC (mixB (mixA x)) / 4
theorem stp_lt (s : Nat) : stp s < 18446744073709551616 := Nat.mod_lt _ (by decide)
theorem mixA_lt (s : Nat) : mixA s < 18446744073709551616 := Nat.mod_lt _ (by decide)
theorem mixB_lt (s : Nat) : mixB s < 18446744073709551616 := Nat.mod_lt _ (by decide)
theorem mixC_lt (s : Nat) (h : s < 18446744073709551616) : mixC s < 18446744073709551616 :=
  Nat.xor_lt_two_pow (n := 64) h (Nat.lt_of_le_of_lt (Nat.div_le_self _ _) h)
theorem draw_lt (s : Nat) : draw s < 4611686018427387904 := by
  have := mixC_lt (mixB (mixA s)) (mixB_lt _)
  unfold draw
  generalize mixC (mixB (mixA s)) = t at *
  omega
theorem draw_zero : draw 0 = 0 := by decide
end Dm

/-- dice of a state in block z. -/
def Di (w : World) (z : Nat) (s : Nat) : Prop := w.heap[z]? = some (.cells #[.int .u64 (s : Int)] 37 (0, 0)) ∧ s < 18446744073709551616

theorem Di.cell {w : World} {z s : Nat} (h : Di w z s) : w.cell? ⟨z, 0, none⟩ = some (.int .u64 (s : Int)) := by simp [World.cell?, h.1]
theorem Di.free {w : World} {z s : Nat} (h : Di w z s) : w.frozen? ⟨z, 0, none⟩ = false := by simp [World.frozen?, h.1]

theorem stp_eq (s : Nat) : IntKind.u64.wrap ((s : Int) + 11400714819323198485) = ((Dm.stp s : Nat) : Int) := by
  rw [IntKind.wrap_u64]; unfold Dm.stp; omega
theorem mixA_eq (x : Nat) (h : x < 18446744073709551616) : IntKind.u64.wrap (bits .xor .u64 (x : Int) ((x : Int) / 1073741824) * 13787848793156543929) = ((Dm.mixA x : Nat) : Int) := mixStep_u64 x 1073741824 13787848793156543929 h
theorem mixB_eq (x : Nat) (h : x < 18446744073709551616) : IntKind.u64.wrap (bits .xor .u64 (x : Int) ((x : Int) / 134217728) * 10723151780598845931) = ((Dm.mixB x : Nat) : Int) := mixStep_u64 x 134217728 10723151780598845931 h
theorem mixC_eq (x : Nat) (h : x < 18446744073709551616) : bits .xor .u64 (x : Int) ((x : Int) / 2147483648) = ((Dm.mixC x : Nat) : Int) := xorShift_u64 x 2147483648 h
theorem draw_eq (x : Nat) : wrap64 (((Dm.mixC (Dm.mixB (Dm.mixA x)) : Nat) : Int) / 4) = ((Dm.draw x : Nat) : Int) := by
  have := Dm.draw_lt x
  unfold Dm.draw at *
  generalize Dm.mixC (Dm.mixB (Dm.mixA x)) = t at *
  unfold wrap64; omega

set_option maxHeartbeats 400000 in
theorem next_any (z s : Nat) (w : World) (h : Di w z s) :
    Calls Tryd.prog 6 #[.pointer (some ⟨z, 0, none⟩)] w fun e w' => e = .returned (.int .i64 (Dm.draw (Dm.stp s) : Nat)) ∧ w' = w.setCell ⟨z, 0, none⟩ (.int .u64 (Dm.stp s : Nat)) := by
  have hc := h.cell
  have hf := h.free
  have hs := h.2
  clear h
  go_enter Tryd.func6, Tryd.ntmps6
  go_wp2
  go_ret
  rw [stp_eq, mixA_eq _ (Dm.stp_lt _), mixB_eq _ (Dm.mixA_lt _), mixC_eq _ (Dm.mixB_lt _), draw_eq]
  exact ⟨rfl, rfl⟩

/-- the bits of an integer. -/
def Dm.bitsOf (n : Int) : Nat := (n % 18446744073709551616).toNat
theorem Dm.bitsOf_lt (n : Int) : Dm.bitsOf n < 18446744073709551616 := by unfold Dm.bitsOf; omega
theorem bitsOf_eq (n : Int) : IntKind.u64.wrap n = ((Dm.bitsOf n : Nat) : Int) := by rw [IntKind.wrap_u64]; unfold Dm.bitsOf; omega

theorem new_any (n : Int) (w : World) :
    Calls Tryd.prog 4 #[.int .i64 n] w fun e w' => e = .returned (.pointer (some ⟨w.heap.size, 0, none⟩)) ∧ w' = w.alloc (.cells #[.int .u64 (Dm.bitsOf n : Nat)] 37) := by
  go_enter Tryd.func4, Tryd.ntmps4
  go_wp2
  go_ret
  rw [bitsOf_eq]
  exact ⟨rfl, rfl⟩

theorem state_any (z s : Nat) (w : World) (h : Di w z s) :
    Calls Tryd.prog 11 #[.pointer (some ⟨z, 0, none⟩)] w fun e w' => e = .returned (.int .i64 (wrap64 (s : Int))) ∧ w' = w := by
  have hc := h.cell
  have hf := h.free
  have hs := h.2
  clear h
  go_enter Tryd.func11, Tryd.ntmps11
  go_wp2
  go_ret
  exact ⟨rfl, rfl⟩

/-- the state of a fork. -/
def Dm.fork (s : Nat) (k : Int) : Nat := s ^^^ (Dm.bitsOf k * 15074714826142052245 % 18446744073709551616)
theorem Dm.fork_lt (s : Nat) (k : Int) (h : s < 18446744073709551616) : Dm.fork s k < 18446744073709551616 :=
  Nat.xor_lt_two_pow (n := 64) h (Nat.mod_lt _ (by decide))
theorem fork_eq (s : Nat) (k : Int) (h : s < 18446744073709551616) : bits .xor .u64 (s : Int) (IntKind.u64.wrap (IntKind.u64.wrap k * 15074714826142052245)) = ((Dm.fork s k : Nat) : Int) := by
  have e : IntKind.u64.wrap (IntKind.u64.wrap k * 15074714826142052245) = ((Dm.bitsOf k * 15074714826142052245 % 18446744073709551616 : Nat) : Int) := by
    rw [bitsOf_eq k, IntKind.wrap_u64, Int.natCast_emod, Int.natCast_mul]
    rfl
  rw [e]
  exact bits_xor_u64_nat _ _ h (Nat.mod_lt _ (by decide))
theorem fork_any (z s : Nat) (k : Int) (w : World) (h : Di w z s) :
    Calls Tryd.prog 10 #[.pointer (some ⟨z, 0, none⟩), .int .i64 k] w fun e w' => e = .returned (.pointer (some ⟨w.heap.size, 0, none⟩)) ∧ w' = w.alloc (.cells #[.int .u64 (Dm.fork s k : Nat)] 37) := by
  have hc := h.cell
  have hf := h.free
  have hs := h.2
  clear h
  go_enter Tryd.func10, Tryd.ntmps10
  go_wp2
  go_ret
  rw [fork_eq s k hs]
  exact ⟨rfl, rfl⟩

theorem Di.kp {w w' : World} {y z s : Nat} (h : Di w y s) (hk : Kp z w w') (hne : y ≠ z) : Di w' y s := ⟨by rw [hk.block y (lt_of_block h.1) hne]; exact h.1, h.2⟩
theorem Di.below {w w' : World} {y s : Nat} (h : Di w y s) (hb : Below w.heap.size w w') : Di w' y s := ⟨by rw [hb.block y (lt_of_block h.1)]; exact h.1, h.2⟩
theorem Di.drewN {w : World} {y s : Nat} (h : Di w y s) (n : Nat) : Di (w.drewN n) y s := h
theorem Di.lt {w : World} {y s : Nat} (h : Di w y s) : y < w.heap.size := lt_of_block h.1
theorem Di.set {w : World} {y s t : Nat} (h : Di w y s) (ht : t < 18446744073709551616) : Di (w.setCell ⟨y, 0, none⟩ (.int .u64 (t : Int))) y t :=
  ⟨heap_setCell_same w y 0 _ _ _ h.1, ht⟩
theorem di_new (w : World) (t : Nat) (ht : t < 18446744073709551616) : Di (w.alloc (.cells #[.int .u64 (t : Int)] 37)) w.heap.size t :=
  ⟨by show (w.heap.push _)[w.heap.size]? = _; simp, ht⟩

/-- behind state s comes state t, and x is drawn. -/
def Dm.Nx (s t x : Nat) : Prop := t = Dm.stp s ∧ x = Dm.draw t
theorem Dm.Nx.uniq {s t x u y : Nat} (h : Dm.Nx s t x) (k : Dm.Nx s u y) : t = u ∧ x = y := by
  obtain ⟨h1, h2⟩ := h
  obtain ⟨k1, k2⟩ := k
  have e : t = u := h1.trans k1.symm
  refine ⟨e, ?_⟩
  rw [h2, k2, e]
theorem Dm.Nx.lt {s t x : Nat} (h : Dm.Nx s t x) : x < 4611686018427387904 := by rw [h.2]; exact Dm.draw_lt _

theorem next_di (z s : Nat) (w : World) (h : Di w z s) :
    Calls Tryd.prog 6 #[.pointer (some ⟨z, 0, none⟩)] w fun e w' => ∃ t x, Dm.Nx s t x ∧ e = .returned (.int .i64 (x : Nat)) ∧ Di w' z t ∧ Kp z w w' ∧ w'.heap.size = w.heap.size := by
  refine (next_any z s w h).mono ?_
  rintro e w1 ⟨rfl, rfl⟩
  exact ⟨_, _, ⟨rfl, rfl⟩, rfl, h.set (Dm.stp_lt _), Kp.set _ _ _, by simp [World.setCell]⟩
theorem new_di (n : Int) (w : World) :
    Calls Tryd.prog 4 #[.int .i64 n] w fun e w' => ∃ s, s = Dm.bitsOf n ∧ e = .returned (.pointer (some ⟨w.heap.size, 0, none⟩)) ∧ Di w' w.heap.size s ∧ Below w.heap.size w w' ∧ w'.heap.size = w.heap.size + 1 := by
  refine (new_any n w).mono ?_
  rintro e w1 ⟨rfl, rfl⟩
  exact ⟨_, rfl, rfl, di_new w _ (Dm.bitsOf_lt _), (Below.refl _ _).alloc (Nat.le_refl _) _, by simp⟩
theorem fork_di (z s : Nat) (k : Int) (w : World) (h : Di w z s) :
    Calls Tryd.prog 10 #[.pointer (some ⟨z, 0, none⟩), .int .i64 k] w fun e w' => ∃ f, f = Dm.fork s k ∧ e = .returned (.pointer (some ⟨w.heap.size, 0, none⟩)) ∧ Di w' w.heap.size f ∧ Below w.heap.size w w' ∧ w'.heap.size = w.heap.size + 1 := by
  refine (fork_any z s k w h).mono ?_
  rintro e w1 ⟨rfl, rfl⟩
  exact ⟨_, rfl, rfl, di_new w _ (Dm.fork_lt _ _ h.2), (Below.refl _ _).alloc (Nat.le_refl _) _, by simp⟩
end Go.Proofs.YtkjbbeieiodpdaaDoor
