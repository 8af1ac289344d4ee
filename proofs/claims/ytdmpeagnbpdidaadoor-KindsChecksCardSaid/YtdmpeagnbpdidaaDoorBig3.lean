/- Whole numbers of any size: what SetInt64, NewInt and Big do. -/
import Derived.Test.YtdmpeagnbpdidaaDoorBig2
namespace Go.Proofs.YtdmpeagnbpdidaaDoor
open Go.RowKit

theorem neg_wrap (x : Int) (h : x < 0) (h0 : -9223372036854775808 < x) : IntKind.u64.wrap (-IntKind.u64.wrap x) = -x := by
  simp [IntKind.wrap, IntKind.bits, IntKind.signed]
  omega

theorem set_int (z : Nat) (x : Int) (w : World) (hz : Zb w z) (h0 : -9223372036854775808 < x) (h1 : x ≤ 9223372036854775807) :
    Calls Tryd.prog 67 #[.pointer (some ⟨z, 0, none⟩), .int .i64 x] w fun e w' => e = .returned (.pointer (some ⟨z, 0, none⟩)) ∧ IntAt w' z x ∧ Kp z w w' := by
  have Hz : Hid (Zb w z) := hz
  clear hz
  by_cases hx : x < 0
  · go_enter Tryd.func67, Tryd.ntmps67
    go_wp2_with fail
    rw [neg_wrap x hx h0]
    refine (words_any (-x) _ (by omega) (by omega)).mono ?_
    rintro e w1 ⟨v, ds, hs, hn, hv, rfl, hb⟩
    have Hs : Hid (Sl w1 v ds) := hs
    have Hn : Hid (Bg.Nrm ds) := hn
    have Hv : Hid (Bg.val ds = -x) := hv
    have Hb : Hid (Below w.heap.size w w1) := hb
    clear hs hn hv hb
    go_wp2_with fail
    refine (give_int z true v ds _ (Zb.below Hz Hb) Hs Hn).mono ?_
    rintro e w2 ⟨rfl, hi, hk⟩
    have e1 : sgn true (Bg.val ds) = x := by rw [Hv.out]; simp [sgn]
    rw [e1] at hi
    have Hi : Hid (IntAt w2 z x) := hi
    have Hk : Hid (Kp z w1 w2) := hk
    clear hi hk e1
    go_wp2
    go_ret
    exact ⟨rfl, Hi, (Kp.of Hb.out).trans Hk⟩
  · go_enter Tryd.func67, Tryd.ntmps67
    go_wp2_with fail
    refine (words_any x _ (by omega) (by omega)).mono ?_
    rintro e w1 ⟨v, ds, hs, hn, hv, rfl, hb⟩
    have Hs : Hid (Sl w1 v ds) := hs
    have Hn : Hid (Bg.Nrm ds) := hn
    have Hv : Hid (Bg.val ds = x) := hv
    have Hb : Hid (Below w.heap.size w w1) := hb
    clear hs hn hv hb
    go_wp2_with fail
    refine (give_int z false v ds _ (Zb.below Hz Hb) Hs Hn).mono ?_
    rintro e w2 ⟨rfl, hi, hk⟩
    have e1 : sgn false (Bg.val ds) = x := by rw [Hv.out]; simp [sgn]
    rw [e1] at hi
    have Hi : Hid (IntAt w2 z x) := hi
    have Hk : Hid (Kp z w1 w2) := hk
    clear hi hk e1
    go_wp2
    go_ret
    exact ⟨rfl, Hi, (Kp.of Hb.out).trans Hk⟩

theorem zb_new (w : World) (v : Value) : Zb (w.alloc (.cells #[.bool false, v] 130)) w.heap.size :=
  ⟨false, v, by show (w.heap.push _)[w.heap.size]? = _; simp⟩

/-- a new number. -/
theorem new_int (x : Int) (w : World) (h0 : -9223372036854775808 < x) (h1 : x ≤ 9223372036854775807) :
    Calls Tryd.prog 52 #[.int .i64 x] w fun e w' => e = .returned (.pointer (some ⟨w.heap.size, 0, none⟩)) ∧ IntAt w' w.heap.size x ∧ Below w.heap.size w w' ∧ w.heap.size < w'.heap.size := by
  go_enter Tryd.func52, Tryd.ntmps52
  go_wp2_with fail
  refine (set_int w.heap.size x _ (zb_new w _) h0 h1).mono ?_
  rintro e w1 ⟨rfl, hi, hk⟩
  have Hi : Hid (IntAt w1 w.heap.size x) := hi
  have Hk : Hid (Kp w.heap.size _ w1) := hk
  clear hi hk
  go_wp2
  go_ret
  refine ⟨rfl, Hi, Kp.below ((Below.refl _ _).alloc (Nat.le_refl _) _) Hk.out (by simp) (Nat.le_refl _), ?_⟩
  have := Hk.out.size
  simp at this
  omega

theorem big_int (x : Int) (w : World) (h0 : -9223372036854775808 < x) (h1 : x ≤ 9223372036854775807) :
    Calls Tryd.prog 33 #[.int .i64 x] w fun e w' => e = .returned (.pointer (some ⟨w.heap.size, 0, none⟩)) ∧ IntAt w' w.heap.size x ∧ Below w.heap.size w w' ∧ w.heap.size < w'.heap.size := by
  go_enter Tryd.func33, Tryd.ntmps33
  go_wp2_with fail
  refine (new_int x _ h0 h1).mono ?_
  rintro e w1 ⟨rfl, hi, hb, hl⟩
  have Hi : Hid (IntAt w1 w.heap.size x) := hi
  have Hb : Hid (Below w.heap.size w w1) := hb
  have Hl : Hid (w.heap.size < w1.heap.size) := hl
  clear hi hb hl
  go_wp2
  go_ret
  exact ⟨rfl, Hi, Hb, Hl⟩
end Go.Proofs.YtdmpeagnbpdidaaDoor
