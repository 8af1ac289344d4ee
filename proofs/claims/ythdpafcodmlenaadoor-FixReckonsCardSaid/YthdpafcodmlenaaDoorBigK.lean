/- Whole numbers of any size: what Cmp does. -/
import Derived.Test.YthdpafcodmlenaaDoorBigE
namespace Go.Proofs.YthdpafcodmlenaaDoor
open Go.RowKit

theorem ord_bd (x y : Int) : -1 ≤ ord x y ∧ ord x y ≤ 1 := by
  unfold ord
  split
  · omega
  · split <;> omega

theorem ord_abs (x y : Int) (hs : x < 0 ↔ y < 0) : (if decide (x < 0) = true then -ord (x.natAbs : Int) (y.natAbs : Int) else ord (x.natAbs : Int) (y.natAbs : Int)) = ord x y := by
  by_cases h1 : x < 0
  · have h2 := hs.1 h1
    rw [if_pos (by simp [h1])]
    unfold ord
    by_cases ha : x < y
    · rw [if_pos ha, if_neg (by omega), if_pos (by omega)]
    · rw [if_neg ha]
      by_cases hb : y < x
      · rw [if_pos hb, if_pos (by omega)]; omega
      · rw [if_neg hb, if_neg (by omega), if_neg (by omega)]; omega
  · have h2 : ¬ y < 0 := fun h => h1 (hs.2 h)
    rw [if_neg (by simp [h1])]
    have e1 : (x.natAbs : Int) = x := by omega
    have e2 : (y.natAbs : Int) = y := by omega
    rw [e1, e2]

theorem len_of3 (ds : List Int) (x : Int) (h : Bg.Nrm ds) (hv : Bg.val ds = x.natAbs) (h0 : -79228162514264337593543950336 < x) (h1 : x < 79228162514264337593543950336) : ds.length ≤ 1000 := by
  have : ds.length ≤ 3 := by
    refine Bg.len_le ds h 3 ?_
    have e : (4294967296 : Int) ^ 3 = 79228162514264337593543950336 := by decide
    rw [e, hv]
    omega
  omega

set_option maxHeartbeats 2000000 in
theorem cmp_part (xb yb : Nat) (w : World) (h : Bool) (cx0 : w.cell? ⟨xb, 0, none⟩ = some (.bool h)) (cy0 : w.cell? ⟨yb, 0, none⟩ = some (.bool (!h))) :
    Calls Tryd.prog 27 #[.pointer (some ⟨xb, 0, none⟩), .pointer (some ⟨yb, 0, none⟩)] w fun e w' => e = .returned (.int .i64 (if h then -1 else 1)) ∧ Below w.heap.size w w' := by
  cases h
  · simp only [Bool.not_false] at cy0
    go_enter Tryd.func27, Tryd.ntmps27
    go_wp2
    go_quiet (fail)
    go_wp2
    go_ret
    exact ⟨rfl, by repeat (first | exact Below.refl _ _ | refine below_drewN ?_ _)⟩
  · simp only [Bool.not_true] at cy0
    go_enter Tryd.func27, Tryd.ntmps27
    go_wp2
    go_quiet (fail)
    go_wp2
    go_ret
    exact ⟨rfl, by repeat (first | exact Below.refl _ _ | refine below_drewN ?_ _)⟩

set_option maxHeartbeats 2000000 in
theorem cmp_join (xb yb : Nat) (w : World) (h : Bool) (u v : Value) (o : Int) (lx : xb < w.heap.size) (o0 : -1 ≤ o) (o1 : o ≤ 1) (cx0 : w.cell? ⟨xb, 0, none⟩ = some (.bool h)) (cy0 : w.cell? ⟨yb, 0, none⟩ = some (.bool h)) (cx1 : w.cell? ⟨xb, 1, none⟩ = some u) (cy1 : w.cell? ⟨yb, 1, none⟩ = some v)
    (hcm : ∀ W, Below w.heap.size w W → Calls Tryd.prog 37 #[u, v] W fun e w' => e = .returned (.int .i64 o) ∧ Below W.heap.size W w') :
    Calls Tryd.prog 27 #[.pointer (some ⟨xb, 0, none⟩), .pointer (some ⟨yb, 0, none⟩)] w fun e w' => e = .returned (.int .i64 (if h then -o else o)) ∧ Below w.heap.size w w' := by
  have Cm : Hid (∀ W, Below w.heap.size w W → Calls Tryd.prog 37 #[u, v] W fun e w' => e = .returned (.int .i64 o) ∧ Below W.heap.size W w') := hcm
  have Cx0 : Hid (w.cell? ⟨xb, 0, none⟩ = some (.bool h)) := cx0
  have Lx : Hid (xb < w.heap.size) := lx
  clear hcm lx
  cases h
  all_goals
    go_enter Tryd.func27, Tryd.ntmps27
    go_wp2
    go_quiet (fail)
    go_wp2
    go_region_with (go_at_call 37; refine Calls.mono (Cm.out _ (below_drewN (Below.refl _ _) _)) ?_; rintro e w1 ⟨rfl, hb1⟩)
    all_goals
      have b1 : Below w.heap.size w w1 := (below_drewN (Below.refl _ _) _).trans hb1
      have c2 : w1.cell? ⟨xb, 0, none⟩ = some _ := (b1.cell (p := ⟨xb, 0, none⟩) Lx).trans Cx0.out
      have Hb1 : Hid (Below w.heap.size w w1) := b1
      clear b1 hb1
      go_wp2
      go_ret
      exact ⟨rfl, Hb1⟩

theorem int_cmp (xb yb : Nat) (x y : Int) (w : World) (hx : IntAt w xb x) (hy : IntAt w yb y) (x0 : -79228162514264337593543950336 < x) (x1 : x < 79228162514264337593543950336) (y0 : -79228162514264337593543950336 < y) (y1 : y < 79228162514264337593543950336) :
    Calls Tryd.prog 27 #[.pointer (some ⟨xb, 0, none⟩), .pointer (some ⟨yb, 0, none⟩)] w fun e w' => e = .returned (.int .i64 (ord x y)) ∧ Below w.heap.size w w' := by
  obtain ⟨u, ds, cx0, cx1, hu, hd, vd, lx⟩ := hx.open
  obtain ⟨v, es, cy0, cy1, hv, he, ve, ly⟩ := hy.open
  by_cases hs : (x < 0 ↔ y < 0)
  · have e1 : decide (y < 0) = decide (x < 0) := by simp [hs]
    rw [e1] at cy0
    have ob := ord_bd (Bg.val ds) (Bg.val es)
    refine (cmp_join xb yb w (decide (x < 0)) u v (ord (Bg.val ds) (Bg.val es)) lx ob.1 ob.2 cx0 cy0 cx1 cy1 (fun W hb => cmp_any u v ds es W (hu.below hb) (hv.below hb) hd he (len_of3 ds x hd vd x0 x1) (len_of3 es y he ve y0 y1))).mono ?_
    rintro e w1 ⟨rfl, hb⟩
    refine ⟨?_, hb⟩
    rw [vd, ve, ord_abs x y hs]
  · have e1 : decide (y < 0) = !decide (x < 0) := by
      by_cases h1 : x < 0 <;> by_cases h2 : y < 0 <;> simp [h1, h2] at hs ⊢
    rw [e1] at cy0
    refine (cmp_part xb yb w (decide (x < 0)) cx0 cy0).mono ?_
    rintro e w1 ⟨rfl, hb⟩
    refine ⟨?_, hb⟩
    have key : (if decide (x < 0) = true then (-1 : Int) else 1) = ord x y := by
      unfold ord
      by_cases h1 : x < 0
      · have h2 : ¬ y < 0 := fun h => hs ⟨fun _ => h, fun _ => h1⟩
        rw [if_pos (by simp [h1]), if_pos (by omega)]
      · have h2 : y < 0 := by
          by_cases h2 : y < 0
          · exact h2
          · exact absurd ⟨fun h => absurd h h1, fun h => absurd h h2⟩ hs
        rw [if_neg (by simp [h1]), if_neg (by omega), if_pos (by omega)]
    rw [key]
end Go.Proofs.YthdpafcodmlenaaDoor
