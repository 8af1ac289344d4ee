/- Whole numbers of any size: what words, give, SetInt64 and NewInt do. -/
import Derived.Test.YtdmpeagnbpdidaaDoorKeep
import Derived.Test.YtdmpeagnbpdidaaDoorBig1
namespace Go.Proofs.YtdmpeagnbpdidaaDoor
open Go.RowKit

theorem trim_two (b : Nat) (x y : Int) (w : World) (hx : 0 ≤ x ∧ x < 4294967296) (hy : 0 ≤ y ∧ y < 4294967296) (h0 : w.cell? ⟨b, 0, none⟩ = some (.int .u32 x)) (h1 : w.cell? ⟨b, 1, none⟩ = some (.int .u32 y)) :
    Calls Tryd.prog 80 #[.slice (some ⟨b, 0, none⟩) 2 2] w fun e w' => ∃ m : Nat, m ≤ 2 ∧ Bg.Nrm ([x, y].take m) ∧ Bg.val ([x, y].take m) = x + 4294967296 * y ∧ e = .returned (.slice (some ⟨b, 0, none⟩) m 2) ∧ w' = w := by
  have hw : Bg.Wds [x, y] := Bg.Wds.cons hx (Bg.Wds.cons hy Bg.Wds.nil)
  refine (trim_any b 2 [x, y] w hw (by simp) (by omega) ?_).mono ?_
  · intro i d hd
    match i, hd with
    | 0, hd => simp at hd; subst hd; exact h0
    | 1, hd => simp at hd; subst hd; exact h1
  · rintro e w1 ⟨m, hm, hz, hn, rfl, rfl⟩
    refine ⟨m, hm, Bg.trim_nrm _ _ hw hm hn, ?_, rfl, rfl⟩
    rw [Bg.trim_val _ _ hz]
    simp [Bg.val]

/-- the words of a number below 2^64. -/
theorem words_any (x : Int) (w : World) (h0 : 0 ≤ x) (h1 : x < 18446744073709551616) :
    Calls Tryd.prog 79 #[.int .u64 x] w fun e w' => ∃ v ds, Sl w' v ds ∧ Bg.Nrm ds ∧ Bg.val ds = x ∧ e = .returned v ∧ Below w.heap.size w w' := by
  have b1 : 0 ≤ x / 4294967296 ∧ x / 4294967296 < 4294967296 := by omega
  have b0 : 0 ≤ x % 4294967296 ∧ x % 4294967296 < 4294967296 := by omega
  go_enter Tryd.func79, Tryd.ntmps79
  go_wp2_with fail
  refine (trim_two w.heap.size (x % 4294967296) (x / 4294967296) _ b0 b1 (by simp) (by simp)).mono ?_
  rintro e w1 ⟨m, hm, hn, hv, rfl, rfl⟩
  have Hn : Hid (Bg.Nrm (List.take m [x % 4294967296, x / 4294967296])) := hn
  have Hv : Hid (Bg.val (List.take m [x % 4294967296, x / 4294967296]) = x) := by
    have : Bg.val (List.take m [x % 4294967296, x / 4294967296]) = x := by rw [hv]; omega
    exact this
  clear hn hv
  go_wp2
  go_ret
  refine ⟨_, List.take m [x % 4294967296, x / 4294967296], .inr ⟨w.heap.size, 2, ?_, ?_, by omega, by simp, ?_⟩, Hn, Hv, rfl, (Below.refl _ _).alloc (Nat.le_refl _) _⟩
  · have : (List.take m [x % 4294967296, x / 4294967296]).length = m := by rw [List.length_take]; simp; omega
    rw [this]
    rfl
  · rw [List.length_take]; simp; omega
  · intro i d hd
    rw [List.getElem?_take] at hd
    split at hd
    · match i, hd with
      | 0, hd => simp at hd; subst hd; simp
      | 1, hd => simp at hd; subst hd; simp
    · cases hd

theorem give_any (zb : Nat) (ng neg : Bool) (sl : Value) (a : Option Addr) (n c : Nat) (w : World) (h0 : w.cell? ⟨zb, 0, none⟩ = some (.bool ng)) (h1 : w.cell? ⟨zb, 1, none⟩ = some sl) (f0 : w.frozen? ⟨zb, 0, none⟩ = false) (f1 : w.frozen? ⟨zb, 1, none⟩ = false) :
    Calls Tryd.prog 78 #[.pointer (some ⟨zb, 0, none⟩), .bool neg, .slice a n c] w fun e w' => e = .returned (.pointer (some ⟨zb, 0, none⟩)) ∧ w' = (w.setCell ⟨zb, 1, none⟩ (.slice a n c)).setCell ⟨zb, 0, none⟩ (.bool (neg && decide (0 < n))) := by
  cases neg
  · go_enter Tryd.func78, Tryd.ntmps78
    go_wp2
    go_ret
    exact ⟨rfl, rfl⟩
  · by_cases hz : 0 < n
    · go_enter Tryd.func78, Tryd.ntmps78
      go_wp2
      go_ret
      refine ⟨rfl, ?_⟩
      simp [hz]
    · go_enter Tryd.func78, Tryd.ntmps78
      go_wp2
      go_ret
      refine ⟨rfl, ?_⟩
      simp [hz]

/-- a block for a number. -/
def Zb (w : World) (z : Nat) : Prop := ∃ (ng : Bool) (sl : Value), w.heap[z]? = some (.cells #[.bool ng, sl] 130 (0, 0))

/-- the number x stands in block z. -/
def IntAt (w : World) (z : Nat) (x : Int) : Prop := ∃ v ds, w.heap[z]? = some (.cells #[.bool (decide (x < 0)), v] 130 (0, 0)) ∧ Sl w v ds ∧ Bg.Nrm ds ∧ Bg.val ds = x.natAbs

theorem IntAt.zb {w : World} {z : Nat} {x : Int} (h : IntAt w z x) : Zb w z := by
  obtain ⟨v, ds, h1, -⟩ := h
  exact ⟨_, _, h1⟩

/-- words stay where a number's own block turns. -/
theorem Sl.kp {w w' : World} {v : Value} {ds : List Int} {z : Nat} (h : Sl w v ds) (hk : Kp z w w') (hz : Zb w z) : Sl w' v ds := by
  obtain ⟨ng, sl, hz⟩ := hz
  rcases h with h | ⟨b, cap, h1, h2, h3, h4, h5⟩
  · exact .inl h
  · refine .inr ⟨b, cap, h1, h2, h3, Nat.lt_of_lt_of_le h4 hk.size, fun i d hd => ?_⟩
    have hb : b ≠ z := by
      intro e
      subst e
      obtain ⟨x, hx⟩ : ∃ x, ds[0]? = some x := by
        cases ds with
        | nil => simp at hd
        | cons x xs => exact ⟨x, rfl⟩
      have := h5 0 x hx
      simp [World.cell?, hz] at this
    rw [World.cell?_of_block (w := w) (a := ⟨b, i, none⟩) (hk.block b h4 hb)]
    exact h5 i d hd

theorem IntAt.kp {w w' : World} {y z : Nat} {x : Int} (h : IntAt w y x) (hk : Kp z w w') (hz : Zb w z) (hne : y ≠ z) : IntAt w' y x := by
  obtain ⟨v, ds, h1, h2, h3, h4⟩ := h
  exact ⟨v, ds, by rw [hk.block y (lt_of_block h1) hne]; exact h1, h2.kp hk hz, h3, h4⟩

theorem IntAt.below {w w' : World} {y : Nat} {x : Int} (h : IntAt w y x) (hb : Below w.heap.size w w') : IntAt w' y x := by
  obtain ⟨v, ds, h1, h2, h3, h4⟩ := h
  exact ⟨v, ds, by rw [hb.block y (lt_of_block h1)]; exact h1, h2.below hb, h3, h4⟩

theorem Zb.below {w w' : World} {y : Nat} (h : Zb w y) (hb : Below w.heap.size w w') : Zb w' y := by
  obtain ⟨ng, sl, h1⟩ := h
  exact ⟨ng, sl, by rw [hb.block y (lt_of_block h1)]; exact h1⟩

theorem Zb.kp {w w' : World} {y z : Nat} (h : Zb w y) (hk : Kp z w w') (hne : y ≠ z) : Zb w' y := by
  obtain ⟨ng, sl, h1⟩ := h
  exact ⟨ng, sl, by rw [hk.block y (lt_of_block h1) hne]; exact h1⟩

/-- a sign and words, as a number. -/
def sgn (neg : Bool) (x : Int) : Int := if neg then -x else x

theorem give_int (z : Nat) (neg : Bool) (v : Value) (ds : List Int) (w : World) (hz : Zb w z) (hs : Sl w v ds) (hn : Bg.Nrm ds) :
    Calls Tryd.prog 78 #[.pointer (some ⟨z, 0, none⟩), .bool neg, v] w fun e w' => e = .returned (.pointer (some ⟨z, 0, none⟩)) ∧ IntAt w' z (sgn neg (Bg.val ds)) ∧ Kp z w w' := by
  have hz' := hz
  obtain ⟨ng, sl, hz⟩ := hz
  have key : ∃ a n c, v = .slice a n c ∧ n = ds.length := by
    rcases hs with ⟨rfl, rfl⟩ | ⟨b, cap, rfl, -⟩
    · exact ⟨_, _, _, rfl, rfl⟩
    · exact ⟨_, _, _, rfl, rfl⟩
  obtain ⟨a, n, c, hv, hl⟩ := key
  subst hv
  refine (give_any z ng neg sl a n c w (by simp [World.cell?, hz]) (by simp [World.cell?, hz]) (by simp [World.frozen?, hz]) (by simp [World.frozen?, hz])).mono ?_
  rintro e w1 ⟨rfl, rfl⟩
  have k1 : Kp z w ((w.setCell ⟨z, 1, none⟩ (.slice a n c)).setCell ⟨z, 0, none⟩ (.bool (neg && decide (0 < n)))) := (Kp.set w 1 _).trans (Kp.set _ 0 _)
  refine ⟨rfl, ⟨.slice a n c, ds, ?_, hs.kp k1 hz', hn, ?_⟩, k1⟩
  · have g1 := heap_setCell_same w z 1 _ _ (.slice a n c) hz
    have g2 := heap_setCell_same (w.setCell ⟨z, 1, none⟩ (.slice a n c)) z 0 _ _ (.bool (neg && decide (0 < n))) g1
    rw [g2]
    have e1 : (neg && decide (0 < n)) = decide (sgn neg (Bg.val ds) < 0) := by
      have h0 := Bg.val_nonneg ds hn.1
      by_cases hd : ds = []
      · subst hd; subst hl; cases neg <;> simp [sgn, Bg.val]
      · have h1 := Bg.val_pos ds hn hd
        have h2 : 0 < n := by rw [hl]; exact List.length_pos_iff.2 hd
        cases neg
        · simp only [sgn]; simp; omega
        · simp only [sgn, Bool.true_and]; simp [h2]; omega
    rw [e1]
    rfl
  · have h0 := Bg.val_nonneg ds hn.1
    unfold sgn
    split <;> omega
end Go.Proofs.YtdmpeagnbpdidaaDoor
