/- Whole numbers of any size: mul, add, sub, plain, div, of lists of few words. -/
import Derived.Test.YthdpafcodmlenaaDoorBig7
import Derived.Deep.RegionWith
namespace Go.Proofs.YthdpafcodmlenaaDoor
open Go.RowKit

/-- words that are there: where they lie. -/
theorem Sl.at {w : World} {v : Value} {ds : List Int} (h : Sl w v ds) (hn : ds ≠ []) : ∃ b c, v = .slice (some ⟨b, 0, none⟩) ds.length c ∧ b < w.heap.size ∧ ∀ i d, ds[i]? = some d → w.cell? ⟨b, i, none⟩ = some (.int .u32 d) := by
  rcases h with ⟨h, -⟩ | ⟨b, cap, h1, -, -, h4, h5⟩
  · exact absurd h hn
  · exact ⟨b, cap, h1, h4, h5⟩

set_option maxHeartbeats 400000 in
theorem mul_none (a b : Option Addr) (n m ca cb : Nat) (w : World) (h : n = 0 ∨ m = 0) :
    Calls Tryd.prog 23 #[.slice a n ca, .slice b m cb] w fun e w' => e = .returned (.slice none 0 0) ∧ w' = w := by
  by_cases hn : n = 0
  · subst hn
    go_enter Tryd.func23, Tryd.ntmps23
    go_wp2
    go_ret
    exact ⟨rfl, rfl⟩
  · obtain rfl : m = 0 := by omega
    have h0 : ((n : Int) == 0) = false := beq_eq_false_iff_ne.2 (by omega)
    go_enter Tryd.func23, Tryd.ntmps23
    go_wp2
    go_ret
    exact ⟨rfl, rfl⟩

theorem two_words (ds : List Int) (h : ds.length ≤ 2) : ds = [] ∨ (∃ x, ds = [x]) ∨ ∃ x y, ds = [x, y] := by
  match ds, h with
  | [], _ => exact .inl rfl
  | [x], _ => exact .inr (.inl ⟨x, rfl⟩)
  | [x, y], _ => exact .inr (.inr ⟨x, y, rfl⟩)

theorem val1 (x : Int) : Bg.val [x] = x := by simp [Bg.val]
theorem val2 (x y : Int) : Bg.val [x, y] = x + 4294967296 * y := by simp [Bg.val]
theorem val3 (x y z : Int) : Bg.val [x, y, z] = x + 4294967296 * (y + 4294967296 * z) := by simp [Bg.val]

theorem len1 (x : Int) : [x].length = 1 := rfl
theorem len2 (x y : Int) : [x, y].length = 2 := rfl
theorem len3 (x y z : Int) : [x, y, z].length = 3 := rfl

theorem mul_sl (u v : Value) (ds es : List Int) (w : World) (hu : Sl w u ds) (hv : Sl w v es) (hd : Bg.Nrm ds) (he : Bg.Nrm es) (ld : ds.length ≤ 2) (le : es.length ≤ 2) :
    Calls Tryd.prog 23 #[u, v] w fun e w' => ∃ t fs, e = .returned t ∧ Sl w' t fs ∧ Bg.Nrm fs ∧ Bg.val fs = Bg.val ds * Bg.val es ∧ Below w.heap.size w w' := by
  by_cases h0 : ds = [] ∨ es = []
  · obtain ⟨a, c, rfl, -⟩ := hu.form
    obtain ⟨b, c', rfl, -⟩ := hv.form
    refine (mul_none a b ds.length es.length c c' w (by rcases h0 with rfl | rfl; exact .inl rfl; exact .inr rfl)).mono ?_
    rintro e w1 ⟨rfl, rfl⟩
    exact ⟨_, [], rfl, .inl ⟨rfl, rfl⟩, Bg.nrm_nil, by rcases h0 with rfl | rfl <;> simp [Bg.val], Below.refl _ _⟩
  · obtain ⟨p, cp, rfl, hp, hpc⟩ := hu.at (fun h => h0 (.inl h))
    obtain ⟨q, cq, rfl, hq, hqc⟩ := hv.at (fun h => h0 (.inr h))
    rcases two_words ds ld with rfl | ⟨a0, rfl⟩ | ⟨a0, a1, rfl⟩
    · exact absurd (.inl rfl) h0
    · rcases two_words es le with rfl | ⟨b0, rfl⟩ | ⟨b0, b1, rfl⟩
      · exact absurd (.inr rfl) h0
      · rw [val1, val1, len1, len1]
        exact mul_11 p q cp cq _ _ w (hd.1 _ (by simp)) (he.1 _ (by simp)) hp hq (hpc 0 _ rfl) (hqc 0 _ rfl)
      · rw [val1, val2, len1, len2]
        exact mul_12 p q cp cq _ _ _ w (hd.1 _ (by simp)) (he.1 _ (by simp)) (he.1 _ (by simp)) hp hq (hpc 0 _ rfl) (hqc 0 _ rfl) (hqc 1 _ rfl)
    · rcases two_words es le with rfl | ⟨b0, rfl⟩ | ⟨b0, b1, rfl⟩
      · exact absurd (.inr rfl) h0
      · rw [val1, val2, len1, len2]
        exact mul_21 p q cp cq _ _ _ w (hd.1 _ (by simp)) (hd.1 _ (by simp)) (he.1 _ (by simp)) hp hq (hpc 0 _ rfl) (hpc 1 _ rfl) (hqc 0 _ rfl)
      · rw [val2, val2, len2, len2]
        exact mul_22 p q cp cq _ _ _ _ w (hd.1 _ (by simp)) (hd.1 _ (by simp)) (he.1 _ (by simp)) (he.1 _ (by simp)) hp hq (hpc 0 _ rfl) (hpc 1 _ rfl) (hqc 0 _ rfl) (hqc 1 _ rfl)

/-- a sum of at most two words and one. -/
theorem add_sl (u v : Value) (ds es : List Int) (w : World) (hu : Sl w u ds) (hv : Sl w v es) (hd : Bg.Nrm ds) (he : Bg.Nrm es) (ld : ds.length ≤ 2) (d0 : ds ≠ []) (le : es.length = 1) :
    Calls Tryd.prog 54 #[u, v] w fun e w' => ∃ t fs, e = .returned t ∧ Sl w' t fs ∧ Bg.Nrm fs ∧ Bg.val fs = Bg.val ds + Bg.val es ∧ Below w.heap.size w w' := by
  obtain ⟨p, cp, rfl, hp, hpc⟩ := hu.at d0
  obtain ⟨q, cq, rfl, hq, hqc⟩ := hv.at (fun h => by rw [h] at le; simp at le)
  rcases two_words es (by omega) with rfl | ⟨b0, rfl⟩ | ⟨b0, b1, rfl⟩
  · simp at le
  · rcases two_words ds ld with rfl | ⟨a0, rfl⟩ | ⟨a0, a1, rfl⟩
    · exact absurd rfl d0
    · rw [val1, val1, len1, len1]
      exact add_11 p cp cq q _ _ w (hd.1 _ (by simp)) (he.1 _ (by simp)) hp hq (hpc 0 _ rfl) (hqc 0 _ rfl)
    · rw [val2, val1, len2, len1]
      exact add_21 p cp cq q _ _ _ w (hd.1 _ (by simp)) (hd.1 _ (by simp)) (he.1 _ (by simp)) hp hq (hpc 0 _ rfl) (hpc 1 _ rfl) (hqc 0 _ rfl)
  · simp at le

/-- a difference of at most two words each; nothing from more than one. -/
theorem sub_sl (u v : Value) (ds es : List Int) (w : World) (hu : Sl w u ds) (hv : Sl w v es) (hd : Bg.Nrm ds) (he : Bg.Nrm es) (ld : ds.length ≤ 2) (d0 : ds ≠ []) (e0 : es = [] → ds.length = 1) (h : Bg.val es ≤ Bg.val ds) :
    Calls Tryd.prog 55 #[u, v] w fun e w' => ∃ t fs, e = .returned t ∧ Sl w' t fs ∧ Bg.Nrm fs ∧ Bg.val fs = Bg.val ds - Bg.val es ∧ Below w.heap.size w w' := by
  have le : es.length ≤ ds.length := by
    rcases Nat.lt_or_ge ds.length es.length with hl | hl
    · have := Bg.lt_of_len ds es hd he hl
      omega
    · exact hl
  obtain ⟨p, cp, rfl, hp, hpc⟩ := hu.at d0
  by_cases hE : es = []
  · subst hE
    obtain ⟨b, c', rfl, -⟩ := hv.form
    rcases two_words ds ld with rfl | ⟨a0, rfl⟩ | ⟨a0, a1, rfl⟩
    · exact absurd rfl d0
    · rw [val1, len1]
      exact sub_10 p cp c' b _ w (hd.1 _ (by simp)) hp (hpc 0 _ rfl)
    · exact absurd (e0 rfl) (by simp)
  · obtain ⟨q, cq, rfl, hq, hqc⟩ := hv.at hE
    rcases two_words ds ld with rfl | ⟨a0, rfl⟩ | ⟨a0, a1, rfl⟩
    · exact absurd rfl d0
    · rcases two_words es (by simp at le; omega) with rfl | ⟨b0, rfl⟩ | ⟨b0, b1, rfl⟩
      · exact absurd rfl hE
      · rw [val1, val1] at h
        rw [val1, val1, len1, len1]
        exact sub_11 p cp cq q _ _ w (hd.1 _ (by simp)) (he.1 _ (by simp)) hp hq h (hpc 0 _ rfl) (hqc 0 _ rfl)
      · simp at le
    · rcases two_words es (by simpa using le) with rfl | ⟨b0, rfl⟩ | ⟨b0, b1, rfl⟩
      · exact absurd rfl hE
      · rw [val1, val2] at h
        rw [val2, val1, len2, len1]
        exact sub_21 p cp cq q _ _ _ w (hd.1 _ (by simp)) (hd.1 _ (by simp)) (he.1 _ (by simp)) hp hq h (hpc 0 _ rfl) (hpc 1 _ rfl) (hqc 0 _ rfl)
      · rw [val2, val2] at h
        rw [val2, val2, len2, len2]
        exact sub_22 p cp cq q _ _ _ _ w (hd.1 _ (by simp)) (hd.1 _ (by simp)) (he.1 _ (by simp)) (he.1 _ (by simp)) hp hq h (hpc 0 _ rfl) (hpc 1 _ rfl) (hqc 0 _ rfl) (hqc 1 _ rfl)

theorem plain_sl (v : Value) (ds : List Int) (w : World) (hv : Sl w v ds) (hd : Bg.Wds ds) (ld : ds.length ≤ 2) (d0 : ds ≠ []) :
    Calls Tryd.prog 49 #[v] w fun e w' => e = .returned (.int .u64 (Bg.val ds)) ∧ w' = w := by
  obtain ⟨p, cp, rfl, hp, hpc⟩ := hv.at d0
  rcases two_words ds ld with rfl | ⟨a0, rfl⟩ | ⟨a0, a1, rfl⟩
  · exact absurd rfl d0
  · rw [val1, len1]
    exact plain_one p cp _ w (hd _ (by simp)).1 (hd _ (by simp)).2 (hpc 0 _ rfl)
  · rw [val2, len2]
    exact plain_two p cp _ _ w (hd _ (by simp)).1 (hd _ (by simp)).2 (hd _ (by simp)).1 (hd _ (by simp)).2 (hpc 0 _ rfl) (hpc 1 _ rfl)
end Go.Proofs.YthdpafcodmlenaaDoor
