/- Whole numbers of any size: what trim and words do. -/
import Derived.Test.YtdmpeagnbpdidaaDoorRows
import Derived.Test.YtdmpeagnbpdidaaDoorBigMath
import Derived.WalkKit
import Derived.WalkSpells
import Derived.WalkLawsBesides
import Derived.Deep.QuietTactic
import Derived.BigQuiet
namespace Go.Proofs.YtdmpeagnbpdidaaDoor
open Go.RowKit

/-- v is a slice of the words ds. -/
def Sl (w : World) (v : Value) (ds : List Int) : Prop :=
  (ds = [] ∧ v = .slice none 0 0) ∨ ∃ (b cap : Nat), v = .slice (some ⟨b, 0, none⟩) ds.length cap ∧ ds.length ≤ cap ∧ cap ≤ 9223372036854775807 ∧ b < w.heap.size ∧ ∀ i d, ds[i]? = some d → w.cell? ⟨b, i, none⟩ = some (.int .u32 d)

theorem Sl.below {w w' : World} {v : Value} {ds : List Int} (h : Sl w v ds) (hb : Below w.heap.size w w') : Sl w' v ds := by
  rcases h with h | ⟨b, cap, h1, h2, h3, h4, h5⟩
  · exact .inl h
  · refine .inr ⟨b, cap, h1, h2, h3, Nat.lt_of_lt_of_le h4 hb.size, fun i d hd => ?_⟩
    rw [hb.cell (p := ⟨b, i, none⟩) h4]
    exact h5 i d hd

set_option maxHeartbeats 400000 in
theorem trim_any (b cap : Nat) (ds : List Int) (w : World) (hw : Bg.Wds ds) (hcap : ds.length ≤ cap) (hcap2 : cap ≤ 9223372036854775807) (hc : ∀ i d, ds[i]? = some d → w.cell? ⟨b, i, none⟩ = some (.int .u32 d)) :
    Calls Tryd.prog 80 #[.slice (some ⟨b, 0, none⟩) ds.length cap] w fun e w' => ∃ m : Nat, m ≤ ds.length ∧ (∀ d ∈ ds.drop m, d = 0) ∧ (∀ d, 0 < m → ds[m - 1]? = some d → d ≠ 0) ∧ e = .returned (.slice (some ⟨b, 0, none⟩) m cap) ∧ w' = w := by
  have Hc : Hid (∀ i d, ds[i]? = some d → w.cell? ⟨b, i, none⟩ = some (.int .u32 d)) := hc
  clear hc
  go_enter Tryd.func80, Tryd.ntmps80
  go_wp2
  go_loop [3] (fun n => ∃ k : Nat, k ≤ ds.length ∧ n = .int .i64 k ∧ ∀ d ∈ ds.drop k, d = 0) (fun n => (intOf n).toNat)
  case atStart => exact ⟨ds.length, Nat.le_refl _, rfl, by simp⟩
  case round =>
    obtain ⟨k, hk, rfl, hz⟩ := hrel
    have Hz : Hid (∀ d ∈ ds.drop k, d = 0) := hz
    clear hz
    by_cases h0 : k = 0
    · subst h0
      go_wp2
      go_ret
      exact ⟨0, by omega, Hz, fun d h => absurd h (by omega), rfl, rfl⟩
    · obtain ⟨j, rfl⟩ : ∃ j, k = j + 1 := ⟨k - 1, by omega⟩
      obtain ⟨d, hd⟩ : ∃ d, ds[j]? = some d := ⟨ds[j], List.getElem?_eq_getElem (by omega)⟩
      have hcell := Hc.out j d hd
      have Hd : Hid (ds[j]? = some d) := hd
      clear hd
      have hdb := hw d (List.mem_of_getElem? Hd)
      obtain ⟨hd1, hd2⟩ := hdb
      by_cases hd0 : d = 0
      · subst hd0
        go_wp2
        go_round
        case rel =>
          refine ⟨j, by omega, by go_num, fun e he => ?_⟩
          rw [List.drop_eq_getElem_cons (by omega)] at he
          rcases List.mem_cons.1 he with rfl | he
          · have := Hd.out
            rw [List.getElem?_eq_getElem (by omega)] at this
            exact Option.some.inj this
          · exact Hz.out e he
        case measure => simp [intOf]
      · have hne : (d == 0) = false := beq_eq_false_iff_ne.2 hd0
        go_wp2
        go_ret
        refine ⟨j + 1, hk, Hz, fun e _ he => ?_, rfl, rfl⟩
        have := Hd.out.symm.trans he
        rw [Option.some.inj this] at hd0
        exact hd0
end Go.Proofs.YtdmpeagnbpdidaaDoor
