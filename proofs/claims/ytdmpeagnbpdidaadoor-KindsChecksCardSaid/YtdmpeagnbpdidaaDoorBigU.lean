/- Whole numbers of any size: what trim does, at lists. -/
import Derived.Test.YtdmpeagnbpdidaaDoorBig2
namespace Go.Proofs.YtdmpeagnbpdidaaDoor
open Go.RowKit

theorem trim_sl (b n cap : Nat) (ds : List Int) (w : World) (hn : n = ds.length) (hw : Bg.Wds ds) (hcap : n ≤ cap) (hcap2 : cap ≤ 9223372036854775807) (hb : b < w.heap.size) (hc : ∀ i d, ds[i]? = some d → w.cell? ⟨b, i, none⟩ = some (.int .u32 d)) :
    Calls Tryd.prog 80 #[.slice (some ⟨b, 0, none⟩) n cap] w fun e w' => ∃ v ds', e = .returned v ∧ Sl w v ds' ∧ Bg.Nrm ds' ∧ Bg.val ds' = Bg.val ds ∧ w' = w := by
  subst hn
  refine (trim_any b cap ds w hw hcap hcap2 hc).mono ?_
  rintro e w1 ⟨m, hm, hz, hn, rfl, rfl⟩
  have hl : (ds.take m).length = m := by rw [List.length_take]; omega
  refine ⟨_, ds.take m, rfl, .inr ⟨b, cap, by rw [hl], by omega, hcap2, hb, fun i d hd => ?_⟩, Bg.trim_nrm _ _ hw hm hn, Bg.trim_val _ _ hz, rfl⟩
  rw [List.getElem?_take] at hd
  split at hd
  · exact hc i d hd
  · cases hd
end Go.Proofs.YtdmpeagnbpdidaaDoor
