/- The reference: the digits of a number. -/
import Derived.Test.YtdmpeagnbpdidaaDoorBig3
import Derived.Test.YtdmpeagnbpdidaaDoorBigT
import Derived.Test.YtdmpeagnbpdidaaDoorBigU
import Derived.Test.YtdmpeagnbpdidaaDoorTxM
namespace Go.Proofs.YtdmpeagnbpdidaaDoor
open Go.RowKit Tx
set_option linter.unusedVariables false

theorem make_1 (w : World) : (Instr.makeSlice 128 (.int .i64 1) (.int .i64 1)).run Tryd.prog w = .ok (.slice (some ⟨w.heap.size, 0, none⟩) 1 1) (w.alloc (.cells #[.int .u32 0] 132)) := by kernel_rfl

theorem or_zero (x : Int) (h0 : 0 ≤ x) (h1 : x < 4294967296) : bits .or .u64 0 x = x := by
  rw [u64_or 0 x (by omega) (by omega) h0 (by omega)]
  simp
  omega

set_option maxRecDepth 100000 in
set_option maxHeartbeats 1000000 in
theorem small_one (b c : Nat) (x : Nat) (w : World) (hx : x < 4294967296) (hb : b < w.heap.size) (h0 : w.cell? ⟨b, 0, none⟩ = some (.int .u32 (x : Nat))) :
    Calls Tryd.prog 69 #[.slice (some ⟨b, 0, none⟩) 1 c, .int .u32 10] w fun e w' => ∃ v ds, e = .returned (.tuple #[v, .int .u32 ((x % 10 : Nat) : Int)]) ∧ Sl w' v ds ∧ Bg.Nrm ds ∧ Bg.val ds = ((x / 10 : Nat) : Int) ∧ Below w.heap.size w w' := by
  have mk := make_1
  have ho := or_zero (x : Int) (by omega) (by omega)
  have e1 : (x : Int) / 10 = ((x / 10 : Nat) : Int) := rfl
  have e2 : (x : Int) % 10 = ((x % 10 : Nat) : Int) := rfl
  obtain ⟨q, hq⟩ : ∃ q, x / 10 = q := ⟨_, rfl⟩
  obtain ⟨r, hr⟩ : ∃ r, x % 10 = r := ⟨_, rfl⟩
  have hq1 : q < 4294967296 := by omega
  have hr1 : r < 10 := by omega
  rw [hq] at e1 ⊢
  rw [hr] at e2 ⊢
  clear hq hr
  go_enter Tryd.func69, Tryd.ntmps69
  go_wp2
  refine wp_loop_rounds 2 ?_
  rw [rounds_succ]
  go_wp2
  rw [rounds_succ]
  go_wp2_with fail
  refine (trim_sl w.heap.size 1 1 [(q : Int)] _ rfl (Bg.Wds.cons ⟨by omega, by omega⟩ Bg.Wds.nil) (by omega) (by omega) (by simp) (fun i d hd => by match i, hd with | 0, hd => simp at hd; subst hd; simp)).mono ?_
  rintro e w1 ⟨v, ds, rfl, hs, hn, hv, rfl⟩
  have Hs : Hid (Sl _ v ds) := hs
  have Hn : Hid (Bg.Nrm ds) := hn
  have Hv : Hid (Bg.val ds = (q : Int)) := by
    unfold Hid
    rw [hv]
    simp [Bg.val]
  clear hs hn hv
  go_wp2
  go_ret2
  exact ⟨v, ds, rfl, Hs, Hn, Hv, (Below.refl _ _).alloc (Nat.le_refl _) _⟩
end Go.Proofs.YtdmpeagnbpdidaaDoor
