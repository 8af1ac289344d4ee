/- Numbers in bytes: fold. -/
import Derived.Test.YthccneiafofakaaDoorWdM
import Derived.Test.YthccneiafofakaaDoorByA
namespace Go.Proofs.YthccneiafofakaaDoor
open Go.RowKit
set_option linter.unusedVariables false

set_option maxHeartbeats 1000000 in
theorem fold_any (n : Int) (w : World) (h : Wd.In64 n) : Calls Tryd.prog 92 #[.int .i64 n] w fun e w' => e = .returned (.int .u64 (Wd.zz n : Nat)) ∧ w' = w := by
  unfold Wd.In64 at h
  by_cases h0 : n < 0
  · obtain ⟨m, hm⟩ : ∃ m : Nat, n = -((m : Int) + 1) := ⟨(-(n + 1)).toNat, by omega⟩
    subst hm
    have E : Hid (Wd.zz (-((m : Int) + 1)) = m * 2 + 1) := by unfold Hid Wd.zz; rw [if_pos h0]; omega
    have e1 : -((m : Int) + 1) + 1 = -(m : Int) := by omega
    have e2 : - -(m : Int) = m := by omega
    have w1 : IntKind.i64.wrap (-(m : Int)) = -(m : Int) := by rw [IntKind.wrap_i64]; omega
    have w2 : IntKind.i64.wrap (m : Int) = (m : Int) := by rw [IntKind.wrap_i64]; omega
    have hm : (m : Int) < 9223372036854775808 := by omega
    clear h
    go_enter Tryd.func92, Tryd.ntmps92
    go_wp2
    go_ret
    refine ⟨?_, rfl⟩
    rw [E.out]
    show Ending.returned (.int .u64 _) = _
    congr 2
    try simp only [w2]
    omega
  · obtain ⟨m, rfl⟩ : ∃ m : Nat, n = m := ⟨n.toNat, by omega⟩
    have E : Hid (Wd.zz (m : Int) = m * 2) := by unfold Hid Wd.zz; rw [if_neg h0]; omega
    have hm : (m : Int) < 9223372036854775808 := by omega
    clear h
    go_enter Tryd.func92, Tryd.ntmps92
    go_wp2
    go_ret
    refine ⟨?_, rfl⟩
    rw [E.out]
    show Ending.returned (.int .u64 _) = _
    congr 2
    try simp only [w2]
    omega
end Go.Proofs.YthccneiafofakaaDoor
