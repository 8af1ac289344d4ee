/- A number as text. -/
import Derived.Test.YtkceccajamdbjaaDoorOsA
import Derived.Test.YtkceccajamdbjaaDoorTxM
import Derived.Test.YtkceccajamdbjaaDoorIntsR
import Derived.Test.YtkceccajamdbjaaDoorShelf
import Derived.Lib.ItoaMem
import Derived.Lib.Join
namespace Go.Proofs.YtkceccajamdbjaaDoor
open Go.RowKit
set_option linter.unusedVariables false

/-- the table of powers of ten is laid. -/
def Pw (w : World) : Prop := Lib.TabIs Tryd.prog w "internal/strconv.uint64pow10" .u64 Lib.pow10Tab
theorem pw_glob : Tryd.prog.globalNamed "internal/strconv.uint64pow10" = some 3 := by kernel_rfl
theorem var_at {P : Program} {W : World} {n : String} {cs : Array Value} {g : Nat} (hg : P.globalNamed n = some g) (h : W.var? P n = some cs) : ∃ t f, W.heap[g]? = some (.cells cs t f) := by
  unfold World.var? at h
  rw [hg] at h
  simp only [Option.bind_some] at h
  split at h
  · rename_i c t f e
    injection h with h
    subst h
    exact ⟨t, f, e⟩
  · cases h
theorem Pw.below {w w' : World} (h : Pw w) (hb : Below w.heap.size w w') : Pw w' := by
  obtain ⟨t, f, e⟩ := var_at pw_glob h
  have e2 := hb.block _ (lt_of_block e)
  unfold Pw Lib.TabIs World.var? at *
  rw [pw_glob] at h ⊢
  simp only [Option.bind_some] at h ⊢
  rw [e2]
  exact h
theorem dig_dec (n : Nat) : Lib.decDigits n = Tx.dig n := by
  induction n using Nat.strongRecOn with
  | ind n ih =>
    by_cases h : n < 10
    · rw [Lib.decDigits, dif_pos h, Tx.dig_small h]
    · rw [Lib.decDigits, dif_neg h, Tx.dig_big h, ih (n / 10) (by omega)]
theorem join_tx : ∀ (ws : List (List UInt8)), Lib.join ws [32] = Tx.join 32 ws
  | [] => rfl
  | [w] => by rw [Lib.join_one]; rfl
  | w :: v :: ws => by
    have := join_tx (v :: ws)
    rw [Tx.join_cons (by simp), ← this, Lib.join_cons, Lib.join_cons]
    simp [Lib.joinTail]
theorem itoa_any (n : Nat) (hn : n ≤ 1000000) (w : World) (hw : Pw w) :
    Calls Tryd.prog 47 #[.int .i64 (n : Nat)] w fun e w' => e = .returned (.string ⟨(Tx.dig n).toArray⟩) ∧ Below w.heap.size w w' := by
  refine (Tryd.strconv_Itoa (n : Int) (by omega) (by omega) w hw).mono ?_
  rintro e w' ⟨rfl, k, os, rfl⟩
  rw [Lib.itoa_nonneg, dig_dec]
  exact ⟨rfl, rfl, rfl, rfl, by simp [Sort.grow], fun i hi => by
    show (w.heap ++ os)[i]? = _
    rw [Array.getElem?_append, if_pos hi]⟩
end Go.Proofs.YtkceccajamdbjaaDoor
