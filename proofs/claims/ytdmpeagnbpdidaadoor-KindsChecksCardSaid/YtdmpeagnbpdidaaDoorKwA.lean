/- The program's kinds: whether a unit is none. -/
import Derived.Test.YtdmpeagnbpdidaaDoorKdE
import Derived.Test.YtdmpeagnbpdidaaDoorKwM
namespace Go.Proofs.YtdmpeagnbpdidaaDoor
open Go.RowKit
set_option linter.unusedVariables false

theorem bdn {B : Nat} {w W : World} (h : Below B w W) : ∀ n, Below B w (W.drewN n)
  | 0 => h
  | n + 1 => (bdn h n).drew
set_option maxRecDepth 100000 in
set_option maxHeartbeats 4000000 in
theorem wrong_any (v : Value) (ks : List KV) (u : UnV) (b : Nat) (w : World) (h : Kl w v ks) (hc : w.cell? ⟨b, 0, none⟩ = some v) :
    Calls Tryd.prog 25 #[u.val, .pointer (some ⟨b, 0, none⟩)] w fun e w' => e = .returned (.bool (unBad ks u)) ∧ Below w.heap.size w w' := by
  have hl := cell_lt hc
  obtain ⟨R, hR⟩ : ∃ R, unBad ks u = R := ⟨_, rfl⟩
  have HR : Hid (unBad ks u = R) := hR
  rw [hR]
  clear hR
  obtain ⟨a, c, rfl, c1, c2, hx⟩ := h
  obtain ⟨id, player, kind, at_, life, load, task, goal⟩ := u
  unfold UnV.val
  have hw : IntKind.i64.wrap ((ks.length : Int) - 1) = (ks.length : Int) - 1 := by
    simp [IntKind.wrap, IntKind.bits, IntKind.signed]
    omega
  by_cases h1 : 0 ≤ player ∧ player ≤ 3
  · obtain ⟨h1a, h1b⟩ := h1
    by_cases h2 : 0 ≤ kind ∧ kind ≤ (ks.length : Int) - 1
    · obtain ⟨i, rfl⟩ : ∃ i : Nat, kind = i := ⟨kind.toNat, by omega⟩
      have hi : i < ks.length := by omega
      have hi' : (i : Int) < (ks.length : Int) := by omega
      obtain ⟨k, hk⟩ : ∃ k, ks[i]? = some k := ⟨_, List.getElem?_eq_getElem hi⟩
      obtain ⟨x, rfl, hx1, hx2⟩ := hx (by rintro rfl; simp at hi)
      have KC := hx2 i k hk
      have q1 : w.cell? ⟨(x.add (i * 11)).block, (x.add (i * 11)).off + 1, none⟩ = some (.int .i64 k.n0) := KC.c1
      have RB : Hid (R = decide (life < 0 ∨ k.n0 < life)) := by
        unfold Hid
        rw [← HR.out]
        unfold unBad
        rw [kindAt_nat, hk]
        simp only
        congr 1
        exact propext (by omega)
      generalize k.n0 = m at *
      have hx3 : (x.add (i * 11)).block < w.heap.size := by rw [add_block]; exact hx1
      have q1' : ∀ o, (w.alloc o).cell? ⟨(x.add (i * 11)).block, (x.add (i * 11)).off + 1, none⟩ = some (.int .i64 m) := fun o => by rw [((Below.refl w.heap.size w).alloc (Nat.le_refl _) o).cell (p := ⟨(x.add (i * 11)).block, (x.add (i * 11)).off + 1, none⟩) hx3]; exact q1
      clear hx2 hk KC HR hx
      by_cases h3 : 0 ≤ life ∧ life ≤ m
      · obtain ⟨h3a, h3b⟩ := h3
        have E : Hid (R = false) := by unfold Hid; rw [RB.out, decide_eq_false (by omega)]
        go_enter Tryd.func25, Tryd.ntmps25
        go_wp2_with fail
        go_quiet (first | (go_at_call 26; exact Calls.quiet_of_same (kwin_yes _ _ _ _ (by omega) (by omega))) | (go_at_call 26; exact Calls.quiet_of_same (kwin_no _ _ _ _ (by omega))))
        go_wp2
        go_ret
        exact ⟨by rw [E.out]; rfl, bdn ((Below.refl _ _).alloc (Nat.le_refl _) _) _⟩
      · have E : Hid (R = true) := by unfold Hid; rw [RB.out, decide_eq_true (by omega)]
        go_enter Tryd.func25, Tryd.ntmps25
        go_wp2_with fail
        go_quiet (first | (go_at_call 26; exact Calls.quiet_of_same (kwin_yes _ _ _ _ (by omega) (by omega))) | (go_at_call 26; exact Calls.quiet_of_same (kwin_no _ _ _ _ (by omega))))
        go_wp2
        go_ret
        exact ⟨by rw [E.out]; rfl, bdn ((Below.refl _ _).alloc (Nat.le_refl _) _) _⟩
    · have E : Hid (R = true) := by
        unfold Hid
        rw [← HR.out]
        unfold unBad
        have : kindAt ks kind = none := by
          unfold kindAt
          split
          · rfl
          · exact List.getElem?_eq_none (by omega)
        rw [this]
      clear hx
      go_enter Tryd.func25, Tryd.ntmps25
      go_wp2_with fail
      go_quiet (first | (go_at_call 26; exact Calls.quiet_of_same (kwin_yes _ _ _ _ (by omega) (by omega))) | (go_at_call 26; exact Calls.quiet_of_same (kwin_no _ _ _ _ (by omega))))
      go_wp2
      go_ret
      exact ⟨by rw [E.out]; rfl, bdn ((Below.refl _ _).alloc (Nat.le_refl _) _) _⟩
  · have E : Hid (R = true) := by
      unfold Hid
      rw [← HR.out]
      unfold unBad
      split
      · rfl
      · exact decide_eq_true (by simp only; omega)
    clear hx
    go_enter Tryd.func25, Tryd.ntmps25
    go_wp2_with fail
    go_quiet (first | (go_at_call 26; exact Calls.quiet_of_same (kwin_yes _ _ _ _ (by omega) (by omega))) | (go_at_call 26; exact Calls.quiet_of_same (kwin_no _ _ _ _ (by omega))))
    go_wp2
    go_ret
    exact ⟨by rw [E.out]; rfl, bdn ((Below.refl _ _).alloc (Nat.le_refl _) _) _⟩
end Go.Proofs.YtdmpeagnbpdidaaDoor
