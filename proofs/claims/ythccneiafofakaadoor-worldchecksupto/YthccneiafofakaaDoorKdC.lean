/- The program's kinds: their numbers, and whether these are within bounds. -/
import Derived.Test.YthccneiafofakaaDoorKdB
namespace Go.Proofs.YthccneiafofakaaDoor
open Go.RowKit
set_option linter.unusedVariables false

def KV.arr (k : KV) : Value := .agg #[.int .i64 k.n0, .int .i64 k.n1, .int .i64 k.n2, .int .i64 k.n3, .int .i64 k.n4, .int .i64 k.n5, .int .i64 k.n6, .int .i64 k.n7]
set_option maxHeartbeats 1000000 in
theorem nums_any (k : KV) (w : World) :
    Calls Tryd.prog 156 #[k.val] w fun e w' => e = .returned k.arr ∧ Below w.heap.size w w' := by
  obtain ⟨kb, n0, n1, n2, n3, n4, n5, n6, n7, kf, kt⟩ := k
  unfold KV.val KV.arr
  go_enter Tryd.func156, Tryd.ntmps156
  go_wp2
  refine bodyPost_ret (v := .agg #[.int .i64 n0, .int .i64 n1, .int .i64 n2, .int .i64 n3, .int .i64 n4, .int .i64 n5, .int .i64 n6, .int .i64 n7]) (by simp [results, Tryd.results156, go_sem]) rfl ⟨rfl, ?_⟩
  exact ((Below.refl _ _).alloc (Nat.le_refl _) _).alloc (by simp) _

theorem idx8 (cs : Array Value) (p : Nat) (x : Int) (hp : p < 8) (h : cs[p]? = some (.int .i64 x)) (W : World) : (Instr.index 223 (.agg cs) (.int .i64 (p : Int))).run Tryd.prog W = .ok (.int .i64 x) W := by
  have h1 : (0 : Int) ≤ p ∧ (p : Int) < 8 := by omega
  have hs : p < cs.size := (Array.getElem?_eq_some_iff.1 h).1
  unfold Instr.index
  simp [go_sem, h1]
  rw [if_pos hp, h]
  simp [go_sem]
def KV.ns (k : KV) : List Int := [k.n0, k.n1, k.n2, k.n3, k.n4, k.n5, k.n6, k.n7]
set_option maxRecDepth 100000 in
set_option maxHeartbeats 4000000 in
theorem inb_any (k : KV) (w : World) :
    Calls Tryd.prog 133 #[k.val] w fun e w' => e = .returned (.bool (decide (Kd.numsFault k.ns = 0))) ∧ Below w.heap.size w w' := by
  have NA := nums_any k
  obtain ⟨kb, n0, n1, n2, n3, n4, n5, n6, n7, kf, kt⟩ := k
  have R : Hid (Kd.numsFault (KV.ns ⟨kb, n0, n1, n2, n3, n4, n5, n6, n7, kf, kt⟩) = if [n0, n1, n2, n3, n4, n5, n6, n7].any (fun x => decide (x < 0 ∨ 1000 < x)) then 1 else if n0 < 1 ∨ 4 < n4 ∨ 12 < n2 ∨ 12 < n3 then 1 else 0) := rfl
  generalize Kd.numsFault (KV.ns ⟨kb, n0, n1, n2, n3, n4, n5, n6, n7, kf, kt⟩) = r at *
  unfold KV.val KV.arr at *
  simp only at NA
  have NA' : Hid (∀ w : World, Calls Tryd.prog 156 #[.agg #[.string kb, .int .i64 n0, .int .i64 n1, .int .i64 n2, .int .i64 n3, .int .i64 n4, .int .i64 n5, .int .i64 n6, .int .i64 n7, .bool kf, .bool kt]] w fun e w' => e = .returned (.agg #[.int .i64 n0, .int .i64 n1, .int .i64 n2, .int .i64 n3, .int .i64 n4, .int .i64 n5, .int .i64 n6, .int .i64 n7]) ∧ Below w.heap.size w w') := NA
  clear NA
  go_enter Tryd.func133, Tryd.ntmps133
  have B1 : Hid (Below w.heap.size w (w.alloc (Obj.cells #[.string kb, .int .i64 n0, .int .i64 n1, .int .i64 n2, .int .i64 n3, .int .i64 n4, .int .i64 n5, .int .i64 n6, .int .i64 n7, .bool kf, .bool kt] 58))) := (Below.refl _ _).alloc (Nat.le_refl _) _
  have X1 : Hid (Kc (w.alloc (Obj.cells #[.string kb, .int .i64 n0, .int .i64 n1, .int .i64 n2, .int .i64 n3, .int .i64 n4, .int .i64 n5, .int .i64 n6, .int .i64 n7, .bool kf, .bool kt] 58)) ⟨w.heap.size, 0, none⟩ ⟨kb, n0, n1, n2, n3, n4, n5, n6, n7, kf, kt⟩) := Kc.mk' ⟨kb, n0, n1, n2, n3, n4, n5, n6, n7, kf, kt⟩ rfl
  go_wp2_with fail
  refine (NA'.out _).mono ?_
  rintro e w2 ⟨rfl, b2⟩
  have X2 : Hid (Kc w2 ⟨w.heap.size, 0, none⟩ ⟨kb, n0, n1, n2, n3, n4, n5, n6, n7, kf, kt⟩) := X1.out.below b2 X1.out.lt
  have B2 : Hid (Below w.heap.size w w2) := B1.out.trans (b2.mono B1.out.size)
  clear b2 B1 X1 NA'
  obtain ⟨ns, hns⟩ : ∃ ns, [n0, n1, n2, n3, n4, n5, n6, n7] = ns := ⟨_, rfl⟩
  have Hns : Hid ([n0, n1, n2, n3, n4, n5, n6, n7] = ns) := hns
  have nl : Hid (ns.length = 8) := by rw [← hns]; rfl
  rw [hns] at R
  clear hns
  go_wp2_with fail
  go_loop [7] (fun j => ∃ p : Nat, p ≤ 8 ∧ j = .int .i64 (p : Nat) ∧ (ns.take p).any (fun x => decide (x < 0 ∨ 1000 < x)) = false) (fun j => 8 - (intOf j).toNat)
  case atStart => exact ⟨0, Nat.zero_le _, rfl, by simp⟩
  case round =>
    obtain ⟨p, hp, rfl, hany⟩ := hrel
    have An : Hid ((ns.take p).any (fun x => decide (x < 0 ∨ 1000 < x)) = false) := hany
    clear hany
    by_cases hp8 : p = 8
    · have R2 : Hid (r = if n0 < 1 ∨ 4 < n4 ∨ 12 < n2 ∨ 12 < n3 then 1 else 0) := by
        have h9 := An.out
        rw [List.take_of_length_le (by rw [nl.out, hp8]; exact Nat.le_refl _)] at h9
        unfold Hid
        rw [R.out, if_neg (by rw [h9]; decide)]
      have z1 : w2.cell? ⟨w.heap.size, 1, none⟩ = some (.int .i64 n0) := X2.out.c1
      have z3 : w2.cell? ⟨w.heap.size, 3, none⟩ = some (.int .i64 n2) := X2.out.c3
      have z4 : w2.cell? ⟨w.heap.size, 4, none⟩ = some (.int .i64 n3) := X2.out.c4
      have z5 : w2.cell? ⟨w.heap.size, 5, none⟩ = some (.int .i64 n4) := X2.out.c5
      subst hp8
      clear R An X2
      by_cases t1 : 0 < n0
      · by_cases t2 : n4 ≤ 4
        · by_cases t3 : n2 ≤ 12
          · by_cases t4 : n3 ≤ 12
            · have E : Hid (decide (r = 0) = true) := by unfold Hid; rw [R2.out, if_neg (by omega)]; rfl
              go_wp2
              go_ret
              exact ⟨by rw [E.out]; rfl, B2⟩
            · have E : Hid (decide (r = 0) = false) := by unfold Hid; rw [R2.out, if_pos (by omega)]; rfl
              go_wp2
              go_ret
              exact ⟨by rw [E.out]; rfl, B2⟩
          · have E : Hid (decide (r = 0) = false) := by unfold Hid; rw [R2.out, if_pos (by omega)]; rfl
            go_wp2
            go_ret
            exact ⟨by rw [E.out]; rfl, B2⟩
        · have E : Hid (decide (r = 0) = false) := by unfold Hid; rw [R2.out, if_pos (by omega)]; rfl
          go_wp2
          go_ret
          exact ⟨by rw [E.out]; rfl, B2⟩
      · have E : Hid (decide (r = 0) = false) := by unfold Hid; rw [R2.out, if_pos (by omega)]; rfl
        go_wp2
        go_ret
        exact ⟨by rw [E.out]; rfl, B2⟩
    · have hp9 : p < 8 := by omega
      obtain ⟨x, hx⟩ : ∃ x, ns[p]? = some x := ⟨_, List.getElem?_eq_getElem (by rw [nl.out]; exact hp9)⟩
      have As : Hid ((ns.take (p + 1)).any (fun x => decide (x < 0 ∨ 1000 < x)) = decide (x < 0 ∨ 1000 < x)) := by
        obtain ⟨hi, e⟩ := List.getElem?_eq_some_iff.1 hx
        unfold Hid
        rw [List.take_succ_eq_append_getElem hi, List.any_append, An.out, e]
        simp
      have ax : (#[.int .i64 n0, .int .i64 n1, .int .i64 n2, .int .i64 n3, .int .i64 n4, .int .i64 n5, .int .i64 n6, .int .i64 n7] : Array Value)[p]? = some (.int .i64 x) := by
        have h9 : (ns.map (Value.int .i64)).toArray[p]? = some (.int .i64 x) := by simp [hx]
        rw [← Hns.out] at h9
        exact h9
      have hix := idx8 _ p x hp9 ax
      clear ax
      have Mx : Hid (x ∈ ns) := List.mem_of_getElem? hx
      clear hx
      by_cases t : x < 0 ∨ 1000 < x
      · have E : Hid (decide (r = 0) = false) := by
          unfold Hid
          rw [R.out, if_pos (List.any_eq_true.2 ⟨x, Mx.out, by simpa using t⟩)]; rfl
        go_wp2_with (go_at_call 152; refine (kwin_no _ _ _ _ t).mono ?_; rintro e w' ⟨rfl, rfl⟩)
        go_ret
        exact ⟨by rw [E.out]; rfl, B2⟩
      · have A2 : Hid ((ns.take (p + 1)).any (fun x => decide (x < 0 ∨ 1000 < x)) = false) := by unfold Hid; rw [As.out, decide_eq_false t]
        go_wp2_with (go_at_call 152; refine (kwin_yes _ _ _ _ (by omega) (by omega)).mono ?_; rintro e w' ⟨rfl, rfl⟩)
        go_round
        case rel => exact ⟨p + 1, by omega, by go_num, A2⟩
        case measure => simp [intOf]; omega
end Go.Proofs.YthccneiafofakaaDoor
