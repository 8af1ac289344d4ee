/- The reference: what is wrong with some kinds. · What the reference says of a field (cut out of RfA). · What the reference says of a step (cut out of RfN). · Worlds: the reference's Check. · The reference: what units are worth. · One more integer: the run itself. · What a walk is told of a slice of integers that came in. · What a walk is told of worlds and bytes that came in. · What a walk is told of kinds that came in. · What plain.Told and marchsame.Error answer of nil, and of an Errno: errors.As is walked at the target *api.Errno. · Lists of integers: what marchsame.Ints answers. · marchsame: the error that is told is the one that was asked for; lists are alike. · A region that draws its order, in which calls that change memory stand in one order, and what else there is reads what they leave: it may be walked in an order of one's own. · A region that draws its order: what reads, and calls in one order, first, in an order of one's own; then what turns what was read, each the only one that may come. -/
import Derived.Test.YtamgjhehnblbgaaDoorZScoreTells3
import Derived.Test.YtamgjhehnblbgaaDoorZScoreTells2
import Derived.Test.YtamgjhehnblbgaaDoorZScoreTells1
import Derived.Deep.DeepCutAuto
import Derived.StillTailTactics
import Derived.Laws.MakeOwn
import Derived.ProofKit
import Derived.OpenShut
import Derived.Deep.SlicePairs
import Derived.ChangeArms
import Derived.Test.YtamgjhehnblbgaaDoorRows
import Derived.WalkKit
import Derived.WalkSpells
import Derived.WalkLawsBesides
import Derived.LaidEql
import Derived.Stop.Asserts
import Derived.RowKitTokens
import Derived.StillTail
import Derived.Below
namespace Go.Proofs.YtamgjhehnblbgaaDoor
open Go.RowKit
set_option linter.unusedVariables false

theorem kindsGo_at {ks : List KV} {i : Nat} {k : KV} (h : ks[i]? = some k) : Kd.kindsGo ((ks.take i).map KV.k) ((ks.drop i).map KV.k) = if Kd.kindFault ((ks.take i).map KV.k) k.k = 0 then Kd.kindsGo ((ks.take (i + 1)).map KV.k) ((ks.drop (i + 1)).map KV.k) else Kd.kindFault ((ks.take i).map KV.k) k.k := by
  obtain ⟨hi, e⟩ := List.getElem?_eq_some_iff.1 h
  rw [List.drop_eq_getElem_cons hi, e, List.map_cons, Kd.kindsGo, List.take_succ_eq_append_getElem hi, e, List.map_append]
  rfl

set_option maxHeartbeats 1000000 in
theorem ref_kinds (v : Value) (ks : List KV) (w : World) (h : Kl w v ks) (hb : ∀ k ∈ ks, k.b.size ≤ 9223372036854775807) :
    Calls Tryd.prog 17 #[v] w fun e w' => e = .returned (.int .i64 (Kd.kindsFault (ks.map KV.k))) ∧ Below w.heap.size w w' := by
  have K0 : Hid (Kl w v ks) := h
  have Hb : Hid (∀ k ∈ ks, k.b.size ≤ 9223372036854775807) := hb
  obtain ⟨R, hR⟩ : ∃ R, Kd.kindsFault (ks.map KV.k) = R := ⟨_, rfl⟩
  have HR : Hid (Kd.kindsFault (ks.map KV.k) = R) := hR
  rw [hR]
  clear hR hb
  obtain ⟨a, c, rfl, c1, c2, -⟩ := h
  by_cases h8 : 8 < ks.length
  · have E : Hid (R = 4) := by unfold Hid; rw [← HR.out]; unfold Kd.kindsFault; rw [if_pos (by simpa using h8)]
    have h8' : (8 : Int) < (ks.length : Int) := by omega
    go_enter Tryd.func17, Tryd.ntmps17
    go_wp2
    go_ret
    exact ⟨by rw [E.out]; rfl, Below.refl _ _⟩
  · have h8' : ¬ (8 : Int) < (ks.length : Int) := by omega
    have R1 : Hid (Kd.kindsGo [] (ks.map KV.k) = R) := by unfold Hid; rw [← HR.out]; unfold Kd.kindsFault; rw [if_neg (by simpa using h8)]
    go_enter Tryd.func17, Tryd.ntmps17
    go_wp2_with fail
    go_loopw [3] (fun j W' => ∃ q : Nat, q ≤ ks.length ∧ j = .int .i64 (q : Nat) ∧ Kd.kindsGo ((ks.take q).map KV.k) ((ks.drop q).map KV.k) = R ∧ Below w.heap.size w W') (fun j _ => ks.length - (intOf j).toNat)
    case atStart => exact ⟨0, Nat.zero_le _, rfl, R1, Below.refl _ _⟩
    case round =>
      obtain ⟨q, hq, rfl, hg, hb⟩ := hrel
      have Gq : Hid (Kd.kindsGo ((ks.take q).map KV.k) ((ks.drop q).map KV.k) = R) := hg
      have B : Hid (Below w.heap.size w wr) := hb
      clear hg hb
      by_cases hql : q = ks.length
      · have E : Hid (R = 0) := by
          unfold Hid
          rw [← Gq.out, hql, List.drop_of_length_le (Nat.le_refl _)]
          rfl
        subst hql
        go_wp2
        go_ret
        exact ⟨by rw [E.out]; rfl, B⟩
      · have hqk : q < ks.length := by omega
        obtain ⟨k, hk⟩ : ∃ k, ks[q]? = some k := ⟨_, List.getElem?_eq_getElem hqk⟩
        have At : Hid (R = if Kd.kindFault ((ks.take q).map KV.k) k.k = 0 then Kd.kindsGo ((ks.take (q + 1)).map KV.k) ((ks.drop (q + 1)).map KV.k) else Kd.kindFault ((ks.take q).map KV.k) k.k) := by
          unfold Hid
          rw [← kindsGo_at hk]
          exact Gq.out.symm
        have CK := ref_kind (.slice a ks.length c) ks q k wr (K0.out.below B.out) hk (by omega) (Hb.out k (List.mem_of_getElem? hk))
        generalize Kd.kindFault ((ks.take q).map KV.k) k.k = F at *
        have CK' : Hid (Calls Tryd.prog 27 #[.slice a ks.length c, .int .i64 (q : Nat)] wr fun e w' => e = .returned (.int .i64 F) ∧ Below wr.heap.size wr w') := CK
        clear CK hk
        go_wp2_with fail
        refine Calls.mono CK'.out ?_
        rintro e w2 ⟨rfl, k2⟩
        have B2 : Hid (Below w.heap.size w w2) := B.out.trans (k2.mono B.out.size)
        clear k2 CK'
        by_cases hF : F = 0
        · have G2 : Hid (Kd.kindsGo ((ks.take (q + 1)).map KV.k) ((ks.drop (q + 1)).map KV.k) = R) := by
            unfold Hid
            have := At.out
            rw [if_pos hF] at this
            exact this.symm
          subst hF
          clear At
          go_wp2
          go_round
          case rel => exact ⟨q + 1, by omega, by go_num, G2, B2⟩
          case measure => simp [intOf]; omega
        · have E : Hid (R = F) := by
            unfold Hid
            have := At.out
            rw [if_neg hF] at this
            exact this
          clear At
          go_wp2
          go_ret
          exact ⟨by rw [E.out]; rfl, B2⟩
end Go.Proofs.YtamgjhehnblbgaaDoor

namespace Go.Proofs.YtamgjhehnblbgaaDoor
open Go.RowKit
set_option linter.unusedVariables false

theorem ret_int {k : IntKind} {a b : Int} (h : a = b) : Ending.returned (.int k a) = .returned (.int k b) := by rw [h]

set_option maxHeartbeats 1000000 in
theorem ref_cells (a b : Option Addr) (c d : Nat) (W H : Int) (gs os : List Int) (w : World) (w1 : 1 ≤ W) (w2 : W ≤ 12) (h1 : 1 ≤ H) (h2 : H ≤ 12) (hg : (gs.length : Int) = W * H) (ho : (os.length : Int) = W * H)
    (c1 : gs.length ≤ c) (c2 : c ≤ 9223372036854775807) (d1 : os.length ≤ d) (d2 : d ≤ 9223372036854775807) (ha : Cells w a gs) (hb : Cells w b os) :
    Calls Tryd.prog 18 #[.agg #[.int .i64 W, .int .i64 H, .slice a gs.length c, .slice b os.length d]] w fun e w' => e = .returned (.int .i64 (Fd.cellsFault gs os)) ∧ Below w.heap.size w w' := by
  have Ha : Hid (Cells w a gs) := ha
  have Hb : Hid (Cells w b os) := hb
  have hn : W * H ≤ 144 := by
    have := Int.mul_le_mul w2 h2 (by omega) (by omega)
    omega
  have Ho : Hid (os.length = gs.length) := by unfold Hid; omega
  have e1 : W * H = (gs.length : Int) := by omega
  have e2 : os.length = gs.length := Ho.out
  have hnn : gs.length ≤ 144 := by omega
  clear ha hb
  rw [e2] at d1 ⊢
  clear hg ho e2
  generalize hw0 : w.alloc (Obj.cells #[.int .i64 W, .int .i64 H, .slice a gs.length c, .slice b gs.length d] 33) = w0
  have B0 : Hid (Below w.heap.size w w0) := by rw [← hw0]; exact (Below.refl _ _).alloc (Nat.le_refl _) _
  have f0 : w0.cell? ⟨w.heap.size, 2, none⟩ = some (.slice a gs.length c) := by rw [← hw0]; simp
  have f1 : w0.cell? ⟨w.heap.size, 3, none⟩ = some (.slice b gs.length d) := by rw [← hw0]; simp
  have Hw : Hid (w.alloc (Obj.cells #[.int .i64 W, .int .i64 H, .slice a gs.length c, .slice b gs.length d] 33) = w0) := hw0
  clear hw0
  have Ca : Hid (Cells w0 a gs) := Ha.out.below B0.out
  have Cb : Hid (Cells w0 b os) := Hb.out.below B0.out
  clear Ha Hb
  go_enter Tryd.func18, Tryd.ntmps18
  go_wp2_with fail
  rw [Hw.out]
  go_loop [3] (fun i => ∃ (k : Nat), k ≤ gs.length ∧ i = .int .i64 (k : Nat) ∧ Fd.cellsFault (gs.drop k) (os.drop k) = Fd.cellsFault gs os) (fun i => gs.length - (intOf i).toNat)
  case atStart => exact ⟨0, Nat.zero_le _, rfl, by simp⟩
  case round =>
    obtain ⟨k, hk, rfl, hf⟩ := hrel
    have Hf : Hid (Fd.cellsFault (gs.drop k) (os.drop k) = Fd.cellsFault gs os) := hf
    clear hf
    by_cases h0 : k = gs.length
    · subst h0
      go_wp2
      go_ret
      refine ⟨?_, B0.out⟩
      rw [← Hf.out, List.drop_of_length_le (Nat.le_refl _)]
      rfl
    · have hkx : k < gs.length := by omega
      have hky : k < os.length := by rw [Ho.out]; exact hkx
      obtain ⟨x, rfl, -, hx⟩ := Ca.out (by intro h; rw [h] at hkx; simp at hkx)
      obtain ⟨y, rfl, -, hy⟩ := Cb.out (by intro h; rw [h] at hky; simp at hky)
      have cx := hx k gs[k] (List.getElem?_eq_getElem hkx)
      have cy := hy k os[k] (List.getElem?_eq_getElem hky)
      have Te := Fd.cellsFault_drop gs os k gs[k] os[k] (List.getElem?_eq_getElem hkx) (List.getElem?_eq_getElem hky)
      rw [Hf.out] at Te
      have HT : Hid _ := Te
      generalize gs[k] = p at *
      generalize os[k] = r at *
      clear hx hy Te
      have Bad : Hid ((p < 0 ∨ 3 < p ∨ r < 0 ∨ 1000000 < r) → Fd.cellsFault gs os = 1) := fun h => by
        have e : Fd.cellFault p r = 1 := by unfold Fd.cellFault; rw [if_pos h]
        have := HT.out
        rw [e] at this
        exact this
      by_cases q1 : p < 0
      · go_wp2
        go_ret
        exact ⟨ret_int (Bad.out (.inl q1)).symm, B0.out⟩
      · by_cases q2 : 3 < p
        · go_wp2
          go_ret
          exact ⟨ret_int (Bad.out (.inr (.inl q2))).symm, B0.out⟩
        · by_cases q3 : r < 0
          · go_wp2
            go_ret
            exact ⟨ret_int (Bad.out (.inr (.inr (.inl q3)))).symm, B0.out⟩
          · by_cases q4 : 1000000 < r
            · go_wp2
              go_ret
              exact ⟨ret_int (Bad.out (.inr (.inr (.inr q4)))).symm, B0.out⟩
            · have HT2 : Hid (Fd.cellsFault gs os = if 0 < r ∧ p ≠ 0 then 7 else Fd.cellsFault (gs.drop (k + 1)) (os.drop (k + 1))) := by
                unfold Hid
                have e : Fd.cellFault p r = if 0 < r ∧ p ≠ 0 then 7 else 0 := by unfold Fd.cellFault; rw [if_neg (by omega)]
                rw [HT.out, e]
                by_cases q : 0 < r ∧ p ≠ 0
                · rw [if_pos q, if_pos q, if_neg (show ¬ (7 : Int) = 0 by decide)]
                · rw [if_neg q, if_neg q, if_pos rfl]
              clear HT Bad
              by_cases q5 : 0 < r
              · by_cases q6 : p = 0
                · subst q6
                  go_wp2
                  go_round
                  case rel => exact ⟨k + 1, by omega, by go_num, by rw [HT2.out, if_neg (by simp)]⟩
                  case measure => simp [intOf]; omega
                · go_wp2
                  go_ret
                  exact ⟨ret_int (by rw [HT2.out, if_pos ⟨q5, q6⟩]), B0.out⟩
              · go_wp2
                go_round
                case rel => exact ⟨k + 1, by omega, by go_num, by rw [HT2.out, if_neg (by omega)]⟩
                case measure => simp [intOf]; omega

set_option maxHeartbeats 1000000 in
theorem ref_range (u1 u2 : Value) (W H : Int) (w : World) (h : W < 1 ∨ 12 < W ∨ H < 1 ∨ 12 < H) :
    Calls Tryd.prog 18 #[.agg #[.int .i64 W, .int .i64 H, u1, u2]] w fun e w' => e = .returned (.int .i64 1) ∧ Below w.heap.size w w' := by
  have B : Hid (∀ o, Below w.heap.size w (w.alloc o)) := fun o => (Below.refl _ _).alloc (Nat.le_refl _) _
  by_cases q1 : W < 1
  · go_enter Tryd.func18, Tryd.ntmps18
    go_wp2
    go_ret
    exact ⟨rfl, B.out _⟩
  · by_cases q2 : 12 < W
    · go_enter Tryd.func18, Tryd.ntmps18
      go_wp2
      go_ret
      exact ⟨rfl, B.out _⟩
    · by_cases q3 : H < 1
      · go_enter Tryd.func18, Tryd.ntmps18
        go_wp2
        go_ret
        exact ⟨rfl, B.out _⟩
      · have q4 : 12 < H := by omega
        clear h
        go_enter Tryd.func18, Tryd.ntmps18
        go_wp2
        go_ret
        exact ⟨rfl, B.out _⟩

set_option maxHeartbeats 1000000 in
theorem ref_shape (a b : Option Addr) (n m c d : Nat) (W H : Int) (w : World) (w1 : 1 ≤ W) (w2 : W ≤ 12) (h1 : 1 ≤ H) (h2 : H ≤ 12) (h : (n : Int) ≠ W * H ∨ (m : Int) ≠ W * H) :
    Calls Tryd.prog 18 #[.agg #[.int .i64 W, .int .i64 H, .slice a n c, .slice b m d]] w fun e w' => e = .returned (.int .i64 3) ∧ Below w.heap.size w w' := by
  have hn : W * H ≤ 144 := by
    have := Int.mul_le_mul w2 h2 (by omega) (by omega)
    omega
  have hp : 0 ≤ W * H := Int.mul_nonneg (by omega) (by omega)
  by_cases e : (n : Int) = W * H
  · have e2 : ¬ (m : Int) = W * H := by omega
    have e' : W * H = (n : Int) := e.symm
    rw [e'] at e2
    clear h e
    go_enter Tryd.func18, Tryd.ntmps18
    go_wp2
    go_ret
    exact ⟨rfl, (Below.refl _ _).alloc (Nat.le_refl _) _⟩
  · clear h
    go_enter Tryd.func18, Tryd.ntmps18
    go_wp2
    go_ret
    exact ⟨rfl, (Below.refl _ _).alloc (Nat.le_refl _) _⟩

/-- what the reference says of a field. -/
theorem ref_field (v : Value) (W H : Int) (gs os : List Int) (w : World) (h : Fl w v W H gs os) :
    Calls Tryd.prog 18 #[v] w fun e w' => e = .returned (.int .i64 (Fd.fault W H gs os)) ∧ Below w.heap.size w w' := by
  obtain ⟨u1, u2, rfl, ⟨a, c, rfl, c1, c2, ca⟩, ⟨b, d, rfl, d1, d2, cb⟩⟩ := h
  unfold Fd.fault
  by_cases h1 : W < 1 ∨ 12 < W ∨ H < 1 ∨ 12 < H
  · rw [if_pos h1]
    exact ref_range _ _ W H w h1
  · rw [if_neg h1]
    by_cases h2 : (gs.length : Int) ≠ W * H ∨ (os.length : Int) ≠ W * H
    · rw [if_pos h2]
      exact ref_shape _ _ _ _ _ _ W H w (by omega) (by omega) (by omega) (by omega) h2
    · rw [if_neg h2]
      exact ref_cells a b c d W H gs os w (by omega) (by omega) (by omega) (by omega) (by omega) (by omega) c1 c2 d1 d2 ca cb
end Go.Proofs.YtamgjhehnblbgaaDoor

namespace Go.Proofs.YtamgjhehnblbgaaDoor
open Go.RowKit
set_option linter.unusedVariables false

set_option maxRecDepth 100000 in
set_option maxHeartbeats 1000000 in
theorem ref_onto (v : Value) (W H : Int) (gs os : List Int) (a : Nat) (g : Int) (fl : Bool) (w : World) (h : Fl w v W H gs os) (hl : gs.length ≤ 144) (hg : gs[a]? = some g) (g0 : 0 ≤ g) (g3 : g ≤ 3) :
    Calls Tryd.prog 20 #[v, .int .i64 (a : Nat), .bool fl] w fun e w' => e = .returned (.int .i64 (Fd.onto g fl)) ∧ Below w.heap.size w w' := by
  obtain ⟨u1, u2, rfl, ⟨a1, c, rfl, c1, c2, ca⟩, ⟨b1, d, rfl, d1, d2, cb⟩⟩ := h
  have hal : a < gs.length := (List.getElem?_eq_some_iff.1 hg).1
  obtain ⟨x, rfl, xl, hx⟩ := ca (by intro e; rw [e] at hal; simp at hal)
  have j0 : (0 : Int) ≤ (a : Int) := by omega
  have j1 : (a : Int) < (gs.length : Int) := by omega
  obtain ⟨w0, hw0⟩ : ∃ w0, w.alloc (Obj.cells #[.int .i64 W, .int .i64 H, .slice (some x) gs.length c, .slice b1 os.length d] 33) = w0 := ⟨_, rfl⟩
  have B0 : Hid (Below w.heap.size w w0) := by rw [← hw0]; exact (Below.refl _ _).alloc (Nat.le_refl _) _
  have cg : w0.cell? (x.add a) = some (.int .i64 g) := by rw [B0.out.cell (p := x.add a) (by rw [add_block]; exact xl)]; exact hx a g hg
  have x2 : w0.cell? ⟨w.heap.size, 2, none⟩ = some (.slice (some x) gs.length c) := by rw [← hw0]; simp
  have Hw : Hid (w.alloc (Obj.cells #[.int .i64 W, .int .i64 H, .slice (some x) gs.length c, .slice b1 os.length d] 33) = w0) := hw0
  have O : Hid (∀ u, u = Fd.onto g fl → Ending.returned (.int .i64 u) = .returned (.int .i64 (Fd.onto g fl))) := fun u h => by rw [h]
  clear hw0 cb hx xl ca hg
  go_enter Tryd.func20, Tryd.ntmps20
  go_upto_region 1 with fail
  rw [Hw.out]
  have hg' : g = 0 ∨ g = 1 ∨ g = 2 ∨ g = 3 := by omega
  rcases hg' with rfl | rfl | rfl | rfl
  all_goals cases fl
  all_goals
    go_wp2
    go_ret
    exact ⟨O.out _ rfl, B0⟩
end Go.Proofs.YtamgjhehnblbgaaDoor

namespace Go.Proofs.YtamgjhehnblbgaaDoor
open Go.RowKit
set_option linter.unusedVariables false

theorem nb_turn {W : WV} (h : decide (0 ≤ W.turn ∧ W.turn ≤ 1000000) = false) : Wd.numsBad W = true := by unfold Wd.numsBad Wd.off; rw [h]; rfl
theorem nb_next {W : WV} (h : decide (0 ≤ W.next ∧ W.next ≤ 1000000) = false) : Wd.numsBad W = true := by
  have h1 : decide (1 ≤ W.next ∧ W.next ≤ 1000000) = false := decide_eq_false fun ⟨a, b⟩ => of_decide_eq_false h ⟨by omega, b⟩
  unfold Wd.numsBad Wd.off; rw [h1]; simp
theorem nb_zero {W : WV} (h : W.next = 0) : Wd.numsBad W = true := by
  have h1 : decide (1 ≤ W.next ∧ W.next ≤ 1000000) = false := decide_eq_false fun ⟨a, b⟩ => by omega
  unfold Wd.numsBad Wd.off; rw [h1]; simp
theorem nb_len {W : WV} (h : ¬ (1 ≤ (W.gold.length : Int) ∧ (W.gold.length : Int) ≤ 4)) : Wd.numsBad W = true := by
  unfold Wd.numsBad; rw [decide_eq_false h]; simp
theorem nb_gold {W : WV} {i : Nat} {g : Int} (hg : W.gold[i]? = some g) (h : decide (0 ≤ g ∧ g ≤ 1000000) = false) : Wd.numsBad W = true := by
  have : W.gold.any (Wd.off 0) = true := List.any_eq_true.2 ⟨g, List.mem_of_getElem? hg, by unfold Wd.off; rw [h]; rfl⟩
  unfold Wd.numsBad; rw [this]; simp
theorem nb_no {W : WV} (h1 : decide (0 ≤ W.turn ∧ W.turn ≤ 1000000) = true) (h2 : decide (0 ≤ W.next ∧ W.next ≤ 1000000) = true) (h3 : W.next ≠ 0) (h4 : 1 ≤ (W.gold.length : Int) ∧ (W.gold.length : Int) ≤ 4) (h5 : W.gold.any (Wd.off 0) = false) : Wd.numsBad W = false := by
  have := of_decide_eq_true h2
  have h6 : decide (1 ≤ W.next ∧ W.next ≤ 1000000) = true := decide_eq_true ⟨by omega, by omega⟩
  unfold Wd.numsBad; rw [h5]; unfold Wd.off; rw [h1, h6, decide_eq_true h4]; rfl
theorem wf_nums {ks : List KV} {W : WV} (h0 : Wd.ground ks W = 0) (h : Wd.numsBad W = true) : Wd.wfault ks W = 1 := by unfold Wd.wfault; rw [if_neg (by rw [h0]; simp), h]; rfl
theorem gr_kinds {ks : List KV} {W : WV} (h : Kd.kindsFault (ks.map KV.k) ≠ 0) : Wd.wfault ks W = Kd.kindsFault (ks.map KV.k) := by
  have : Wd.ground ks W = Kd.kindsFault (ks.map KV.k) := by unfold Wd.ground; rw [if_neg h]
  unfold Wd.wfault; rw [if_pos (by rw [this]; exact h), this]
theorem gr_field {ks : List KV} {W : WV} (h0 : Kd.kindsFault (ks.map KV.k) = 0) (h : Fd.fault W.wide W.high W.gs W.os ≠ 0) : Wd.wfault ks W = Fd.fault W.wide W.high W.gs W.os := by
  have : Wd.ground ks W = Fd.fault W.wide W.high W.gs W.os := by unfold Wd.ground; rw [if_pos h0]
  unfold Wd.wfault; rw [if_pos (by rw [this]; exact h), this]
theorem gany_next {l : List Int} {p : Int → Bool} {i : Nat} {g : Int} (hg : l[i]? = some g) (h : (l.take i).any p = false) (hp : p g = false) : (l.take (i + 1)).any p = false := by
  rw [List.take_add_one, hg, List.any_append, h]; simp [hp]
theorem rck_drewN {B : Nat} {a w : World} (h : Below B a w) (n : Nat) : Below B a (w.drewN n) := h.trans ⟨rfl, rfl, rfl, Nat.le_refl _, fun _ _ => rfl⟩
theorem on_fst {us : List UnV} {i : Nat} {u : UnV} {r a : Int} (hu : us[i]? = some u) (ha : u.at_ = a) (h : FstU (fun x => x.at_ == a) us r) : (∃ n : Nat, r = n ∧ n < i ∧ (us.take i).any (fun x => x.at_ == a) = true) ∨ (r = (i : Nat) ∧ (us.take i).any (fun x => x.at_ == a) = false) := by
  have hp : (u.at_ == a) = true := by simpa using ha
  rcases h with ⟨_, h1⟩ | ⟨k, x, rfl, h1, h2, h3⟩
  · have : us.any (fun x => x.at_ == a) = true := List.any_eq_true.2 ⟨u, List.mem_of_getElem? hu, hp⟩
    rw [h1] at this; cases this
  · rcases Nat.lt_trichotomy k i with hl | hl | hl
    · exact .inl ⟨k, rfl, hl, List.any_eq_true.2 ⟨x, List.mem_of_getElem? (by rw [List.getElem?_take, if_pos hl]; exact h1), h2⟩⟩
    · subst hl
      exact .inr ⟨rfl, h3⟩
    · have : (us.take k).any (fun x => x.at_ == a) = true := List.any_eq_true.2 ⟨u, List.mem_of_getElem? (by rw [List.getElem?_take, if_pos hl]; exact hu), hp⟩
      rw [h3] at this; cases this
theorem open_of {gs : List Int} {ah : List UnV} {an : Nat} {g : Int} {fl : Bool} (hg : gs[an]? = some g) : Wd.open_ gs ah (an : Nat) fl = (decide (0 < Fd.onto g fl) && !ah.any (fun u => u.at_ == (an : Int))) := by
  unfold Wd.open_
  rw [Int.toNat_natCast, List.getD_eq_getElem?_getD, hg]
  rfl
theorem onto_nonneg (g : Int) (f : Bool) : 0 ≤ Fd.onto g f := by
  unfold Fd.onto
  split
  · exact Int.le_refl _
  · split
    · split <;> decide
    · split
      · split <;> decide
      · decide

set_option maxRecDepth 100000 in
set_option maxHeartbeats 16000000 in
theorem rcheck_any (vk vw : Value) (ks : List KV) (W : WV) (w : World) (hk : Kl w vk ks) (hb : ∀ k ∈ ks, k.b.size ≤ 9223372036854775807) (hw : Wl w vw W) :
    Calls Tryd.prog 8 #[vk, vw] w fun e w' => ∃ r : Int, e = .returned (.int .i64 r) ∧ r = Wd.wfault ks W ∧ Below w.heap.size w w' := by
  have K : Hid (Kl w vk ks ∧ ∀ k ∈ ks, k.b.size ≤ 9223372036854775807) := ⟨hk, hb⟩
  have H : Hid (Wl w vw W) := hw
  obtain ⟨u1, u2, u3, u4, u5, rfl, r1, r2, r3, r4, r5⟩ := hw
  obtain ⟨p1, q1, rfl, -⟩ := r1
  obtain ⟨p2, q2, rfl, -⟩ := r2
  obtain ⟨p3, q3, rfl, k31, k32, k33⟩ := r3
  obtain ⟨p4, q4, rfl, k41, k42, k43⟩ := r4
  obtain ⟨p5, q5, rfl, k51, k52, k53⟩ := r5
  obtain ⟨pk, qk, rfl, kk1, kk2, kk3⟩ := hk
  have GC : Hid (W.gold ≠ [] → ∃ x, p3 = some x ∧ x.block < w.heap.size ∧ ∀ (i : Nat) v, W.gold[i]? = some v → w.cell? (x.add i) = some (.int .i64 v)) := k33
  have UC : Hid (W.us ≠ [] → ∃ x, p4 = some x ∧ x.block < w.heap.size ∧ ∀ (i : Nat) k, W.us[i]? = some k → Unc w (x.add (i * 8)) k) := k43
  have JC : Hid (W.qs ≠ [] → ∃ x, p5 = some x ∧ x.block < w.heap.size ∧ ∀ (i : Nat) k, W.qs[i]? = some k → Jbc w (x.add (i * 4)) k) := k53
  have KK : Hid (ks ≠ [] → ∃ x, pk = some x ∧ x.block < w.heap.size ∧ ∀ (i : Nat) k, ks[i]? = some k → Kc w (x.add (i * 11)) k) := kk3
  clear hb k53 k43 k33 kk3
  go_enter Tryd.func8, Tryd.ntmps8
  go_wp2_with fail
  have B0 : Hid (Below w.heap.size w (w.alloc (Obj.cells #[.int .i64 W.turn, .int .i64 W.next, .int .i64 W.wide, .int .i64 W.high, .slice p1 W.gs.length q1, .slice p2 W.os.length q2, .slice p3 W.gold.length q3, .slice p4 W.us.length q4, .slice p5 W.qs.length q5] 37))) := (Below.refl _ _).alloc (Nat.le_refl _) _
  have X0 : Hid (Bw (w.alloc (Obj.cells #[.int .i64 W.turn, .int .i64 W.next, .int .i64 W.wide, .int .i64 W.high, .slice p1 W.gs.length q1, .slice p2 W.os.length q2, .slice p3 W.gold.length q3, .slice p4 W.us.length q4, .slice p5 W.qs.length q5] 37)) w.heap.size W (.slice p1 W.gs.length q1) (.slice p2 W.os.length q2) (.slice p3 W.gold.length q3) (.slice p4 W.us.length q4) (.slice p5 W.qs.length q5)) := Bw.mk' W _ _ _ _ _ rfl
  generalize (w.alloc (Obj.cells #[.int .i64 W.turn, .int .i64 W.next, .int .i64 W.wide, .int .i64 W.high, .slice p1 W.gs.length q1, .slice p2 W.os.length q2, .slice p3 W.gold.length q3, .slice p4 W.us.length q4, .slice p5 W.qs.length q5] 37)) = w0 at *
  refine (ref_kinds _ ks w0 (K.out.1.below B0.out) K.out.2).mono ?_
  rintro e w1 ⟨rfl, hb1⟩
  have B1 : Hid (Below w.heap.size w w1) := B0.out.trans (hb1.mono B0.out.size)
  have X1 : Hid (Bw w1 w.heap.size W (.slice p1 W.gs.length q1) (.slice p2 W.os.length q2) (.slice p3 W.gold.length q3) (.slice p4 W.us.length q4) (.slice p5 W.qs.length q5)) := X0.out.below hb1 X0.out.lt
  clear hb1 X0 B0
  obtain ⟨f1, hf1⟩ : ∃ f, Kd.kindsFault (ks.map KV.k) = f := ⟨_, rfl⟩
  have F1 : Hid (Kd.kindsFault (ks.map KV.k) = f1) := hf1
  rw [hf1]
  clear hf1
  obtain ⟨x0, x1, x2, x3, x4, x5, x6, x7, x8⟩ := X1.out
  by_cases hz : f1 = 0
  · subst hz
    go_wp2_with fail
    refine (ref_field _ W.wide W.high W.gs W.os w1 ⟨_, _, rfl, (H.out.below B1.out).slices.1, (H.out.below B1.out).slices.2.1⟩).mono ?_
    rintro e w2 ⟨rfl, hb2⟩
    have B2 : Hid (Below w.heap.size w w2) := B1.out.trans (hb2.mono B1.out.size)
    have X2 : Hid (Bw w2 w.heap.size W (.slice p1 W.gs.length q1) (.slice p2 W.os.length q2) (.slice p3 W.gold.length q3) (.slice p4 W.us.length q4) (.slice p5 W.qs.length q5)) := X1.out.below hb2 X1.out.lt
    clear hb2 X1 B1 x0 x1 x2 x3 x4 x5 x6 x7 x8
    obtain ⟨f2, hf2⟩ : ∃ f, Fd.fault W.wide W.high W.gs W.os = f := ⟨_, rfl⟩
    have F2 : Hid (Fd.fault W.wide W.high W.gs W.os = f2) := hf2
    rw [hf2]
    clear hf2
    obtain ⟨x0, x1, x2, x3, x4, x5, x6, x7, x8⟩ := X2.out
    by_cases hz : f2 = 0
    · subst hz
      have HZ : Hid (Wd.ground ks W = 0) := by unfold Hid Wd.ground; rw [if_pos F1.out, F2.out]
      obtain ⟨t1, ht1⟩ : ∃ b, decide (0 ≤ W.turn ∧ W.turn ≤ 1000000) = b := ⟨_, rfl⟩
      have T1 : Hid (decide (0 ≤ W.turn ∧ W.turn ≤ 1000000) = t1) := ht1
      obtain ⟨t2, ht2⟩ : ∃ b, decide (0 ≤ W.next ∧ W.next ≤ 1000000) = b := ⟨_, rfl⟩
      have T2 : Hid (decide (0 ≤ W.next ∧ W.next ≤ 1000000) = t2) := ht2
      clear ht1 ht2
      go_wp2_with fail
      refine (rnumber_q W.turn t1 w2 T1).mono ?_
      rintro e w3 ⟨rfl, hww⟩
      obtain rfl := hww.symm
      go_wp2_with fail
      refine (rnumber_q W.next t2 w2 T2).mono ?_
      rintro e w3 ⟨rfl, hww⟩
      obtain rfl := hww.symm
      cases t1 with
      | false =>
        have FF : Hid (Wd.wfault ks W = 1) := wf_nums HZ.out (nb_turn T1.out)
        go_wp2
        go_ret
        exact ⟨_, rfl, FF.out.symm, B2.out⟩
      | true =>
        cases t2 with
        | false =>
          have FF : Hid (Wd.wfault ks W = 1) := wf_nums HZ.out (nb_next T2.out)
          go_wp2
          go_ret
          exact ⟨_, rfl, FF.out.symm, B2.out⟩
        | true =>
          by_cases hn0 : W.next = 0
          · have FF : Hid (Wd.wfault ks W = 1) := wf_nums HZ.out (nb_zero hn0)
            rw [hn0] at x1
            clear hn0
            go_wp2
            go_ret
            exact ⟨_, rfl, FF.out.symm, B2.out⟩
          · have N0 : Hid (W.next ≠ 0) := hn0
            have hnb : (W.next == 0) = false := by simpa using hn0
            clear hn0
            by_cases hg1 : (W.gold.length : Int) < 1
            · have FF : Hid (Wd.wfault ks W = 1) := wf_nums HZ.out (nb_len (by omega))
              go_wp2
              go_ret
              exact ⟨_, rfl, FF.out.symm, B2.out⟩
            · by_cases hg4 : (4 : Int) < (W.gold.length : Int)
              · have FF : Hid (Wd.wfault ks W = 1) := wf_nums HZ.out (nb_len (by omega))
                go_wp2
                go_ret
                exact ⟨_, rfl, FF.out.symm, B2.out⟩
              · have GL : Hid (1 ≤ (W.gold.length : Int) ∧ (W.gold.length : Int) ≤ 4) := ⟨by omega, by omega⟩
                go_wp2
                clear x0 x1 x2 x3 x4 x5 x6 x7 x8 hg1 hg4 hnb
                go_loopw [8] (fun iv V => ∃ i : Nat, i ≤ W.gold.length ∧ iv = .int .i64 (i : Nat) ∧ (W.gold.take i).any (Wd.off 0) = false ∧ V = w2) (fun iv _ => W.gold.length - (intOf iv).toNat)
                case atStart => exact ⟨0, Nat.zero_le _, rfl, rfl, rfl⟩
                case round =>
                  obtain ⟨i, hi, rfl, han, hVV⟩ := hrel
                  obtain rfl := hVV.symm
                  have AN : Hid ((W.gold.take i).any (Wd.off 0) = false) := han
                  have x6 := X2.out.c6
                  clear han
                  by_cases hil : i = W.gold.length
                  · have HN : Hid (Wd.numsBad W = false) := nb_no T1.out T2.out N0.out GL.out (by have := AN.out; rwa [hil, List.take_length] at this)
                    subst hil
                    clear hi
                    have x7 := X2.out.c7
                    by_cases h40 : 40 < W.us.length
                    · have F4 : Hid (Wd.wfault ks W = 4) := by unfold Hid Wd.wfault; rw [if_neg (by rw [HZ.out]; simp), HN.out, if_neg (by simp), if_pos h40]
                      have h40i : (40 : Int) < (W.us.length : Int) := by omega
                      go_wp2
                      go_ret
                      exact ⟨_, rfl, F4.out.symm, B2.out⟩
                    · have h40i : ¬ (40 : Int) < (W.us.length : Int) := by omega
                      have KL : Hid (ks.length ≤ 8) := kinds_len F1.out
                      obtain ⟨Wn, Hn, hWn, hHn, hG⟩ := Fd.fault_zero F2.out
                      have GG : Hid (W.wide = Wn ∧ W.high = Hn ∧ Fd.Good Wn Hn W.gs W.os) := ⟨hWn, hHn, hG⟩
                      have US : Hid (W.us.length ≤ 40) := by unfold Hid; omega
                      have WF : Hid (Wd.unitsGo ks W 0 W.us ≠ 0 → Wd.wfault ks W = Wd.unitsGo ks W 0 W.us) := fun hne => by unfold Wd.wfault; rw [if_neg (by rw [HZ.out]; simp), HN.out, if_neg (by simp), if_neg h40, if_pos hne]
                      have WG : Hid (Wd.unitsGo ks W 0 W.us = 0 → Wd.wfault ks W = if 12 < W.qs.length then 4 else Wd.jobsGo ks W W.qs) := fun h0 => by unfold Wd.wfault; rw [if_neg (by rw [HZ.out]; simp), HN.out, if_neg (by simp), if_neg h40, if_neg (by rw [h0]; simp)]
                      have x4 := X2.out.c4
                      clear hWn hHn hG h40
                      go_wp2
                      clear x7 x6 x4
                      go_loopw [11] (fun iv V => ∃ i : Nat, i ≤ W.us.length ∧ iv = .int .i64 (i : Nat) ∧ Wd.unitsGo ks W i (W.us.drop i) = Wd.unitsGo ks W 0 W.us ∧ Bw V w.heap.size W (.slice p1 W.gs.length q1) (.slice p2 W.os.length q2) (.slice p3 W.gold.length q3) (.slice p4 W.us.length q4) (.slice p5 W.qs.length q5) ∧ Below w.heap.size w V) (fun iv _ => W.us.length - (intOf iv).toNat)
                      case atStart => exact ⟨0, Nat.zero_le _, rfl, rfl, X2.out, B2.out⟩
                      case round =>
                        obtain ⟨i, hi, rfl, hgo, hX, hB⟩ := hrel
                        have XR : Hid (Bw wr w.heap.size W (.slice p1 W.gs.length q1) (.slice p2 W.os.length q2) (.slice p3 W.gold.length q3) (.slice p4 W.us.length q4) (.slice p5 W.qs.length q5)) := hX
                        have BR : Hid (Below w.heap.size w wr) := hB
                        have GO : Hid (Wd.unitsGo ks W i (W.us.drop i) = Wd.unitsGo ks W 0 W.us) := hgo
                        clear hX hB hgo X2 B2
                        by_cases hil : i = W.us.length
                        · as_aux_lemma =>
                          have U0 : Hid (Wd.unitsGo ks W 0 W.us = 0) := by unfold Hid; rw [← GO.out, hil, List.drop_length]; rfl
                          have x8 := XR.out.c8
                          have x7 := XR.out.c7
                          subst hil
                          clear hi
                          by_cases h12 : 12 < W.qs.length
                          · have F4 : Hid (Wd.wfault ks W = 4) := by unfold Hid; rw [WG.out U0.out, if_pos h12]
                            have h12i : (12 : Int) < (W.qs.length : Int) := by omega
                            go_wp2
                            go_ret
                            exact ⟨_, rfl, F4.out.symm, BR.out⟩
                          · have h12i : ¬ (12 : Int) < (W.qs.length : Int) := by omega
                            have FJ : Hid (Wd.wfault ks W = Wd.jobsGo ks W W.qs) := by unfold Hid; rw [WG.out U0.out, if_neg h12]
                            have ALL : Hid (∀ u ∈ W.us, 0 ≤ u.kind ∧ u.kind < (ks.length : Int)) := fun u hu => by
                              obtain ⟨j, hj⟩ := units_all W.us 0 U0.out u hu
                              exact fault_kind hj
                            go_wp2
                            clear x8 x7
                            go_loopw [15] (fun iv V => ∃ i : Nat, i ≤ W.qs.length ∧ iv = .int .i64 (i : Nat) ∧ Wd.jobsGo ks W (W.qs.drop i) = Wd.jobsGo ks W W.qs ∧ Bw V w.heap.size W (.slice p1 W.gs.length q1) (.slice p2 W.os.length q2) (.slice p3 W.gold.length q3) (.slice p4 W.us.length q4) (.slice p5 W.qs.length q5) ∧ Below w.heap.size w V) (fun iv _ => W.qs.length - (intOf iv).toNat)
                            case atStart => exact ⟨0, Nat.zero_le _, rfl, rfl, XR.out, BR.out⟩
                            case round =>
                              obtain ⟨i, hi, rfl, hgo, hX, hB⟩ := hrel
                              have XR : Hid (Bw wr w.heap.size W (.slice p1 W.gs.length q1) (.slice p2 W.os.length q2) (.slice p3 W.gold.length q3) (.slice p4 W.us.length q4) (.slice p5 W.qs.length q5)) := hX
                              have BR : Hid (Below w.heap.size w wr) := hB
                              have GO : Hid (Wd.jobsGo ks W (W.qs.drop i) = Wd.jobsGo ks W W.qs) := hgo
                              clear hX hB hgo
                              by_cases hil : i = W.qs.length
                              · have J0 : Hid (Wd.wfault ks W = 0) := by unfold Hid; rw [FJ.out, ← GO.out, hil, List.drop_length]; rfl
                                have x8 := XR.out.c8
                                subst hil
                                clear hi
                                go_wp2
                                go_ret
                                exact ⟨_, rfl, J0.out.symm, BR.out⟩
                              · as_aux_lemma =>
                                have hlt : i < W.qs.length := by omega
                                have hli : (i : Int) < (W.qs.length : Int) := by omega
                                obtain ⟨j, hj⟩ : ∃ j, W.qs[i]? = some j := ⟨_, List.getElem?_eq_getElem hlt⟩
                                obtain ⟨x, rfl, hx, hcell⟩ := JC.out (by intro e; rw [e] at hlt; simp at hlt)
                                obtain ⟨d0, d1, d2, d3⟩ := (hcell i j hj).below BR.out (by rw [add_block]; exact hx)
                                have GA : Hid (Wd.jobsGo ks W W.qs = if Wd.jobFault ks W j = 0 then Wd.jobsGo ks W (W.qs.drop (i + 1)) else Wd.jobFault ks W j) := by unfold Hid; rw [← GO.out, Wd.jobsGo_at hj]
                                have BAD : Hid (∀ n : Int, n ≠ 0 → Wd.jobFault ks W j = n → Wd.wfault ks W = n) := fun n hn h => by rw [FJ.out, GA.out, if_neg (by rw [h]; exact hn), h]
                                have x8 := XR.out.c8
                                clear hcell hx hj hil
                                go_upto_region 43 with fail
                                have BA : Hid (Below wr.heap.size wr (wr.alloc (Obj.cells #[.int .i64 j.player, .int .i64 j.unit, .int .i64 j.kind, .int .i64 j.left] 61))) := (Below.refl _ _).alloc (Nat.le_refl _) _
                                have J1 : Hid (Jbc (wr.alloc (Obj.cells #[.int .i64 j.player, .int .i64 j.unit, .int .i64 j.kind, .int .i64 j.left] 61)) ⟨wr.heap.size, 0, none⟩ j) := Jbc.mk' j rfl
                                generalize (wr.alloc (Obj.cells #[.int .i64 j.player, .int .i64 j.unit, .int .i64 j.kind, .int .i64 j.left] 61)) = w5 at *
                                have B5 : Hid (Below w.heap.size w w5) := BR.out.trans (BA.out.mono BR.out.size)
                                have X5 : Hid (Bw w5 w.heap.size W (.slice p1 W.gs.length q1) (.slice p2 W.os.length q2) (.slice p3 W.gold.length q3) (.slice p4 W.us.length q4) (.slice (some x) W.qs.length q5)) := XR.out.below BA.out XR.out.lt
                                clear d0 d1 d2 d3 x8 XR BR BA
                                obtain ⟨x0, x1, x2, x3, x4, x5, x6, x7, x8⟩ := X5.out
                                obtain ⟨j0, j1, j2, j3⟩ := J1.out
                                generalize wr.heap.size = zj at *
                                simp only [Nat.zero_add] at j1 j2 j3
                                go_wp2_with fail
                                refine (rfind_any _ W j.unit w5 (H.out.below B5.out)).mono ?_
                                rintro e w6 ⟨r, rfl, hf, hb6⟩
                                have B6 : Hid (Below w.heap.size w w6) := B5.out.trans (hb6.mono B5.out.size)
                                have X6 : Hid (Bw w6 w.heap.size W (.slice p1 W.gs.length q1) (.slice p2 W.os.length q2) (.slice p3 W.gold.length q3) (.slice p4 W.us.length q4) (.slice (some x) W.qs.length q5)) := X5.out.below hb6 X5.out.lt
                                have J6 : Hid (Jbc w6 ⟨zj, 0, none⟩ j) := J1.out.below hb6 J1.out.lt
                                clear hb6 x0 x1 x2 x3 x4 x5 x6 x7 x8 j0 j1 j2 j3 X5 B5 J1
                                obtain ⟨x0, x1, x2, x3, x4, x5, x6, x7, x8⟩ := X6.out
                                obtain ⟨j0, j1, j2, j3⟩ := J6.out
                                simp only [Nat.zero_add] at j1 j2 j3
                                rcases find_fst hf with ⟨rfl, hfn⟩ | ⟨n, u, rfl, hn, hfs⟩
                                · have F6 : Hid (Wd.wfault ks W = 6) := BAD.out 6 (by decide) (jf6 hfn)
                                  clear hf hfn
                                  go_wp2
                                  go_ret
                                  exact ⟨_, rfl, F6.out.symm, B6.out⟩
                                · have hnl : n < W.us.length := (List.getElem?_eq_some_iff.1 hn).1
                                  have hni : (n : Int) < (W.us.length : Int) := by omega
                                  have hn0 : ¬ (n : Int) < 0 := by omega
                                  have HF : Hid (W.us.find? (fun u => u.id == j.unit) = some u) := hfs
                                  obtain ⟨xu, rfl, hx, hcell⟩ := UC.out (by intro e; rw [e] at hnl; simp at hnl)
                                  obtain ⟨d0, d1, d2, d3, d4, d5, d6, d7⟩ := (hcell n u hn).below B6.out (by rw [add_block]; exact hx)
                                  have hku := ALL.out u (List.mem_of_getElem? hn)
                                  obtain ⟨kn, ek⟩ : ∃ kn : Nat, u.kind = kn := ⟨u.kind.toNat, by omega⟩
                                  have hkn : kn < ks.length := by omega
                                  have hkni : (kn : Int) < (ks.length : Int) := by omega
                                  obtain ⟨k, hkk⟩ : ∃ k, ks[kn]? = some k := ⟨_, List.getElem?_eq_getElem hkn⟩
                                  have HK : Hid (ks[u.kind.toNat]? = some k) := by unfold Hid; rw [ek, Int.toNat_natCast]; exact hkk
                                  obtain ⟨xk, rfl, hxk, hkc⟩ := KK.out (by intro e; rw [e] at hkn; simp at hkn)
                                  obtain ⟨l0, l1, l2, l3, l4, l5, l6, l7, l8, l9, l10⟩ := (hkc kn k hkk).below B6.out (by rw [add_block]; exact hxk)
                                  rw [ek] at d2
                                  clear hf hfs hcell hx hn hku hkc hxk hkk ek l0 l1 l2 l3 l4 l5 l6 l7 l8 l9
                                  by_cases hp : u.player = j.player
                                  · rw [hp] at d1
                                    cases ht : k.t with
                                    | false =>
                                      have F7 : Hid (Wd.wfault ks W = 7) := BAD.out 7 (by decide) (jf7 HF.out HK.out (.inr ht))
                                      rw [ht] at l10
                                      clear ht
                                      go_upto_region 46 with fail
                                      go_quiet (fail)
                                      go_wp2
                                      go_ret
                                      exact ⟨_, rfl, F7.out.symm, rck_drewN B6.out _⟩
                                    | true =>
                                      have HPT : Hid (u.player = j.player ∧ k.t = true) := ⟨hp, ht⟩
                                      rw [ht] at l10
                                      clear ht hp
                                      go_upto_region 46 with fail
                                      go_quiet (fail)
                                      have B7 : Hid (Below w.heap.size w (w6.drewN nq)) := rck_drewN B6.out nq
                                      have X7 : Hid (Bw (w6.drewN nq) w.heap.size W (.slice p1 W.gs.length q1) (.slice p2 W.os.length q2) (.slice p3 W.gold.length q3) (.slice (some xu) W.us.length q4) (.slice (some x) W.qs.length q5)) := X6.out.below (rck_drewN (Below.refl _ _) nq) X6.out.lt
                                      have J7 : Hid (Jbc (w6.drewN nq) ⟨zj, 0, none⟩ j) := J6.out.below (rck_drewN (Below.refl _ _) nq) J6.out.lt
                                      generalize w6.drewN nq = w7 at *
                                      clear x0 x1 x2 x3 x4 x5 x6 x7 x8 j0 j1 j2 j3 d0 d1 d2 d3 d4 d5 d6 d7 l10 X6 J6 B6
                                      obtain ⟨j0, j1, j2, j3⟩ := J7.out
                                      simp only [Nat.zero_add] at j1 j2 j3
                                      by_cases h1 : j.kind < 0
                                      · have F1 : Hid (Wd.wfault ks W = 1) := BAD.out 1 (by decide) (jf1 HF.out HK.out HPT.out.1 HPT.out.2 (.inl (decide_eq_false (by omega))))
                                        go_wp2
                                        go_ret
                                        exact ⟨_, rfl, F1.out.symm, B7.out⟩
                                      · by_cases h2 : (ks.length : Int) ≤ j.kind
                                        · have F1 : Hid (Wd.wfault ks W = 1) := BAD.out 1 (by decide) (jf1 HF.out HK.out HPT.out.1 HPT.out.2 (.inl (decide_eq_false (by omega))))
                                          go_wp2
                                          go_ret
                                          exact ⟨_, rfl, F1.out.symm, B7.out⟩
                                        · by_cases h3 : j.left < 1
                                          · have F1 : Hid (Wd.wfault ks W = 1) := BAD.out 1 (by decide) (jf1 HF.out HK.out HPT.out.1 HPT.out.2 (.inr (decide_eq_false (by omega))))
                                            go_wp2
                                            go_ret
                                            exact ⟨_, rfl, F1.out.symm, B7.out⟩
                                          · by_cases h4 : (1000 : Int) < j.left
                                            · have F1 : Hid (Wd.wfault ks W = 1) := BAD.out 1 (by decide) (jf1 HF.out HK.out HPT.out.1 HPT.out.2 (.inr (decide_eq_false (by omega))))
                                              go_wp2
                                              go_ret
                                              exact ⟨_, rfl, F1.out.symm, B7.out⟩
                                            · have G2 : Hid (Wd.jobsGo ks W (W.qs.drop (i + 1)) = Wd.jobsGo ks W W.qs) := by unfold Hid; rw [GA.out, if_pos (jf0 HF.out HK.out HPT.out.1 HPT.out.2 (decide_eq_true (by omega)) (decide_eq_true (by omega)))]
                                              go_wp2
                                              go_roundw
                                              case rel => exact ⟨i + 1, by omega, rfl, G2.out, X7.out, B7.out⟩
                                              case measure => simp [intOf]; omega
                                  · have F7 : Hid (Wd.wfault ks W = 7) := BAD.out 7 (by decide) (jf7 HF.out HK.out (.inl hp))
                                    have hpb : (u.player == j.player) = false := by simpa using hp
                                    have HP : Hid (¬ u.player = j.player) := hp
                                    clear hp
                                    go_upto_region 46 with fail
                                    have hpn : (u.player != j.player) = true := by simpa using HP.out
                                    go_quiet (fail)
                                    go_wp2
                                    go_ret
                                    exact ⟨_, rfl, F7.out.symm, rck_drewN B6.out _⟩
                        · as_aux_lemma =>
                          have hlt : i < W.us.length := by omega
                          have hli : (i : Int) < (W.us.length : Int) := by omega
                          obtain ⟨u, hu⟩ : ∃ u, W.us[i]? = some u := ⟨_, List.getElem?_eq_getElem hlt⟩
                          have HU : Hid (W.us[i]? = some u) := hu
                          have GA : Hid (Wd.unitsGo ks W 0 W.us = if Wd.unitFault ks W i u = 0 then Wd.unitsGo ks W (i + 1) (W.us.drop (i + 1)) else Wd.unitFault ks W i u) := by unfold Hid; rw [← GO.out, Wd.unitsGo_at hu]
                          have BAD : Hid (∀ n : Int, n ≠ 0 → Wd.unitFault ks W i u = n → Wd.wfault ks W = n) := fun n hn h => by
                            have EU : Wd.unitsGo ks W 0 W.us = n := by rw [GA.out, if_neg (by rw [h]; exact hn), h]
                            rw [WF.out (by rw [EU]; exact hn), EU]
                          obtain ⟨x, rfl, hx, hcell⟩ := UC.out (by intro e; rw [e] at hlt; simp at hlt)
                          have UX : Hid (x.block < w.heap.size ∧ ∀ (i : Nat) k, W.us[i]? = some k → Unc w (x.add (i * 8)) k) := ⟨hx, hcell⟩
                          obtain ⟨d0, d1, d2, d3, d4, d5, d6, d7⟩ := (hcell i u hu).below BR.out (by rw [add_block]; exact hx)
                          have x7 := XR.out.c7
                          clear hcell hx hu hil
                          go_upto_region 23 with fail
                          have BA : Hid (Below wr.heap.size wr (wr.alloc (Obj.cells #[.int .i64 u.id, .int .i64 u.player, .int .i64 u.kind, .int .i64 u.at_, .int .i64 u.life, .int .i64 u.load, .int .i64 u.task, .int .i64 u.goal] 45))) := (Below.refl _ _).alloc (Nat.le_refl _) _
                          have U5 : Hid (Unc (wr.alloc (Obj.cells #[.int .i64 u.id, .int .i64 u.player, .int .i64 u.kind, .int .i64 u.at_, .int .i64 u.life, .int .i64 u.load, .int .i64 u.task, .int .i64 u.goal] 45)) ⟨wr.heap.size, 0, none⟩ u) := Unc.mk' u rfl
                          generalize (wr.alloc (Obj.cells #[.int .i64 u.id, .int .i64 u.player, .int .i64 u.kind, .int .i64 u.at_, .int .i64 u.life, .int .i64 u.load, .int .i64 u.task, .int .i64 u.goal] 45)) = w5 at *
                          have B5 : Hid (Below w.heap.size w w5) := BR.out.trans (BA.out.mono BR.out.size)
                          have X5 : Hid (Bw w5 w.heap.size W (.slice p1 W.gs.length q1) (.slice p2 W.os.length q2) (.slice p3 W.gold.length q3) (.slice (some x) W.us.length q4) (.slice p5 W.qs.length q5)) := XR.out.below BA.out XR.out.lt
                          clear d0 d1 d2 d3 d4 d5 d6 d7 x7 XR BR BA
                          obtain ⟨x0, x1, x2, x3, x4, x5, x6, x7, x8⟩ := X5.out
                          obtain ⟨y0, y1, y2, y3, y4, y5, y6, y7⟩ := U5.out
                          generalize wr.heap.size = zu at *
                          simp only [Nat.zero_add] at y1 y2 y3 y4 y5 y6 y7
                          by_cases h1 : u.id < 1
                          · have FF : Hid (Wd.wfault ks W = 1) := BAD.out 1 (by decide) (uf1 (decide_eq_false (by omega)))
                            go_wp2
                            go_ret
                            exact ⟨_, rfl, FF.out.symm, B5.out⟩
                          · by_cases h2 : W.next ≤ u.id
                            · have FF : Hid (Wd.wfault ks W = 1) := BAD.out 1 (by decide) (uf1 (decide_eq_false (by omega)))
                              go_wp2
                              go_ret
                              exact ⟨_, rfl, FF.out.symm, B5.out⟩
                            · have HB1 : Hid (decide (1 ≤ u.id ∧ u.id ≤ W.next - 1) = true) := decide_eq_true (by omega)
                              obtain ⟨b2, hb2⟩ : ∃ b, Wd.notAbove W.us i u = b := ⟨_, rfl⟩
                              have HB2 : Hid (Wd.notAbove W.us i u = b2) := hb2
                              go_upto_region 25 with fail
                              go_cut [11, 115] from 80 to 230 (fun v11 v115 V => v11 = .int .i64 (i : Nat) ∧ v115 = .bool b2 ∧ Below w5.heap.size w5 V)
                              case first =>
                                rcases Nat.eq_zero_or_pos i with hi0 | hi0
                                · have g0 : ¬ (0 : Int) < (i : Int) := by omega
                                  have hbf : b2 = false := by rw [← hb2, hi0]; rfl
                                  subst hbf
                                  clear hb2
                                  have HI0 : Hid (i = 0) := hi0
                                  have hnp : ¬ 0 < i := by omega
                                  clear hi0
                                  go_quiet (fail)
                                  go_wp2
                                  go_meet
                                  case rel => exact ⟨by first | rfl | rw [HI0.out], rfl, rck_drewN (Below.refl _ _) _⟩
                                · obtain ⟨j, hj⟩ : ∃ j, i = j + 1 := ⟨i - 1, by omega⟩
                                  obtain ⟨v, hv⟩ : ∃ v, W.us[j]? = some v := ⟨_, List.getElem?_eq_getElem (by omega)⟩
                                  have e0 : (i : Int) - 1 = (j : Nat) := by omega
                                  have g0 : (0 : Int) < (i : Int) := by omega
                                  have wj : IntKind.i64.wrap ((j : Nat) : Int) = (j : Nat) := by rw [IntKind.wrap_i64]; omega
                                  have jl : (j : Int) < (W.us.length : Int) := by omega
                                  obtain ⟨d0, -, -, -, -, -, -, -⟩ := (UX.out.2 j v hv).below B5.out (by rw [add_block]; exact UX.out.1)
                                  have hb : decide (u.id ≤ v.id) = b2 := by rw [← hb2, hj]; unfold Wd.notAbove; simp only [hv]
                                  clear hj hb2 hv
                                  cases b2
                                  · have hgt : ¬ u.id ≤ v.id := of_decide_eq_false hb
                                    clear hb
                                    go_quiet (fail)
                                    go_wp2
                                    go_meet
                                    case rel => exact ⟨by first | rfl | rw [HI0.out], rfl, rck_drewN (Below.refl _ _) _⟩
                                  · have hle : u.id ≤ v.id := of_decide_eq_true hb
                                    clear hb
                                    go_quiet (fail)
                                    go_wp2
                                    go_meet
                                    case rel => exact ⟨by first | rfl | rw [HI0.out], rfl, rck_drewN (Below.refl _ _) _⟩
                              case rest =>
                                as_aux_lemma =>
                                obtain ⟨rfl, rfl, hbc⟩ := hcut
                                have BC : Hid (Below w.heap.size w wc) := B5.out.trans (hbc.mono B5.out.size)
                                have XC : Hid (Bw wc w.heap.size W (.slice p1 W.gs.length q1) (.slice p2 W.os.length q2) (.slice p3 W.gold.length q3) (.slice (some x) W.us.length q4) (.slice p5 W.qs.length q5)) := X5.out.below hbc X5.out.lt
                                have VC : Hid (Unc wc ⟨zu, 0, none⟩ u) := U5.out.below hbc U5.out.lt
                                clear hbc hb2 x0 x1 x2 x3 x4 x5 x6 x7 x8 y0 y1 y2 y3 y4 y5 y6 y7 X5 U5 B5 h1 h2
                                obtain ⟨x0, x1, x2, x3, x4, x5, x6, x7, x8⟩ := XC.out
                                obtain ⟨y0, y1, y2, y3, y4, y5, y6, y7⟩ := VC.out
                                simp only [Nat.zero_add] at y1 y2 y3 y4 y5 y6 y7
                                cases b2 with
                                | true =>
                                  have FF : Hid (Wd.wfault ks W = 5) := BAD.out 5 (by decide) (uf2 HB1.out HB2.out)
                                  go_wp2
                                  go_ret
                                  exact ⟨_, rfl, FF.out.symm, BC.out⟩
                                | false =>
                                  by_cases h3 : u.player < 0
                                  · have FF : Hid (Wd.wfault ks W = 1) := BAD.out 1 (by decide) (uf3 HB1.out HB2.out (decide_eq_false (by omega)))
                                    go_wp2
                                    go_ret
                                    exact ⟨_, rfl, FF.out.symm, BC.out⟩
                                  · by_cases h4 : (W.gold.length : Int) ≤ u.player
                                    · have FF : Hid (Wd.wfault ks W = 1) := BAD.out 1 (by decide) (uf3 HB1.out HB2.out (decide_eq_false (by omega)))
                                      go_wp2
                                      go_ret
                                      exact ⟨_, rfl, FF.out.symm, BC.out⟩
                                    · have HB3 : Hid (Wd.has W.gold.length u.player = true) := decide_eq_true (by omega)
                                      by_cases h5 : u.kind < 0
                                      · have FF : Hid (Wd.wfault ks W = 1) := BAD.out 1 (by decide) (uf4 HB1.out HB2.out HB3.out (decide_eq_false (by omega)))
                                        go_wp2
                                        go_ret
                                        exact ⟨_, rfl, FF.out.symm, BC.out⟩
                                      · by_cases h6 : (ks.length : Int) ≤ u.kind
                                        · have FF : Hid (Wd.wfault ks W = 1) := BAD.out 1 (by decide) (uf4 HB1.out HB2.out HB3.out (decide_eq_false (by omega)))
                                          go_wp2
                                          go_ret
                                          exact ⟨_, rfl, FF.out.symm, BC.out⟩
                                        · have HB4 : Hid (Wd.has ks.length u.kind = true) := decide_eq_true (by omega)
                                          obtain ⟨kn, ek⟩ : ∃ kn : Nat, u.kind = kn := ⟨u.kind.toNat, by omega⟩
                                          have hkn : kn < ks.length := by omega
                                          have hkni : (kn : Int) < (ks.length : Int) := by omega
                                          have hkn0 : ¬ (kn : Int) < 0 := by omega
                                          obtain ⟨k, hkk⟩ : ∃ k, ks[kn]? = some k := ⟨_, List.getElem?_eq_getElem hkn⟩
                                          have UF : Hid (Wd.unitFault ks W i u = Wd.kindPart W (W.us.take i) u k) := uf5 HB1.out HB2.out HB3.out HB4.out (by rw [ek, Int.toNat_natCast]; exact hkk)
                                          obtain ⟨xk, rfl, hxk, hkc⟩ := KK.out (by intro e; rw [e] at hkn; simp at hkn)
                                          have KC : Hid (Kc wc (xk.add (kn * 11)) k) := (hkc kn k hkk).below BC.out (by rw [add_block]; exact hxk)
                                          have EK : Hid (u.kind = kn) := ek
                                          rw [ek] at y2
                                          obtain ⟨l0, l1, l2, l3, l4, l5, l6, l7, l8, l9, l10⟩ := KC.out
                                          clear hkc hxk hkk h5 h6 ek
                                          go_upto_region 29 with fail
                                          by_cases a1 : u.life < 1
                                          · have FF : Hid (Wd.wfault ks W = 1) := BAD.out 1 (by decide) (by rw [UF.out, kp1 (.inl (by omega))])
                                            go_quiet (fail)
                                            go_wp2
                                            go_ret
                                            exact ⟨_, rfl, FF.out.symm, rck_drewN BC.out _⟩
                                          · skip
                                            by_cases a2 : k.n0 < u.life
                                            · have FF : Hid (Wd.wfault ks W = 1) := BAD.out 1 (by decide) (by rw [UF.out, kp1 (.inl (by omega))])
                                              go_quiet (fail)
                                              go_wp2
                                              go_ret
                                              exact ⟨_, rfl, FF.out.symm, rck_drewN BC.out _⟩
                                            · skip
                                              by_cases a3 : u.load < 0
                                              · have FF : Hid (Wd.wfault ks W = 1) := BAD.out 1 (by decide) (by rw [UF.out, kp1 (.inr (.inl (by omega)))])
                                                go_quiet (fail)
                                                go_wp2
                                                go_ret
                                                exact ⟨_, rfl, FF.out.symm, rck_drewN BC.out _⟩
                                              · skip
                                                by_cases a4 : k.n7 < u.load
                                                · have FF : Hid (Wd.wfault ks W = 1) := BAD.out 1 (by decide) (by rw [UF.out, kp1 (.inr (.inl (by omega)))])
                                                  go_quiet (fail)
                                                  go_wp2
                                                  go_ret
                                                  exact ⟨_, rfl, FF.out.symm, rck_drewN BC.out _⟩
                                                · skip
                                                  by_cases a5 : u.task < 0
                                                  · have FF : Hid (Wd.wfault ks W = 1) := BAD.out 1 (by decide) (by rw [UF.out, kp1 (.inr (.inr (by omega)))])
                                                    go_quiet (fail)
                                                    go_wp2
                                                    go_ret
                                                    exact ⟨_, rfl, FF.out.symm, rck_drewN BC.out _⟩
                                                  · skip
                                                    by_cases a6 : (2 : Int) < u.task
                                                    · have FF : Hid (Wd.wfault ks W = 1) := BAD.out 1 (by decide) (by rw [UF.out, kp1 (.inr (.inr (by omega)))])
                                                      go_quiet (fail)
                                                      go_wp2
                                                      go_ret
                                                      exact ⟨_, rfl, FF.out.symm, rck_drewN BC.out _⟩
                                                    · skip
                                                      as_aux_lemma =>
                                                      have L1 : 1 ≤ u.life ∧ u.life ≤ k.n0 := ⟨by omega, by omega⟩
                                                      have L2 : 0 ≤ u.load ∧ u.load ≤ k.n7 := ⟨by omega, by omega⟩
                                                      have L3 : 0 ≤ u.task ∧ u.task ≤ 2 := ⟨by omega, by omega⟩
                                                      have HL : Hid ((1 ≤ u.life ∧ u.life ≤ k.n0) ∧ (0 ≤ u.load ∧ u.load ≤ k.n7) ∧ (0 ≤ u.task ∧ u.task ≤ 2)) := ⟨L1, L2, L3⟩
                                                      clear L1 L2 L3
                                                      go_quiet (fail)
                                                      have B7 : Hid (Below w.heap.size w (wc.drewN nq)) := rck_drewN BC.out nq
                                                      have X7 : Hid (Bw (wc.drewN nq) w.heap.size W (.slice p1 W.gs.length q1) (.slice p2 W.os.length q2) (.slice p3 W.gold.length q3) (.slice (some x) W.us.length q4) (.slice p5 W.qs.length q5)) := XC.out.below (rck_drewN (Below.refl _ _) nq) XC.out.lt
                                                      have U7 : Hid (Unc (wc.drewN nq) ⟨zu, 0, none⟩ u) := VC.out.below (rck_drewN (Below.refl _ _) nq) VC.out.lt
                                                      have K7 : Hid (Kc (wc.drewN nq) (xk.add (kn * 11)) k) := KC.out.below (rck_drewN (Below.refl _ _) nq) KC.out.lt
                                                      generalize wc.drewN nq = w7 at *
                                                      clear x0 x1 x2 x3 x4 x5 x6 x7 x8 y0 y1 y2 y3 y4 y5 y6 y7 l0 l1 l2 l3 l4 l5 l6 l7 l8 l9 l10 a1 a2 a3 a4 a5 a6 BC XC VC KC
                                                      obtain ⟨x0, x1, x2, x3, x4, x5, x6, x7, x8⟩ := X7.out
                                                      obtain ⟨y0, y1, y2, y3, y4, y5, y6, y7⟩ := U7.out
                                                      simp only [Nat.zero_add] at y1 y2 y3 y4 y5 y6 y7
                                                      by_cases c1 : u.at_ < 0
                                                      · have FF : Hid (Wd.wfault ks W = 6) := BAD.out 6 (by decide) (by rw [UF.out, kp6 HL.out.1 HL.out.2.1 HL.out.2.2 (.inl (by omega))])
                                                        go_wp2
                                                        go_ret
                                                        exact ⟨_, rfl, FF.out.symm, B7.out⟩
                                                      · skip
                                                        by_cases c2 : (W.gs.length : Int) ≤ u.at_
                                                        · have FF : Hid (Wd.wfault ks W = 6) := BAD.out 6 (by decide) (by rw [UF.out, kp6 HL.out.1 HL.out.2.1 HL.out.2.2 (.inl (by omega))])
                                                          go_wp2
                                                          go_ret
                                                          exact ⟨_, rfl, FF.out.symm, B7.out⟩
                                                        · skip
                                                          by_cases c3 : u.goal < 0
                                                          · have FF : Hid (Wd.wfault ks W = 6) := BAD.out 6 (by decide) (by rw [UF.out, kp6 HL.out.1 HL.out.2.1 HL.out.2.2 (.inr (by omega))])
                                                            go_wp2
                                                            go_ret
                                                            exact ⟨_, rfl, FF.out.symm, B7.out⟩
                                                          · skip
                                                            by_cases c4 : (W.gs.length : Int) ≤ u.goal
                                                            · have FF : Hid (Wd.wfault ks W = 6) := BAD.out 6 (by decide) (by rw [UF.out, kp6 HL.out.1 HL.out.2.1 HL.out.2.2 (.inr (by omega))])
                                                              go_wp2
                                                              go_ret
                                                              exact ⟨_, rfl, FF.out.symm, B7.out⟩
                                                            · skip
                                                              have L1 : 0 ≤ u.at_ ∧ u.at_ < (W.gs.length : Int) := ⟨by omega, by omega⟩
                                                              have L2 : 0 ≤ u.goal ∧ u.goal < (W.gs.length : Int) := ⟨by omega, by omega⟩
                                                              have HM : Hid ((0 ≤ u.at_ ∧ u.at_ < (W.gs.length : Int)) ∧ (0 ≤ u.goal ∧ u.goal < (W.gs.length : Int))) := ⟨L1, L2⟩
                                                              obtain ⟨an, ea⟩ : ∃ an : Nat, u.at_ = an := ⟨u.at_.toNat, by omega⟩
                                                              have EA : Hid (u.at_ = an) := ea
                                                              have hanl : an < W.gs.length := by omega
                                                              obtain ⟨g, hg0⟩ : ∃ g, W.gs[an]? = some g := ⟨_, List.getElem?_eq_getElem hanl⟩
                                                              have HGA : Hid (W.gs[an]? = some g) := hg0
                                                              have GR : Hid (0 ≤ g ∧ g ≤ 3 ∧ W.gs.length ≤ 144) := by
                                                                have hG := GG.out.2.2
                                                                obtain ⟨o, ho⟩ : ∃ o, W.os[an]? = some o := ⟨_, List.getElem?_eq_getElem (by rw [hG.ol, ← hG.gl]; exact hanl)⟩
                                                                have := hG.cell an g o hg0 ho
                                                                have h1 := hG.gl
                                                                have h2 := hG.pos
                                                                exact ⟨by omega, by omega, by omega⟩
                                                              clear ea hg0
                                                              as_aux_lemma =>
                                                              go_upto_region 33 with fail
                                                              clear L1 L2 c1 c2 c3 c4
                                                              have FC : Hid (∀ V, Below w7.heap.size w7 V → V.cell? ⟨w.heap.size, 2, none⟩ = some (.int .i64 W.wide) ∧ V.cell? ⟨w.heap.size, 3, none⟩ = some (.int .i64 W.high) ∧ V.cell? ⟨w.heap.size, 4, none⟩ = some (.slice p1 W.gs.length q1) ∧ V.cell? ⟨w.heap.size, 5, none⟩ = some (.slice p2 W.os.length q2) ∧ V.cell? ⟨zu, 3, none⟩ = some (.int .i64 (an : Nat)) ∧ V.cell? ⟨zu, 2, none⟩ = some (.int .i64 (kn : Nat)) ∧ V.cell? ⟨(xk.add (kn * 11)).block, (xk.add (kn * 11)).off + 9, none⟩ = some (.bool k.f)) := fun V hV => by
                                                                obtain ⟨-, -, z2, z3, z4, z5, -, -, -⟩ := X7.out.below hV X7.out.lt
                                                                obtain ⟨-, -, g2, g3, -, -, -, -⟩ := U7.out.below hV U7.out.lt
                                                                obtain ⟨-, -, -, -, -, -, -, -, -, m9, -⟩ := K7.out.below hV K7.out.lt
                                                                rw [EK.out] at g2
                                                                rw [EA.out] at g3
                                                                simp only [Nat.zero_add] at g2 g3
                                                                exact ⟨z2, z3, z4, z5, g3, g2, m9⟩
                                                              have ONT : Hid (∀ V, Below w7.heap.size w7 V → Calls Tryd.prog 20 #[.agg #[.int .i64 W.wide, .int .i64 W.high, .slice p1 W.gs.length q1, .slice p2 W.os.length q2], .int .i64 (an : Nat), .bool k.f] V fun e w' => e = .returned (.int .i64 (Fd.onto g k.f)) ∧ Below w7.heap.size w7 w') := fun V hV => by
                                                                have BV : Below w.heap.size w V := B7.out.trans (hV.mono B7.out.size)
                                                                obtain ⟨r1, r2, -⟩ := (H.out.below BV).slices
                                                                exact (ref_onto _ W.wide W.high W.gs W.os an g k.f V ⟨_, _, rfl, r1, r2⟩ GR.out.2.2 HGA.out GR.out.1 GR.out.2.1).mono fun e w' ⟨h1, h2⟩ => ⟨h1, hV.trans (h2.mono hV.size)⟩
                                                              have eo : ∀ args w, (callFunc 20 args).run Tryd.prog w = .ok (.enter 20 args) w := by intro args w; go_simp
                                                              refine wp_region_class 11 (fun V => Below w7.heap.size w7 V) (by kernel_rfl) (by kernel_rfl) (Below.refl _ _).drew ?_
                                                              simp only [List.take_succ_cons, List.take_zero, List.drop_succ_cons, List.drop_zero]
                                                              refine head_step (.pointer (some ⟨w.heap.size, 2, none⟩)) (by go_simp) (fun V hV => by go_simp) ?_
                                                              go_simp
                                                              refine head_step (.agg #[.int .i64 W.wide, .int .i64 W.high, .slice p1 W.gs.length q1, .slice p2 W.os.length q2]) (by go_simp) (fun V hV => by obtain ⟨f2, f3, f4, f5, -⟩ := FC.out V hV; go_simp) ?_
                                                              go_simp
                                                              refine head_step (.pointer (some ⟨zu, 3, none⟩)) (by go_simp) (fun V hV => by go_simp) ?_
                                                              go_simp
                                                              refine head_step (.int .i64 (an : Nat)) (by go_simp) (fun V hV => by obtain ⟨-, -, -, -, f8, -⟩ := FC.out V hV; go_simp) ?_
                                                              go_simp
                                                              refine head_step (.slice (some xk) ks.length qk) (by go_simp) (fun V hV => by go_simp) ?_
                                                              go_simp
                                                              refine head_step (.pointer (some ⟨zu, 2, none⟩)) (by go_simp) (fun V hV => by go_simp) ?_
                                                              go_simp
                                                              refine head_step (.int .i64 (kn : Nat)) (by go_simp) (fun V hV => by obtain ⟨-, -, -, -, -, f9, -⟩ := FC.out V hV; go_simp) ?_
                                                              go_simp
                                                              refine head_step (.pointer (some (xk.add (kn * 11)))) (by go_simp) (fun V hV => by go_simp) ?_
                                                              go_simp
                                                              refine head_step (.pointer (some ⟨(xk.add (kn * 11)).block, (xk.add (kn * 11)).off + 9, none⟩)) (by go_simp) (fun V hV => by go_simp) ?_
                                                              go_simp
                                                              refine head_step (.bool k.f) (by go_simp) (fun V hV => by obtain ⟨-, -, -, -, -, -, f10⟩ := FC.out V hV; go_simp) ?_
                                                              go_simp
                                                              refine head_call (.int .i64 (Fd.onto g k.f)) 20 #[.agg #[.int .i64 W.wide, .int .i64 W.high, .slice p1 W.gs.length q1, .slice p2 W.os.length q2], .int .i64 (an : Nat), .bool k.f] (by go_simp) (fun V hV => by go_simp) (fun V hV => ONT.out V hV) ?_
                                                              go_simp
                                                              intro V hV
                                                              have BV : Hid (Below w.heap.size w V) := B7.out.trans (hV.mono B7.out.size)
                                                              have XV : Hid (Bw V w.heap.size W (.slice p1 W.gs.length q1) (.slice p2 W.os.length q2) (.slice p3 W.gold.length q3) (.slice (some x) W.us.length q4) (.slice p5 W.qs.length q5)) := X7.out.below hV X7.out.lt
                                                              have VV : Hid (Unc V ⟨zu, 0, none⟩ u) := U7.out.below hV U7.out.lt
                                                              obtain ⟨sv, hsv⟩ : ∃ sv, Fd.onto g k.f = sv := ⟨_, rfl⟩
                                                              have SV : Hid (Fd.onto g k.f = sv ∧ 0 ≤ sv) := ⟨hsv, by rw [← hsv]; exact onto_nonneg _ _⟩
                                                              rw [hsv]
                                                              clear hV FC ONT hsv x0 x1 x2 x3 x4 x5 x6 x7 x8 y0 y1 y2 y3 y4 y5 y6 y7 X7 U7 K7 B7
                                                              obtain ⟨x0, x1, x2, x3, x4, x5, x6, x7, x8⟩ := XV.out
                                                              obtain ⟨y0, y1, y2, y3, y4, y5, y6, y7⟩ := VV.out
                                                              simp only [Nat.zero_add] at y1 y2 y3 y4 y5 y6 y7
                                                              rw [EA.out] at y3
                                                              go_wp2_with fail
                                                              refine (ron_any _ W (an : Nat) V (H.out.below BV.out)).mono ?_
                                                              rintro e w8 ⟨r, rfl, hf, hb8⟩
                                                              have B8 : Hid (Below w.heap.size w w8) := BV.out.trans (hb8.mono BV.out.size)
                                                              have X8 : Hid (Bw w8 w.heap.size W (.slice p1 W.gs.length q1) (.slice p2 W.os.length q2) (.slice p3 W.gold.length q3) (.slice (some x) W.us.length q4) (.slice p5 W.qs.length q5)) := XV.out.below hb8 XV.out.lt
                                                              have U8 : Hid (Unc w8 ⟨zu, 0, none⟩ u) := VV.out.below hb8 VV.out.lt
                                                              have OF := on_fst HU.out EA.out hf
                                                              clear hb8 hf x0 x1 x2 x3 x4 x5 x6 x7 x8 y0 y1 y2 y3 y4 y5 y6 y7 XV VV BV
                                                              obtain ⟨y0, y1, y2, y3, y4, y5, y6, y7⟩ := U8.out
                                                              simp only [Nat.zero_add] at y1 y2 y3 y4 y5 y6 y7
                                                              have OP : Hid (Wd.open_ W.gs (W.us.take i) u.at_ k.f = (decide (0 < sv) && !(W.us.take i).any (fun u => u.at_ == (an : Int)))) := by unfold Hid; rw [EA.out, open_of HGA.out, SV.out.1]
                                                              have KP7 : Hid (Wd.open_ W.gs (W.us.take i) u.at_ k.f = false ∨ (u.goal ≠ 0 ∧ u.task = 0) → Wd.wfault ks W = 7) := fun h => BAD.out 7 (by decide) (by rw [UF.out, kp7 HL.out.1 HL.out.2.1 HL.out.2.2 HM.out.1 HM.out.2 h])
                                                              by_cases hs0 : sv = 0
                                                              · have FF : Hid (Wd.wfault ks W = 7) := KP7.out (.inl (by rw [OP.out, hs0]; rfl))
                                                                subst hs0
                                                                clear OF
                                                                go_wp2
                                                                go_ret
                                                                exact ⟨_, rfl, FF.out.symm, B8.out⟩
                                                              · have S1 : Hid (decide (0 < sv) = true) := decide_eq_true (by have := SV.out.2; omega)
                                                                have hsb : (sv == 0) = false := by simpa using hs0
                                                                clear hs0
                                                                rcases OF with ⟨n, rfl, hni, hany⟩ | ⟨rfl, hany⟩
                                                                · have FF : Hid (Wd.wfault ks W = 7) := KP7.out (.inl (by rw [OP.out, hany]; simp))
                                                                  have hnii : (n : Int) < (i : Int) := by omega
                                                                  clear hany
                                                                  go_wp2
                                                                  go_ret
                                                                  exact ⟨_, rfl, FF.out.symm, B8.out⟩
                                                                · have OPT : Hid (Wd.open_ W.gs (W.us.take i) u.at_ k.f = true) := by unfold Hid; rw [OP.out, hany, S1.out]; rfl
                                                                  clear hany
                                                                  by_cases hgo : u.goal = 0
                                                                  · have G2 : Hid (Wd.unitsGo ks W (i + 1) (W.us.drop (i + 1)) = Wd.unitsGo ks W 0 W.us) := by unfold Hid; rw [GA.out, if_pos (by rw [UF.out, kp0 HL.out.1 HL.out.2.1 HL.out.2.2 HM.out.1 HM.out.2 OPT.out (.inl hgo)])]
                                                                    rw [hgo] at y7
                                                                    clear hgo
                                                                    go_wp2
                                                                    go_roundw
                                                                    case rel => exact ⟨i + 1, by omega, rfl, G2.out, X8.out, B8.out⟩
                                                                    case measure => simp [intOf]; omega
                                                                  · by_cases hta : u.task = 0
                                                                    · have FF : Hid (Wd.wfault ks W = 7) := KP7.out (.inr ⟨hgo, hta⟩)
                                                                      rw [hta] at y6
                                                                      clear hta
                                                                      go_wp2
                                                                      go_ret
                                                                      exact ⟨_, rfl, FF.out.symm, B8.out⟩
                                                                    · have G2 : Hid (Wd.unitsGo ks W (i + 1) (W.us.drop (i + 1)) = Wd.unitsGo ks W 0 W.us) := by unfold Hid; rw [GA.out, if_pos (by rw [UF.out, kp0 HL.out.1 HL.out.2.1 HL.out.2.2 HM.out.1 HM.out.2 OPT.out (.inr hta)])]
                                                                      have htb : (u.task == 0) = false := by simpa using hta
                                                                      clear hta
                                                                      go_wp2
                                                                      go_roundw
                                                                      case rel => exact ⟨i + 1, by omega, rfl, G2.out, X8.out, B8.out⟩
                                                                      case measure => simp [intOf]; omega
                  · have hlt : i < W.gold.length := by omega
                    have hli : (i : Int) < (W.gold.length : Int) := by omega
                    obtain ⟨g, hg⟩ : ∃ g, W.gold[i]? = some g := ⟨_, List.getElem?_eq_getElem hlt⟩
                    obtain ⟨x, rfl, hx, hcell⟩ := GC.out (by intro e; rw [e] at hlt; simp at hlt)
                    have d0 : w2.cell? (x.add i) = some (.int .i64 g) := by rw [B2.out.cell (p := x.add i) (by rw [add_block]; exact hx)]; exact hcell i g hg
                    obtain ⟨t3, ht3⟩ : ∃ b, decide (0 ≤ g ∧ g ≤ 1000000) = b := ⟨_, rfl⟩
                    have T3 : Hid (decide (0 ≤ g ∧ g ≤ 1000000) = t3) := ht3
                    have G3 : Hid (W.gold[i]? = some g) := hg
                    clear ht3 hcell hx hg hil
                    go_wp2_with fail
                    refine (rnumber_q g t3 w2 T3).mono ?_
                    rintro e w3 ⟨rfl, hww⟩
                    obtain rfl := hww.symm
                    cases t3 with
                    | false =>
                      have FF : Hid (Wd.wfault ks W = 1) := wf_nums HZ.out (nb_gold G3.out T3.out)
                      go_wp2
                      go_ret
                      exact ⟨_, rfl, FF.out.symm, B2.out⟩
                    | true =>
                      have N2 : Hid ((W.gold.take (i + 1)).any (Wd.off 0) = false) := gany_next G3.out AN.out (by unfold Wd.off; rw [T3.out]; rfl)
                      go_wp2
                      go_roundw
                      case rel => exact ⟨i + 1, by omega, rfl, N2.out, trivial⟩
                      case measure => simp [intOf]; omega
    · have FF : Hid (Wd.wfault ks W = f2) := by unfold Hid; rw [gr_field F1.out (by rw [F2.out]; exact hz), F2.out]
      go_wp2
      go_ret
      exact ⟨_, rfl, FF.out.symm, B2.out⟩
  · have FF : Hid (Wd.wfault ks W = f1) := by unfold Hid; rw [gr_kinds (by rw [F1.out]; exact hz), F1.out]
    go_wp2
    go_ret
    exact ⟨_, rfl, FF.out.symm, B1.out⟩
end Go.Proofs.YtamgjhehnblbgaaDoor

namespace Go.Proofs.YtamgjhehnblbgaaDoor
open Go.RowKit
set_option linter.unusedVariables false

theorem any_next_bad {ks : List KV} {us : List UnV} {n : Nat} {u : UnV} (h : us[n]? = some u) : (us.take (n + 1)).any (unBad ks) = ((us.take n).any (unBad ks) || unBad ks u) := by
  obtain ⟨hi, e⟩ := List.getElem?_eq_some_iff.1 h
  rw [List.take_succ_eq_append_getElem hi, List.any_append, e]
  simp
theorem worthOf_take {ks : List KV} {us : List UnV} {n : Nat} (h : (us.take n).any (unBad ks) = false) (hk : ∀ k ∈ ks, 0 ≤ k.n5 ∧ k.n5 ≤ 1000 ∧ 0 < k.n0) (hn : n ≤ us.length) (j : Int) : 0 ≤ worthOf ks (us.take n) j ∧ worthOf ks (us.take n) j ≤ 1000 * n := by
  have := worthOf_bound hk h j n (by rw [List.length_take]; omega)
  rwa [List.take_take, Nat.min_self] at this

/-- what the reference says of some units. -/
def RefW (R : Int) (ks : List KV) (us : List UnV) (w : World) (r : Value) (n : Int) : Prop :=
  (R ≠ 0 ∧ Ro w r [] ∧ n = R) ∨ (R = 0 ∧ 40 < us.length ∧ Ro w r [] ∧ n = 4) ∨ (R = 0 ∧ us.length ≤ 40 ∧ us.any (unBad ks) = true ∧ Ro w r [] ∧ n = 1) ∨ (R = 0 ∧ us.length ≤ 40 ∧ us.any (unBad ks) = false ∧ Ro w r (worths ks us) ∧ n = 0)

set_option maxRecDepth 100000 in
set_option maxHeartbeats 16000000 in
theorem ref_worth (v : Value) (ks : List KV) (y : Value) (us : List UnV) (w : World) (h : Kl w v ks) (hb : ∀ k ∈ ks, k.b.size ≤ 9223372036854775807) (hu : Unl w y us) :
    Calls Tryd.prog 9 #[v, y] w fun e w' => ∃ (r : Value) (n : Int), e = .returned (.tuple #[r, .int .i64 n]) ∧ Below w.heap.size w w' ∧ RefW (Kd.kindsFault (ks.map KV.k)) ks us w' r n := by
  have K0 : Hid (Kl w v ks) := h
  have U0 : Hid (Unl w y us) := hu
  have CA : Hid (Calls Tryd.prog 17 #[v] w fun e w' => e = .returned (.int .i64 (Kd.kindsFault (ks.map KV.k))) ∧ Below w.heap.size w w') := ref_kinds v ks w h hb
  have KR : Hid (Kd.kindsFault (ks.map KV.k) = 0 → ks.length ≤ 8 ∧ ∀ k ∈ ks, 0 ≤ k.n5 ∧ k.n5 ≤ 1000 ∧ 0 < k.n0 ∧ k.n0 ≤ 1000) := kinds_right
  generalize Kd.kindsFault (ks.map KV.k) = R at *
  have RN : Hid (∀ W : World, Ro W (.slice none 0 0) []) := fun W => ⟨none, 0, rfl, Nat.le_refl _, by omega, fun h => absurd rfl h⟩
  clear hb
  obtain ⟨a, c, rfl, c1, c2, -⟩ := h
  obtain ⟨au, cu, rfl, cu1, cu2, -⟩ := hu
  go_enter Tryd.func9, Tryd.ntmps9
  go_wp2_with fail
  refine CA.out.mono ?_
  rintro e w2 ⟨rfl, b1⟩
  have B2 : Hid (Below w.heap.size w w2) := b1
  clear CA b1
  by_cases h0 : R = 0
  · have H0 : Hid (R = 0) := h0
    rw [h0]
    clear h0
    by_cases h40 : 40 < us.length
    · have h40' : (40 : Int) < (us.length : Int) := by omega
      go_wp2
      go_ret2
      exact ⟨_, _, rfl, B2, .inr (.inl ⟨H0, h40, RN.out _, rfl⟩)⟩
    · have h40' : ¬ (40 : Int) < (us.length : Int) := by omega
      have hl40 : us.length ≤ 40 := by omega
      have KR2 : Hid (ks.length ≤ 8 ∧ ∀ k ∈ ks, 0 ≤ k.n5 ∧ k.n5 ≤ 1000 ∧ 0 < k.n0 ∧ k.n0 ≤ 1000) := KR.out H0.out
      have hm := makeI4 w2
      have hl0 : w.heap.size ≤ w2.heap.size := B2.out.size
      have BB : Hid (Below w2.heap.size w2 (w2.alloc (Obj.cells #[.int .i64 0, .int .i64 0, .int .i64 0, .int .i64 0] 3))) := (Below.refl _ _).alloc (Nat.le_refl _) _
      have BK : Hid (Bk (w2.alloc (Obj.cells #[.int .i64 0, .int .i64 0, .int .i64 0, .int .i64 0] 3)) w2.heap.size (worths ks []) #[]) := by
        unfold Hid Bk
        rw [World.alloc_heap_new]
        rfl
      clear KR
      go_wp2_with fail
      go_loopw [8] (fun j W' => ∃ n : Nat, n ≤ us.length ∧ j = .int .i64 (n : Nat) ∧ (us.take n).any (unBad ks) = false ∧ Bk W' w2.heap.size (worths ks (us.take n)) #[] ∧ Below w2.heap.size w2 W') (fun j _ => us.length - (intOf j).toNat)
      case atStart => exact ⟨0, Nat.zero_le _, rfl, by simp, BK, BB⟩
      case round =>
        obtain ⟨n, hn, rfl, han, hbk, hbb⟩ := hrel
        have An : Hid ((us.take n).any (unBad ks) = false) := han
        have Bk1 : Hid (Bk wr w2.heap.size (worths ks (us.take n)) #[]) := hbk
        have Bb1 : Hid (Below w2.heap.size w2 wr) := hbb
        have Bw : Hid (Below w.heap.size w wr) := B2.out.trans (hbb.mono hl0)
        clear hbk hbb han
        by_cases hne : n = us.length
        · subst hne
          go_wp2
          go_ret2
          have HA : us.any (unBad ks) = false := by have := An.out; rwa [List.take_of_length_le (Nat.le_refl _)] at this
          refine ⟨_, _, rfl, Bw, .inr (.inr (.inr ⟨H0, hl40, HA, ?_, rfl⟩))⟩
          have := Bk1.out.ro (c := 4) (by simp [worths]) (by omega)
          rw [List.take_of_length_le (Nat.le_refl _)] at this
          exact this
        · have hnl : n < us.length := by omega
          have hnl' : (n : Int) < (us.length : Int) := by omega
          obtain ⟨u, hu⟩ : ∃ u, us[n]? = some u := ⟨_, List.getElem?_eq_getElem hnl⟩
          have A2 : Hid ((us.take (n + 1)).any (unBad ks) = unBad ks u) := by
            unfold Hid
            rw [any_next_bad hu, An.out]
            rfl
          have AT : Hid (unBad ks u = true → us.any (unBad ks) = true) := fun h => List.any_eq_true.2 ⟨u, List.mem_of_getElem? hu, h⟩
          have Uc := U0.out.below Bw.out
          obtain ⟨au', cu', e, -, -, hux⟩ := Uc
          injection e with e1 e2 e3
          subst e1 e3
          obtain ⟨xu, rfl, hxu1, hxu⟩ := hux (by rintro rfl; simp at hnl)
          have UC := hxu n u hu
          have Hu : Hid (us[n]? = some u) := hu
          obtain ⟨u0, u1, u2, u3, u4, u5, u6, u7⟩ := UC
          have Hs1 : Hid (w2.heap.size < wr.heap.size) := Bk1.out.lt
          clear hux hxu hu e2 hxu1
          obtain ⟨id, player, kind, at_, life, load, task, goal⟩ := u
          simp only at u0 u1 u2 u3 u4 u5 u6 u7
          go_upto_region 11 with fail
          have b3 : Below wr.heap.size wr (wr.alloc (Obj.cells #[.int .i64 id, .int .i64 player, .int .i64 kind, .int .i64 at_, .int .i64 life, .int .i64 load, .int .i64 task, .int .i64 goal] 45)) := (Below.refl _ _).alloc (Nat.le_refl _) _
          have X3 := Unc.mk' (w := wr) ⟨id, player, kind, at_, life, load, task, goal⟩ rfl
          simp only at X3
          clear u0 u1 u2 u3 u4 u5 u6 u7
          generalize wr.alloc (Obj.cells #[.int .i64 id, .int .i64 player, .int .i64 kind, .int .i64 at_, .int .i64 life, .int .i64 load, .int .i64 task, .int .i64 goal] 45) = w3 at *
          have B3 : Hid (Below wr.heap.size wr w3) := b3
          have Bw3 : Hid (Below w.heap.size w w3) := Bw.out.trans (b3.mono Bw.out.size)
          have x1 : w3.cell? ⟨wr.heap.size, 1, none⟩ = some (.int .i64 player) := X3.c1
          have x2 : w3.cell? ⟨wr.heap.size, 2, none⟩ = some (.int .i64 kind) := X3.c2
          have x4 : w3.cell? ⟨wr.heap.size, 4, none⟩ = some (.int .i64 life) := X3.c4
          have Bk3 : Hid (Bk w3 w2.heap.size (worths ks (us.take n)) #[]) := Bk1.out.low b3 Hs1.out
          have Bb3 : Hid (Below w2.heap.size w2 w3) := Bb1.out.trans (b3.mono Bb1.out.size)
          clear X3 b3
          by_cases h1 : player < 0
          · have E : Hid (unBad ks ⟨id, player, kind, at_, life, load, task, goal⟩ = true) := by
              unfold Hid unBad
              split
              · rfl
              · exact decide_eq_true (by simp only; omega)
            go_quiet (fail)
            go_wp2
            go_ret2
            exact ⟨_, _, rfl, bdn Bw3.out _, .inr (.inr (.inl ⟨H0, hl40, AT.out E.out, RN.out _, rfl⟩))⟩
          · by_cases h2 : 3 < player
            · have E : Hid (unBad ks ⟨id, player, kind, at_, life, load, task, goal⟩ = true) := by
                unfold Hid unBad
                split
                · rfl
                · exact decide_eq_true (by simp only; omega)
              go_quiet (fail)
              go_wp2
              go_ret2
              exact ⟨_, _, rfl, bdn Bw3.out _, .inr (.inr (.inl ⟨H0, hl40, AT.out E.out, RN.out _, rfl⟩))⟩
            · by_cases h3 : kind < 0
              · have E : Hid (unBad ks ⟨id, player, kind, at_, life, load, task, goal⟩ = true) := by
                  unfold Hid unBad
                  rw [show kindAt ks kind = none by unfold kindAt; rw [if_pos h3]]
                go_quiet (fail)
                go_wp2
                go_ret2
                exact ⟨_, _, rfl, bdn Bw3.out _, .inr (.inr (.inl ⟨H0, hl40, AT.out E.out, RN.out _, rfl⟩))⟩
              · by_cases h4 : (ks.length : Int) ≤ kind
                · have E : Hid (unBad ks ⟨id, player, kind, at_, life, load, task, goal⟩ = true) := by
                    unfold Hid unBad
                    rw [show kindAt ks kind = none by unfold kindAt; rw [if_neg h3]; exact List.getElem?_eq_none (by omega)]
                  go_quiet (fail)
                  go_wp2
                  go_ret2
                  exact ⟨_, _, rfl, bdn Bw3.out _, .inr (.inr (.inl ⟨H0, hl40, AT.out E.out, RN.out _, rfl⟩))⟩
                · by_cases h5 : life < 0
                  · have E : Hid (unBad ks ⟨id, player, kind, at_, life, load, task, goal⟩ = true) := by
                      unfold Hid unBad
                      split
                      · rfl
                      · exact decide_eq_true (by simp only; omega)
                    go_quiet (fail)
                    go_wp2
                    go_ret2
                    exact ⟨_, _, rfl, bdn Bw3.out _, .inr (.inr (.inl ⟨H0, hl40, AT.out E.out, RN.out _, rfl⟩))⟩
                  · obtain ⟨i, rfl⟩ : ∃ i : Nat, kind = i := ⟨kind.toNat, by omega⟩
                    have hil : i < ks.length := by omega
                    have hil' : (i : Int) < (ks.length : Int) := by omega
                    obtain ⟨k, hk⟩ : ∃ k, ks[i]? = some k := ⟨_, List.getElem?_eq_getElem hil⟩
                    have Kk := K0.out.below Bw3.out
                    obtain ⟨a', c', e, -, -, hkx⟩ := Kk
                    injection e with e1 e2 e3
                    subst e1 e3
                    obtain ⟨xk, rfl, hxk1, hxk⟩ := hkx (by rintro rfl; simp at hil)
                    have KC := hxk i k hk
                    have k1 : w3.cell? ⟨(xk.add (i * 11)).block, (xk.add (i * 11)).off + 1, none⟩ = some (.int .i64 k.n0) := KC.c1
                    have KC' : Hid (Kc w3 (xk.add (i * 11)) k) := KC
                    have Hk : Hid (ks[i]? = some k) := hk
                    clear hkx hxk KC e2 hxk1 hk
                    by_cases h6 : k.n0 < life
                    · have E : Hid (unBad ks ⟨id, player, i, at_, life, load, task, goal⟩ = true) := by
                        unfold Hid unBad
                        rw [kindAt_nat, Hk.out]
                        exact decide_eq_true (by simp only; omega)
                      go_quiet (fail)
                      go_wp2
                      go_ret2
                      exact ⟨_, _, rfl, bdn Bw3.out _, .inr (.inr (.inl ⟨H0, hl40, AT.out E.out, RN.out _, rfl⟩))⟩
                    · have E : Hid (unBad ks ⟨id, player, i, at_, life, load, task, goal⟩ = false) := by
                        unfold Hid unBad
                        rw [kindAt_nat, Hk.out]
                        exact decide_eq_false (by simp only; omega)
                      have kb := KR2.out.2 k (List.mem_of_getElem? Hk.out)
                      have WB := worthOf_take An.out (fun k hk => ⟨(KR2.out.2 k hk).1, (KR2.out.2 k hk).2.1, (KR2.out.2 k hk).2.2.1⟩) hn player
                      have WN : Hid (∀ j, worthOf ks (us.take (n + 1)) j = if player = j then worthOf ks (us.take n) j + worthOne ks ⟨id, player, i, at_, life, load, task, goal⟩ else worthOf ks (us.take n) j) := worthOf_next Hu.out
                      have hwo : worthOne ks ⟨id, player, i, at_, life, load, task, goal⟩ = (k.n5 * life).tdiv k.n0 := by
                        unfold worthOne
                        rw [kindAt_nat, Hk.out]
                      obtain ⟨p, rfl⟩ : ∃ p : Nat, player = p := ⟨player.toNat, by omega⟩
                      have hp4 : p < 4 := by omega
                      have hp4' : (p : Int) < 4 := by omega
                      have Wd : Hid ((worths ks (us.take n))[p]? = some (worthOf ks (us.take n) p)) := by
                        unfold Hid worths
                        match p, hp4 with
                        | 0, _ => rfl
                        | 1, _ => rfl
                        | 2, _ => rfl
                        | 3, _ => rfl
                      have Ws : Hid ((worths ks (us.take n)).set p (worthOf ks (us.take n) p + worthOne ks ⟨id, p, i, at_, life, load, task, goal⟩) = worths ks (us.take (n + 1))) := by
                        unfold Hid worths
                        rw [WN.out 0, WN.out 1, WN.out 2, WN.out 3]
                        match p, hp4 with
                        | 0, _ => rfl
                        | 1, _ => rfl
                        | 2, _ => rfl
                        | 3, _ => rfl
                      have PL := part_le kb.1 kb.2.1 (show 0 ≤ life by omega) (show life ≤ k.n0 by omega) kb.2.2.1
                      have ML : 0 ≤ k.n5 * life ∧ k.n5 * life ≤ 1000000 := ⟨Int.mul_nonneg kb.1 (by omega), by
                        have : k.n5 * life ≤ 1000 * 1000 := Int.mul_le_mul kb.2.1 (by omega) (by omega) (by decide)
                        omega⟩
                      obtain ⟨hm1, hm2⟩ := ML
                      obtain ⟨hq1, hq2⟩ := PL
                      obtain ⟨hb1, hb2⟩ := WB
                      obtain ⟨g1, g2, g3, g4⟩ := kb
                      rw [hwo] at Ws
                      generalize worthOf ks (us.take n) p = sm at *
                      have kn5 : w3.cell? ⟨(xk.add (i * 11)).block, (xk.add (i * 11)).off + 6, none⟩ = some (.int .i64 k.n5) := KC'.out.c6
                      have hlife : 0 ≤ life := by omega
                      have hlm : life ≤ k.n0 := by omega
                      clear hwo WN KC' Hk
                      generalize k.n5 = n5 at *
                      generalize k.n0 = n0 at *
                      obtain ⟨m, em⟩ : ∃ m, n5 * life = m := ⟨_, rfl⟩
                      rw [em] at hm1 hm2 hq1 hq2 Ws
                      obtain ⟨qq, eq⟩ : ∃ qq, m.tdiv n0 = qq := ⟨_, rfl⟩
                      rw [eq] at hq1 hq2 Ws
                      have y0 : w3.cell? ⟨w2.heap.size, p, none⟩ = some (.int .i64 sm) := Bk3.out.cell Wd.out
                      have y1 : w3.frozen? ⟨w2.heap.size, p, none⟩ = false := Bk3.out.thaw p
                      have hn0 : n0 ≠ 0 := by omega
                      have hsm : sm ≤ 1000000 := by omega
                      go_quiet (fail)
                      have Bk4 : Hid (Bk (w3.drewN nq) w2.heap.size (worths ks (us.take n)) #[]) := Bk3.out.drewN _
                      have Bb4 : Hid (Below w2.heap.size w2 (w3.drewN nq)) := bdn Bb3.out _
                      have z1 : (w3.drewN nq).cell? ⟨wr.heap.size, 1, none⟩ = some (.int .i64 (p : Nat)) := x1
                      have z2 : (w3.drewN nq).cell? ⟨wr.heap.size, 2, none⟩ = some (.int .i64 (i : Nat)) := x2
                      have z4 : (w3.drewN nq).cell? ⟨wr.heap.size, 4, none⟩ = some (.int .i64 life) := x4
                      have z5 : (w3.drewN nq).cell? ⟨(xk.add (i * 11)).block, (xk.add (i * 11)).off + 1, none⟩ = some (.int .i64 n0) := k1
                      have z6 : (w3.drewN nq).cell? ⟨(xk.add (i * 11)).block, (xk.add (i * 11)).off + 6, none⟩ = some (.int .i64 n5) := kn5
                      have z7 : (w3.drewN nq).cell? ⟨w2.heap.size, p, none⟩ = some (.int .i64 sm) := y0
                      have z8 : (w3.drewN nq).frozen? ⟨w2.heap.size, p, none⟩ = false := y1
                      clear x1 x2 x4 k1 kn5 y0 y1
                      generalize w3.drewN nq = w4 at *
                      go_upto_region 13 with fail
                      have d1 : World.cell? { w4 with drawn := w4.drawn + 1 } ⟨wr.heap.size, 1, none⟩ = some (.int .i64 (p : Nat)) := z1
                      have d2 : World.cell? { w4 with drawn := w4.drawn + 1 } ⟨wr.heap.size, 2, none⟩ = some (.int .i64 (i : Nat)) := z2
                      have d4 : World.cell? { w4 with drawn := w4.drawn + 1 } ⟨wr.heap.size, 4, none⟩ = some (.int .i64 life) := z4
                      have d5 : World.cell? { w4 with drawn := w4.drawn + 1 } ⟨(xk.add (i * 11)).block, (xk.add (i * 11)).off + 1, none⟩ = some (.int .i64 n0) := z5
                      have d6 : World.cell? { w4 with drawn := w4.drawn + 1 } ⟨(xk.add (i * 11)).block, (xk.add (i * 11)).off + 6, none⟩ = some (.int .i64 n5) := z6
                      have d7 : World.cell? { w4 with drawn := w4.drawn + 1 } ⟨w2.heap.size, p, none⟩ = some (.int .i64 sm) := z7
                      have d8 : World.frozen? { w4 with drawn := w4.drawn + 1 } ⟨w2.heap.size, p, none⟩ = false := z8
                      go_still_tail 26, (by kernel_rfl)
                      all_goals
                        go_wp2
                        refine ⟨⟨n + 1, by omega, by go_num, by rw [A2.out, E.out], ?_, ?_⟩, by simp [intOf]; omega⟩
                        · have := Bk4.out.set p (sm + qq) (by simpa [worths] using hp4)
                          rw [Ws.out] at this
                          exact this
                        · exact ((Bb4.out.setCell (p := ⟨w2.heap.size, p, none⟩) (Nat.le_refl _) _).drew)
  · have H0 : Hid (R ≠ 0) := h0
    clear KR
    go_wp2
    go_ret2
    exact ⟨_, _, rfl, B2, .inl ⟨H0, RN.out _, rfl⟩⟩
end Go.Proofs.YtamgjhehnblbgaaDoor

namespace Go.Proofs.YtamgjhehnblbgaaDoor
open Go.RowKit
set_option linter.unusedVariables false

theorem run_int (w : World) (ty : TypeId) (base : Nat) (v : Value) (xs : List Int) (hown : Ow w base v xs) (ad : Addr) (d : Int) (hd : w.cell? ad = some (.int .i64 d)) (hl : xs.length ≤ 1000000) (hbase : base ≤ w.heap.size) :
    ∃ g cap w', (Builtin.append_ #[31, 31] ty #[v, .slice (some ad) 1 1]).run Tryd.prog w = .ok (.slice (some ⟨g, 0, none⟩) (xs.length + 1) cap) w' ∧ Ow w' base (.slice (some ⟨g, 0, none⟩) (xs.length + 1) cap) (xs ++ [d]) ∧ w.grownBy w' v.ownBlock ∧ (v.ownBlock = some g ∨ g = w.heap.size) ∧ g < w'.heap.size := by
  obtain ⟨i0, hi, hz0, hz1, hz2⟩ := info_parts info_int
  obtain ⟨g, cap, w6, hr, ho6, hg6, ha6, hl6⟩ := run_append_lies (P := Tryd.prog) w 31 31 base 3 i0 (.int .i64 0) 1 8 Tryd.underlying31 hi hz0 hz1 hz2 rfl (by decide) v xs.length _ hown ad 1 1 [.int .i64 d] rfl (fun j u hj => by
    have hjn : j < 1 := (List.getElem?_eq_some_iff.1 hj).1
    match j, hjn, hj with
    | 0, _, hj => simp at hj; subst hj; exact hd) (fun u hu => by
    simp at hu
    rw [hu]; rfl) (by decide) (by unfold maxLen; omega) (by omega) hbase _ rfl
  refine ⟨g, cap, w6, hr, ?_, hg6, ha6, hl6⟩
  unfold Ow
  rw [List.length_append, List.map_append]
  simpa using ho6
end Go.Proofs.YtamgjhehnblbgaaDoor

namespace Go.Proofs.YtamgjhehnblbgaaDoor
open Go.ChangeShapes Go.WideShapes Go.ChangeAt Go.RowKit
set_option linter.unusedVariables false

set_option maxRecDepth 100000 in
theorem ints_in {H : Type} {enc : TypeId × Value → H} {W : World} {base b0 : Nat} {held : Bool} {v : Value} {d : DataW H} {p : List MemPlace} (hv : Value.okWide Tryd.prog W .any b0 31 v) (h : DataW.Trod enc Tryd.prog W base (fun _ => true) held 31 v d p) : ∃ zs, Ro W v zs := by
  obtain ⟨a, len, cap, rfl⟩ := okWide_slice Tryd.underlying31 hv
  obtain ⟨fuel, hf⟩ := h
  rcases open_ints Tryd.underlying31 Tryd.underlying3 (by kernel_rfl) hf with ⟨hcs, _⟩ | ⟨x, l, c, zs, hcs, _, hl, hm, hz, _, hcell, hwz⟩
  · simp [Value.cells] at hcs
    obtain ⟨rfl, rfl, rfl⟩ := hcs
    exact ⟨_, IsRow.ro (.inl ⟨rfl, rfl, rfl, rfl⟩)⟩
  · simp [Value.cells] at hcs
    obtain ⟨rfl, rfl, rfl⟩ := hcs
    exact ⟨_, IsRow.ro (zs := zs) (.inr ⟨_, rfl, hl, hm, by simpa using hz, hcell, hwz⟩)⟩
end Go.Proofs.YtamgjhehnblbgaaDoor

namespace Go.Proofs.YtamgjhehnblbgaaDoor
open Go.ChangeShapes Go.WideShapes Go.ChangeAt Go.RowKit
set_option linter.unusedVariables false

theorem in64_of_wf {n : Int} (h : (Lit.int .i64 n).wf = true) : Wd.In64 n := by
  unfold Wd.In64
  simp only [Lit.wf, Bool.and_eq_true, decide_eq_true_eq] at h
  have h1 : IntKind.i64.min = -9223372036854775808 := by decide
  have h2 : IntKind.i64.max = 9223372036854775807 := by decide
  omega
theorem byte_of_wf {n : Int} (h : (Lit.int .u8 n).wf = true) : 0 ≤ n ∧ n < 256 := by
  simp only [Lit.wf, Bool.and_eq_true, decide_eq_true_eq] at h
  have h1 : IntKind.u8.min = 0 := by decide
  have h2 : IntKind.u8.max = 255 := by decide
  omega
theorem bulk_pos {H : Type} : ∀ d : DataW H, 1 ≤ Rows.uptoBulk d
  | .lit (.string bytes) => by simp [Rows.uptoBulk]
  | .lit (.int _ _) => by simp [Rows.uptoBulk]
  | .lit (.bool _) => by simp [Rows.uptoBulk]
  | .lit (.float .f32 _) => by simp [Rows.uptoBulk]
  | .lit (.float .f64 _) => by simp [Rows.uptoBulk]
  | .lit .nil => by simp [Rows.uptoBulk]
  | .nil => by simp [Rows.uptoBulk]
  | .ptr d => by simp [Rows.uptoBulk]
  | .slice _ _ => by simp [Rows.uptoBulk]
  | .agg _ => by simp [Rows.uptoBulk]
  | .iface _ _ => by simp [Rows.uptoBulk]
  | .map _ => by simp [Rows.uptoBulk]
  | .held _ => by simp [Rows.uptoBulk]
theorem bulk_len {H : Type} : ∀ ds : List (DataW H), ds.length ≤ Rows.uptoBulkAll ds
  | [] => by simp
  | d :: ds => by
    have h1 := bulk_pos d
    have h2 := bulk_len ds
    simp only [Rows.uptoBulkAll, List.length_cons]
    omega
theorem bulk_slice {H : Type} (es sp : List (DataW H)) : es.length ≤ Rows.uptoBulk (.slice es sp) := by
  have := bulk_len es
  simp only [Rows.uptoBulk]
  omega

set_option maxRecDepth 100000 in
theorem open_row64 {H : Type} {enc : TypeId × Value → H} {W : World} {base : Nat} {held : Bool} {fuel : Nat} {v : Value} {y : DataW H × List MemPlace} (h : DataW.trod enc Tryd.prog W base (fun _ => true) held fuel 31 [v] = some y) :
    ∃ zs, Ro W v zs ∧ (∀ n ∈ zs, Wd.In64 n) ∧ zs.length ≤ Rows.uptoBulk y.1 := by
  rcases open_ints Tryd.underlying31 Tryd.underlying3 (by kernel_rfl) h with ⟨hcs, rfl⟩ | ⟨x, l, c, zs, hcs, _, hl, hm, hz, rfl, hcell, hwz⟩
  · simp at hcs
    subst hcs
    exact ⟨_, IsRow.ro (.inl ⟨rfl, rfl, rfl, rfl⟩), by simp, by simp⟩
  · simp at hcs
    subst hcs
    refine ⟨_, IsRow.ro (zs := zs) (.inr ⟨_, rfl, hl, hm, by simpa using hz, hcell, hwz⟩), fun n hn => in64_of_wf (hwz n (List.mem_of_mem_take hn)), ?_⟩
    have := bulk_slice (H := H) (lits .i64 (zs.take l)) (lits .i64 (zs.drop l))
    simpa [lits] using this
theorem un_flds : ∃ f0 f1 f2 f3 f4 f5 f6 f7 : Field, Tryd.prog.underlying 45 = some (.struct #[f0, f1, f2, f3, f4, f5, f6, f7]) ∧ f0.offset = 0 ∧ f0.type = 3 ∧ f1.offset = 1 ∧ f1.type = 3 ∧ f2.offset = 2 ∧ f2.type = 3 ∧ f3.offset = 3 ∧ f3.type = 3 ∧ f4.offset = 4 ∧ f4.type = 3 ∧ f5.offset = 5 ∧ f5.type = 3 ∧ f6.offset = 6 ∧ f6.type = 3 ∧ f7.offset = 7 ∧ f7.type = 3 := ⟨_, _, _, _, _, _, _, _, Tryd.underlying45, rfl, rfl, rfl, rfl, rfl, rfl, rfl, rfl, rfl, rfl, rfl, rfl, rfl, rfl, rfl, rfl⟩
set_option maxRecDepth 100000 in
theorem open_un64 {H : Type} {enc : TypeId × Value → H} {W : World} {base : Nat} {held : Bool} {fuel : Nat} {cs : List Value} {y : DataW H × List MemPlace} (h : DataW.trod enc Tryd.prog W base (fun _ => true) held fuel 45 cs = some y) :
    ∃ k : UnV, cs = [.int .i64 k.id, .int .i64 k.player, .int .i64 k.kind, .int .i64 k.at_, .int .i64 k.life, .int .i64 k.load, .int .i64 k.task, .int .i64 k.goal] ∧ ∀ n ∈ Wd.unums k, Wd.In64 n := by
  obtain ⟨f0, f1, f2, f3, f4, f5, f6, f7, he, o0, t0, o1, t1, o2, t2, o3, t3, o4, t4, o5, t5, o6, t6, o7, t7⟩ := un_flds
  obtain ⟨xs, m, -, -, hlen, hxl, hf⟩ := DataW.trod_struct he h
  have csi : Tryd.prog.cellsOf 3 = 1 := by kernel_rfl
  have csk : Tryd.prog.cellsOf 45 = 8 := by kernel_rfl
  rw [csk] at hlen
  match cs, hlen with
  | [v0, v1, v2, v3, v4, v5, v6, v7], _ =>
    have hx : xs.length = 8 := hxl
    match xs, hx with
    | [x0, x1, x2, x3, x4, x5, x6, x7], _ =>
      have g0 := hf 0 f0 rfl
      rw [o0, t0, csi] at g0
      have g1 := hf 1 f1 rfl
      rw [o1, t1, csi] at g1
      have g2 := hf 2 f2 rfl
      rw [o2, t2, csi] at g2
      have g3 := hf 3 f3 rfl
      rw [o3, t3, csi] at g3
      have g4 := hf 4 f4 rfl
      rw [o4, t4, csi] at g4
      have g5 := hf 5 f5 rfl
      rw [o5, t5, csi] at g5
      have g6 := hf 6 f6 rfl
      rw [o6, t6, csi] at g6
      have g7 := hf 7 f7 rfl
      rw [o7, t7, csi] at g7
      obtain ⟨m0, e0, -, w0⟩ := DataW.trod_int Tryd.underlying3 g0
      obtain ⟨m1, e1, -, w1⟩ := DataW.trod_int Tryd.underlying3 g1
      obtain ⟨m2, e2, -, w2⟩ := DataW.trod_int Tryd.underlying3 g2
      obtain ⟨m3, e3, -, w3⟩ := DataW.trod_int Tryd.underlying3 g3
      obtain ⟨m4, e4, -, w4⟩ := DataW.trod_int Tryd.underlying3 g4
      obtain ⟨m5, e5, -, w5⟩ := DataW.trod_int Tryd.underlying3 g5
      obtain ⟨m6, e6, -, w6⟩ := DataW.trod_int Tryd.underlying3 g6
      obtain ⟨m7, e7, -, w7⟩ := DataW.trod_int Tryd.underlying3 g7
      simp at e0 e1 e2 e3 e4 e5 e6 e7
      subst e0 e1 e2 e3 e4 e5 e6 e7
      refine ⟨⟨m0, m1, m2, m3, m4, m5, m6, m7⟩, rfl, ?_⟩
      intro n hn
      simp only [Wd.unums, List.mem_cons, List.not_mem_nil, or_false] at hn
      rcases hn with rfl | rfl | rfl | rfl | rfl | rfl | rfl | rfl
      · exact in64_of_wf w0
      · exact in64_of_wf w1
      · exact in64_of_wf w2
      · exact in64_of_wf w3
      · exact in64_of_wf w4
      · exact in64_of_wf w5
      · exact in64_of_wf w6
      · exact in64_of_wf w7
theorem open_uns64 {H : Type} {enc : TypeId × Value → H} {W : World} {base : Nat} {held : Bool} {fuel : Nat} {v : Value} {y : DataW H × List MemPlace} (h : DataW.trod enc Tryd.prog W base (fun _ => true) held fuel 34 [v] = some y) :
    ∃ ks : List UnV, Unl W v ks ∧ (∀ k ∈ ks, ∀ n ∈ Wd.unums k, Wd.In64 n) ∧ ks.length ≤ Rows.uptoBulk y.1 := by
  have csk : Tryd.prog.cellsOf 45 = 8 := by kernel_rfl
  rcases Go.Deep.open_slice Tryd.underlying34 h with ⟨hcs, -⟩ | ⟨a, len, cap, m, q, D, Pl, hcs, hb, hl, hm, hmm, rfl, hx⟩
  · simp at hcs
    subst hcs
    exact ⟨[], ⟨none, 0, rfl, Nat.le_refl _, by omega, fun h => absurd rfl h⟩, by simp, by simp⟩
  · simp at hcs
    subst hcs
    have hlm : len ≤ m := by rw [hmm]; simp; exact hl
    have each : ∀ i, i < len → ∃ k : UnV, Unc W (a.add (i * 8)) k ∧ (∀ n ∈ Wd.unums k, Wd.In64 n) := by
      intro i hi
      obtain ⟨cs', h1, h2⟩ := hx i (by omega)
      obtain ⟨k, rfl, hk⟩ := open_un64 h2
      rw [csk] at h1
      obtain ⟨-, -, hcell⟩ := World.cells?_some h1
      refine ⟨k, ?_, hk⟩
      generalize a.add (i * 8) = y at *
      exact ⟨hcell 0 (by decide), hcell 1 (by decide), hcell 2 (by decide), hcell 3 (by decide), hcell 4 (by decide), hcell 5 (by decide), hcell 6 (by decide), hcell 7 (by decide)⟩
    have inh : Inhabited UnV := ⟨⟨0, 0, 0, 0, 0, 0, 0, 0⟩⟩
    obtain ⟨q, hq⟩ := Go.Deep.choose_lt each
    refine ⟨(List.range len).map q, ⟨some a, cap, by simp, by simpa using hl, by unfold maxLen at hm; omega, fun hn => ⟨a, rfl, ?_, fun i k hk => ?_⟩⟩, ?_, ?_⟩
    · have h0 : 0 < len := by
        rcases Nat.eq_zero_or_pos len with h | h
        · subst h; simp at hn
        · exact h
      have := (hq 0 h0).1.lt
      rwa [add_block] at this
    · have hi : i < len := by
        have := (List.getElem?_eq_some_iff.1 hk).1
        simpa using this
      rw [List.getElem?_map, List.getElem?_range hi] at hk
      injection hk with hk
      subst hk
      exact (hq i hi).1
    · intro k hk
      obtain ⟨i, hi, rfl⟩ := List.mem_map.1 hk
      exact (hq i (List.mem_range.1 hi)).2
    · have := bulk_slice ((List.range len).map D) ((List.range (m - len)).map fun j => D (len + j))
      simpa using this
theorem jb_flds : ∃ f0 f1 f2 f3 : Field, Tryd.prog.underlying 61 = some (.struct #[f0, f1, f2, f3]) ∧ f0.offset = 0 ∧ f0.type = 3 ∧ f1.offset = 1 ∧ f1.type = 3 ∧ f2.offset = 2 ∧ f2.type = 3 ∧ f3.offset = 3 ∧ f3.type = 3 := ⟨_, _, _, _, Tryd.underlying61, rfl, rfl, rfl, rfl, rfl, rfl, rfl, rfl⟩
set_option maxRecDepth 100000 in
theorem open_jb64 {H : Type} {enc : TypeId × Value → H} {W : World} {base : Nat} {held : Bool} {fuel : Nat} {cs : List Value} {y : DataW H × List MemPlace} (h : DataW.trod enc Tryd.prog W base (fun _ => true) held fuel 61 cs = some y) :
    ∃ k : JbV, cs = [.int .i64 k.player, .int .i64 k.unit, .int .i64 k.kind, .int .i64 k.left] ∧ ∀ n ∈ Wd.jnums k, Wd.In64 n := by
  obtain ⟨f0, f1, f2, f3, he, o0, t0, o1, t1, o2, t2, o3, t3⟩ := jb_flds
  obtain ⟨xs, m, -, -, hlen, hxl, hf⟩ := DataW.trod_struct he h
  have csi : Tryd.prog.cellsOf 3 = 1 := by kernel_rfl
  have csk : Tryd.prog.cellsOf 61 = 4 := by kernel_rfl
  rw [csk] at hlen
  match cs, hlen with
  | [v0, v1, v2, v3], _ =>
    have hx : xs.length = 4 := hxl
    match xs, hx with
    | [x0, x1, x2, x3], _ =>
      have g0 := hf 0 f0 rfl
      rw [o0, t0, csi] at g0
      have g1 := hf 1 f1 rfl
      rw [o1, t1, csi] at g1
      have g2 := hf 2 f2 rfl
      rw [o2, t2, csi] at g2
      have g3 := hf 3 f3 rfl
      rw [o3, t3, csi] at g3
      obtain ⟨m0, e0, -, w0⟩ := DataW.trod_int Tryd.underlying3 g0
      obtain ⟨m1, e1, -, w1⟩ := DataW.trod_int Tryd.underlying3 g1
      obtain ⟨m2, e2, -, w2⟩ := DataW.trod_int Tryd.underlying3 g2
      obtain ⟨m3, e3, -, w3⟩ := DataW.trod_int Tryd.underlying3 g3
      simp at e0 e1 e2 e3
      subst e0 e1 e2 e3
      refine ⟨⟨m0, m1, m2, m3⟩, rfl, ?_⟩
      intro n hn
      simp only [Wd.jnums, List.mem_cons, List.not_mem_nil, or_false] at hn
      rcases hn with rfl | rfl | rfl | rfl
      · exact in64_of_wf w0
      · exact in64_of_wf w1
      · exact in64_of_wf w2
      · exact in64_of_wf w3
theorem open_jbs64 {H : Type} {enc : TypeId × Value → H} {W : World} {base : Nat} {held : Bool} {fuel : Nat} {v : Value} {y : DataW H × List MemPlace} (h : DataW.trod enc Tryd.prog W base (fun _ => true) held fuel 35 [v] = some y) :
    ∃ ks : List JbV, Jbl W v ks ∧ (∀ k ∈ ks, ∀ n ∈ Wd.jnums k, Wd.In64 n) ∧ ks.length ≤ Rows.uptoBulk y.1 := by
  have csk : Tryd.prog.cellsOf 61 = 4 := by kernel_rfl
  rcases Go.Deep.open_slice Tryd.underlying35 h with ⟨hcs, -⟩ | ⟨a, len, cap, m, q, D, Pl, hcs, hb, hl, hm, hmm, rfl, hx⟩
  · simp at hcs
    subst hcs
    exact ⟨[], ⟨none, 0, rfl, Nat.le_refl _, by omega, fun h => absurd rfl h⟩, by simp, by simp⟩
  · simp at hcs
    subst hcs
    have hlm : len ≤ m := by rw [hmm]; simp; exact hl
    have each : ∀ i, i < len → ∃ k : JbV, Jbc W (a.add (i * 4)) k ∧ (∀ n ∈ Wd.jnums k, Wd.In64 n) := by
      intro i hi
      obtain ⟨cs', h1, h2⟩ := hx i (by omega)
      obtain ⟨k, rfl, hk⟩ := open_jb64 h2
      rw [csk] at h1
      obtain ⟨-, -, hcell⟩ := World.cells?_some h1
      refine ⟨k, ?_, hk⟩
      generalize a.add (i * 4) = y at *
      exact ⟨hcell 0 (by decide), hcell 1 (by decide), hcell 2 (by decide), hcell 3 (by decide)⟩
    have inh : Inhabited JbV := ⟨⟨0, 0, 0, 0⟩⟩
    obtain ⟨q, hq⟩ := Go.Deep.choose_lt each
    refine ⟨(List.range len).map q, ⟨some a, cap, by simp, by simpa using hl, by unfold maxLen at hm; omega, fun hn => ⟨a, rfl, ?_, fun i k hk => ?_⟩⟩, ?_, ?_⟩
    · have h0 : 0 < len := by
        rcases Nat.eq_zero_or_pos len with h | h
        · subst h; simp at hn
        · exact h
      have := (hq 0 h0).1.lt
      rwa [add_block] at this
    · have hi : i < len := by
        have := (List.getElem?_eq_some_iff.1 hk).1
        simpa using this
      rw [List.getElem?_map, List.getElem?_range hi] at hk
      injection hk with hk
      subst hk
      exact (hq i hi).1
    · intro k hk
      obtain ⟨i, hi, rfl⟩ := List.mem_map.1 hk
      exact (hq i (List.mem_range.1 hi)).2
    · have := bulk_slice ((List.range len).map D) ((List.range (m - len)).map fun j => D (len + j))
      simpa using this
theorem world_flds : ∃ f0 f1 f2 f3 f4 f5 : Field, Tryd.prog.underlying 37 = some (.struct #[f0, f1, f2, f3, f4, f5]) ∧ f0.offset = 0 ∧ f0.type = 3 ∧ f1.offset = 1 ∧ f1.type = 3 ∧ f2.offset = 2 ∧ f2.type = 33 ∧ f3.offset = 6 ∧ f3.type = 31 ∧ f4.offset = 7 ∧ f4.type = 34 ∧ f5.offset = 8 ∧ f5.type = 35 := ⟨_, _, _, _, _, _, Tryd.underlying37, rfl, rfl, rfl, rfl, rfl, rfl, rfl, rfl, rfl, rfl, rfl, rfl⟩
theorem field_flds : ∃ f0 f1 f2 f3 : Field, Tryd.prog.underlying 33 = some (.struct #[f0, f1, f2, f3]) ∧ f0.offset = 0 ∧ f0.type = 3 ∧ f1.offset = 1 ∧ f1.type = 3 ∧ f2.offset = 2 ∧ f2.type = 31 ∧ f3.offset = 3 ∧ f3.type = 31 := ⟨_, _, _, _, Tryd.underlying33, rfl, rfl, rfl, rfl, rfl, rfl, rfl, rfl⟩
theorem ro_len {w : World} {v : Value} {xs : List Int} (h : Ro w v xs) : Wd.In64 (xs.length : Int) := by
  obtain ⟨a, c, -, h1, h2, -⟩ := h
  unfold Wd.In64; omega
set_option maxRecDepth 100000 in
theorem open_world64 {H : Type} {enc : TypeId × Value → H} {W : World} {base : Nat} {held : Bool} {fuel : Nat} {cs : List Value} {y : DataW H × List MemPlace} (h : DataW.trod enc Tryd.prog W base (fun _ => true) held fuel 37 cs = some y) :
    ∃ X : WV, Wl W (.agg cs.toArray) X ∧ (∀ n ∈ Wd.nums X, Wd.In64 n) ∧ (Rows.uptoBulk y.1 ≤ 1048576 → WSmall X) := by
  obtain ⟨f0, f1, f2, f3, f4, f5, he, o0, t0, o1, t1, o2, t2, o3, t3, o4, t4, o5, t5⟩ := world_flds
  obtain ⟨xs, m, -, rfl, hlen, hxl, hf⟩ := DataW.trod_struct he h
  have csi : Tryd.prog.cellsOf 3 = 1 := by kernel_rfl
  have csf : Tryd.prog.cellsOf 33 = 4 := by kernel_rfl
  have csl : Tryd.prog.cellsOf 31 = 1 := by kernel_rfl
  have csu : Tryd.prog.cellsOf 34 = 1 := by kernel_rfl
  have csj : Tryd.prog.cellsOf 35 = 1 := by kernel_rfl
  have csk : Tryd.prog.cellsOf 37 = 9 := by kernel_rfl
  rw [csk] at hlen
  match cs, hlen with
  | [v0, v1, v2, v3, v4, v5, v6, v7, v8], _ =>
    have hx : xs.length = 6 := hxl
    match xs, hx with
    | [x0, x1, x2, x3, x4, x5], _ =>
      have g0 := hf 0 f0 rfl
      rw [o0, t0, csi] at g0
      have g1 := hf 1 f1 rfl
      rw [o1, t1, csi] at g1
      have g2 := hf 2 f2 rfl
      rw [o2, t2, csf] at g2
      have g3 := hf 3 f3 rfl
      rw [o3, t3, csl] at g3
      have g4 := hf 4 f4 rfl
      rw [o4, t4, csu] at g4
      have g5 := hf 5 f5 rfl
      rw [o5, t5, csj] at g5
      obtain ⟨m0, e0, -, w0⟩ := DataW.trod_int Tryd.underlying3 g0
      obtain ⟨m1, e1, -, w1⟩ := DataW.trod_int Tryd.underlying3 g1
      obtain ⟨r0, r1, r2, r3, he', p0, s0, p1, s1, p2, s2, p3, s3⟩ := field_flds
      obtain ⟨ys, m', -, rfl, hlen', hyl, hg⟩ := DataW.trod_struct he' g2
      have hy : ys.length = 4 := hyl
      match ys, hy with
      | [y0, y1, y2, y3], _ =>
        have k0 := hg 0 r0 rfl
        rw [p0, s0, csi] at k0
        have k1 := hg 1 r1 rfl
        rw [p1, s1, csi] at k1
        have k2 := hg 2 r2 rfl
        rw [p2, s2, csl] at k2
        have k3 := hg 3 r3 rfl
        rw [p3, s3, csl] at k3
        obtain ⟨m2, e2, -, w2⟩ := DataW.trod_int Tryd.underlying3 k0
        obtain ⟨m3, e3, -, w3⟩ := DataW.trod_int Tryd.underlying3 k1
        simp at e0 e1 e2 e3
        subst e0 e1 e2 e3
        obtain ⟨gs, hgs, igs, bgs⟩ := open_row64 k2
        obtain ⟨os, hos, ios, bos⟩ := open_row64 k3
        obtain ⟨gold, hgold, igold, bgold⟩ := open_row64 g3
        obtain ⟨us, hus, ius, bus⟩ := open_uns64 g4
        obtain ⟨qs, hqs, iqs, bqs⟩ := open_jbs64 g5
        have lu : Wd.In64 (us.length : Int) := by
          obtain ⟨a, c, -, h1, h2, -⟩ := hus
          unfold Wd.In64; omega
        have lq : Wd.In64 (qs.length : Int) := by
          obtain ⟨a, c, -, h1, h2, -⟩ := hqs
          unfold Wd.In64; omega
        refine ⟨⟨m0, m1, m2, m3, gs, os, gold, us, qs⟩, ⟨_, _, _, _, _, rfl, hgs, hos, hgold, hus, hqs⟩, ?_, ?_⟩
        · intro n hn
          simp only [Wd.nums, List.mem_append, List.mem_cons, List.not_mem_nil, or_false, List.mem_flatMap] at hn
          rcases hn with (((((rfl | rfl | rfl | rfl) | (rfl | hn)) | (rfl | hn)) | (rfl | hn)) | (rfl | ⟨u, hu, hn⟩)) | (rfl | ⟨u, hu, hn⟩)
          · exact in64_of_wf w0
          · exact in64_of_wf w1
          · exact in64_of_wf w2
          · exact in64_of_wf w3
          · exact ro_len hgs
          · exact igs _ hn
          · exact ro_len hos
          · exact ios _ hn
          · exact ro_len hgold
          · exact igold _ hn
          · exact lu
          · exact ius u hu n hn
          · exact lq
          · exact iqs u hu n hn
        · intro hb
          simp only [Rows.uptoBulk, Rows.uptoBulkAll, List.map_cons, List.map_nil] at hb
          exact ⟨by simp only; omega, by simp only; omega, by simp only; omega, by simp only; omega, by simp only; omega⟩
set_option maxRecDepth 100000 in
theorem world_in {H : Type} {enc : TypeId × Value → H} {W : World} {base b0 : Nat} {held : Bool} {v : Value} {d : DataW H} {p : List MemPlace} (hv : Value.okWide Tryd.prog W .any b0 37 v) (h : DataW.Trod enc Tryd.prog W base (fun _ => true) held 37 v d p) :
    ∃ X : WV, Wl W v X ∧ (∀ n ∈ Wd.nums X, Wd.In64 n) ∧ (Rows.uptoBulk d ≤ 1048576 → WSmall X) := by
  obtain ⟨cs, rfl, hsz⟩ := okWide_struct Tryd.underlying37 hv
  obtain ⟨fuel, hf⟩ := h
  have := open_world64 hf
  simpa [Value.cells] using this
end Go.Proofs.YtamgjhehnblbgaaDoor

namespace Go.Proofs.YtamgjhehnblbgaaDoor
open Go.ChangeShapes Go.WideShapes Go.ChangeAt Go.RowKit
set_option linter.unusedVariables false

theorem kind_fields : ∃ f0 f1 f2 f3 f4 f5 f6 f7 f8 f9 f10 : Field, Tryd.prog.underlying 57 = some (.struct #[f0, f1, f2, f3, f4, f5, f6, f7, f8, f9, f10]) ∧
    f0.offset = 0 ∧ f0.type = 9 ∧ f1.offset = 1 ∧ f1.type = 3 ∧ f2.offset = 2 ∧ f2.type = 3 ∧ f3.offset = 3 ∧ f3.type = 3 ∧ f4.offset = 4 ∧ f4.type = 3 ∧ f5.offset = 5 ∧ f5.type = 3 ∧ f6.offset = 6 ∧ f6.type = 3 ∧ f7.offset = 7 ∧ f7.type = 3 ∧ f8.offset = 8 ∧ f8.type = 3 ∧ f9.offset = 9 ∧ f9.type = 4 ∧ f10.offset = 10 ∧ f10.type = 4 := ⟨_, _, _, _, _, _, _, _, _, _, _, Tryd.underlying57, rfl, rfl, rfl, rfl, rfl, rfl, rfl, rfl, rfl, rfl, rfl, rfl, rfl, rfl, rfl, rfl, rfl, rfl, rfl, rfl, rfl, rfl⟩


set_option maxRecDepth 100000 in
theorem open_kind {H : Type} {enc : TypeId × Value → H} {W : World} {base : Nat} {held : Bool} {fuel : Nat} {cs : List Value} {y : DataW H × List MemPlace} (h : DataW.trod enc Tryd.prog W base (fun _ => true) held fuel 57 cs = some y) :
    ∃ k : KV, cs = [.string k.b, .int .i64 k.n0, .int .i64 k.n1, .int .i64 k.n2, .int .i64 k.n3, .int .i64 k.n4, .int .i64 k.n5, .int .i64 k.n6, .int .i64 k.n7, .bool k.f, .bool k.t] ∧ k.b.size ≤ maxLen := by
  obtain ⟨f0, f1, f2, f3, f4, f5, f6, f7, f8, f9, f10, he, o0, t0, o1, t1, o2, t2, o3, t3, o4, t4, o5, t5, o6, t6, o7, t7, o8, t8, o9, t9, o10, t10⟩ := kind_fields
  obtain ⟨xs, n, -, -, hlen, hxl, hf⟩ := DataW.trod_struct he h
  have cs9 : Tryd.prog.cellsOf 9 = 1 := by kernel_rfl
  have cs3 : Tryd.prog.cellsOf 3 = 1 := by kernel_rfl
  have cs4 : Tryd.prog.cellsOf 4 = 1 := by kernel_rfl
  have csk : Tryd.prog.cellsOf 57 = 11 := by kernel_rfl
  rw [csk] at hlen
  match cs, hlen with
  | [v0, v1, v2, v3, v4, v5, v6, v7, v8, v9, v10], _ =>
    have hx11 : xs.length = 11 := hxl
    match xs, hx11 with
    | [x0, x1, x2, x3, x4, x5, x6, x7, x8, x9, x10], _ =>
      have g0 := hf 0 f0 rfl
      rw [o0, t0, cs9] at g0
      have g1 := hf 1 f1 rfl
      rw [o1, t1, cs3] at g1
      have g2 := hf 2 f2 rfl
      rw [o2, t2, cs3] at g2
      have g3 := hf 3 f3 rfl
      rw [o3, t3, cs3] at g3
      have g4 := hf 4 f4 rfl
      rw [o4, t4, cs3] at g4
      have g5 := hf 5 f5 rfl
      rw [o5, t5, cs3] at g5
      have g6 := hf 6 f6 rfl
      rw [o6, t6, cs3] at g6
      have g7 := hf 7 f7 rfl
      rw [o7, t7, cs3] at g7
      have g8 := hf 8 f8 rfl
      rw [o8, t8, cs3] at g8
      have g9 := hf 9 f9 rfl
      rw [o9, t9, cs4] at g9
      have g10 := hf 10 f10 rfl
      rw [o10, t10, cs4] at g10
      obtain ⟨b, e0, -, hb⟩ := DataW.trod_string Tryd.underlying9 g0
      obtain ⟨m1, e1, -, -⟩ := DataW.trod_int Tryd.underlying3 g1
      obtain ⟨m2, e2, -, -⟩ := DataW.trod_int Tryd.underlying3 g2
      obtain ⟨m3, e3, -, -⟩ := DataW.trod_int Tryd.underlying3 g3
      obtain ⟨m4, e4, -, -⟩ := DataW.trod_int Tryd.underlying3 g4
      obtain ⟨m5, e5, -, -⟩ := DataW.trod_int Tryd.underlying3 g5
      obtain ⟨m6, e6, -, -⟩ := DataW.trod_int Tryd.underlying3 g6
      obtain ⟨m7, e7, -, -⟩ := DataW.trod_int Tryd.underlying3 g7
      obtain ⟨m8, e8, -, -⟩ := DataW.trod_int Tryd.underlying3 g8
      obtain ⟨bf, e9, -⟩ := DataW.trod_bool Tryd.underlying4 g9
      obtain ⟨bt, e10, -⟩ := DataW.trod_bool Tryd.underlying4 g10
      simp at e0 e1 e2 e3 e4 e5 e6 e7 e8 e9 e10
      subst e0 e1 e2 e3 e4 e5 e6 e7 e8 e9 e10
      exact ⟨⟨b, m1, m2, m3, m4, m5, m6, m7, m8, bf, bt⟩, rfl, hb⟩

/-- kinds that came in. -/
theorem open_kinds {H : Type} {enc : TypeId × Value → H} {W : World} {base : Nat} {held : Bool} {fuel : Nat} {v : Value} {y : DataW H × List MemPlace} (h : DataW.trod enc Tryd.prog W base (fun _ => true) held fuel 30 [v] = some y) :
    ∃ ks : List KV, Kl W v ks ∧ ∀ k ∈ ks, k.b.size ≤ maxLen := by
  have csk : Tryd.prog.cellsOf 57 = 11 := by kernel_rfl
  rcases Go.Deep.open_slice Tryd.underlying30 h with ⟨hcs, -⟩ | ⟨a, len, cap, m, n, D, Pl, hcs, hb, hl, hm, hmm, -, hx⟩
  · simp at hcs
    subst hcs
    exact ⟨[], ⟨none, 0, rfl, Nat.le_refl _, by omega, fun h => absurd rfl h⟩, by simp⟩
  · simp at hcs
    subst hcs
    have hlm : len ≤ m := by rw [hmm]; simp; exact hl
    have each : ∀ i, i < len → ∃ k : KV, Kc W (a.add (i * 11)) k ∧ k.b.size ≤ maxLen := by
      intro i hi
      obtain ⟨cs', h1, h2⟩ := hx i (by omega)
      obtain ⟨k, rfl, hk⟩ := open_kind h2
      rw [csk] at h1
      obtain ⟨-, -, hcell⟩ := World.cells?_some h1
      refine ⟨k, ?_, hk⟩
      generalize a.add (i * 11) = y at *
      exact ⟨hcell 0 (by decide), hcell 1 (by decide), hcell 2 (by decide), hcell 3 (by decide), hcell 4 (by decide), hcell 5 (by decide), hcell 6 (by decide), hcell 7 (by decide), hcell 8 (by decide), hcell 9 (by decide), hcell 10 (by decide)⟩
    have inh : Inhabited KV := ⟨⟨ByteArray.empty, 0, 0, 0, 0, 0, 0, 0, 0, false, false⟩⟩
    obtain ⟨q, hq⟩ := Go.Deep.choose_lt each
    refine ⟨(List.range len).map q, ⟨some a, cap, by simp, by simpa using hl, by unfold maxLen at hm; omega, fun hn => ⟨a, rfl, ?_, fun i k hk => ?_⟩⟩, ?_⟩
    · have h0 : 0 < len := by
        rcases Nat.eq_zero_or_pos len with h | h
        · subst h; simp at hn
        · exact h
      have := (hq 0 h0).1.lt
      rwa [add_block] at this
    · have hi : i < len := by
        have := (List.getElem?_eq_some_iff.1 hk).1
        simpa using this
      rw [List.getElem?_map, List.getElem?_range hi] at hk
      injection hk with hk
      subst hk
      exact (hq i hi).1
    · intro k hk
      obtain ⟨i, hi, rfl⟩ := List.mem_map.1 hk
      exact (hq i (List.mem_range.1 hi)).2
set_option maxRecDepth 100000 in
theorem kinds_in {H : Type} {enc : TypeId × Value → H} {W : World} {base b0 : Nat} {held : Bool} {v : Value} {d : DataW H} {p : List MemPlace} (hv : Value.okWide Tryd.prog W .any b0 30 v) (h : DataW.Trod enc Tryd.prog W base (fun _ => true) held 30 v d p) :
    ∃ ks : List KV, Kl W v ks ∧ ∀ k ∈ ks, k.b.size ≤ maxLen := by
  obtain ⟨a, len, cap, rfl⟩ := okWide_slice Tryd.underlying30 hv
  obtain ⟨fuel, hf⟩ := h
  exact open_kinds hf
end Go.Proofs.YtamgjhehnblbgaaDoor

namespace Go.Proofs.YtamgjhehnblbgaaDoor
open Go.RowKit Go.Extern.Stop Go.Stop Go.Extern

/-- the cell of errors.errorType. -/
def Et (w : World) : Prop := w.cell? ⟨0, 0, none⟩ = some (.iface 97 (.agg #[.pointer (some ⟨1, 25, none⟩)]))

theorem Et.lt {w : World} (h : Et w) : 0 < w.heap.size := by
  rcases Nat.lt_or_ge 0 w.heap.size with h1 | h1
  · exact h1
  · unfold Et at h
    simp [World.cell?, Array.getElem?_eq_none h1] at h
theorem Et.below {w w' : World} (h : Et w) (hb : Below w.heap.size w w') : Et w' := by
  unfold Et
  rw [hb.cell (p := ⟨0, 0, none⟩) h.lt]
  exact h
theorem Et.alloc {w : World} (h : Et w) (o : Obj) : Et (w.alloc o) := h.below ((Below.refl _ _).alloc (Nat.le_refl _) _)
theorem Et.drew {w : World} (h : Et w) : Et w.drew := h.below (Below.refl _ _).drew

theorem tk_valueOfP (t : Addr) (w : World) : (ReflectliteValue.unpack (.iface 66 (.pointer (some t)))).run Tryd.prog w
    = .ok (.agg #[.pointer (some ⟨1, 66, none⟩), .pointer (some ⟨w.heap.size, 0, none⟩), .int .u64 150]) (w.alloc (.cells #[.pointer (some t)] 66)) := by kernel_rfl
theorem tk_typeP (a : Addr) (w : World) : (ReflectliteValue.methodAny (ReflectliteValue.valueError "reflectlite.Value.Type" 0) (fun t _ _ _ => ReflectliteType.toType t) #[.agg #[.pointer (some ⟨1, 66, none⟩), .pointer (some a), .int .u64 150]]).run Tryd.prog w
    = .ok (.iface 97 (.agg #[.pointer (some ⟨1, 66, none⟩)])) w := by kernel_rfl
theorem tk_methodKind (h : Value) (w : World) : (Go.method 256 97 (.agg #[h]) "Kind").run Tryd.prog w = .ok (87, h) w := by kernel_rfl
theorem tk_kindP (w : World) : ((ReflectliteType.abiMethod fun t => (fun a : Nat => Value.int IntKind.u8 (a : Int)) <$> Rtype.kind t) #[.pointer (some ⟨1, 66, none⟩)]).run Tryd.prog w = .ok (.int .u8 22) w := by kernel_rfl
theorem tk_kindE (w : World) : ((ReflectliteType.abiMethod fun t => (fun a : Nat => Value.int IntKind.u8 (a : Int)) <$> Rtype.kind t) #[.pointer (some ⟨1, 50, none⟩)]).run Tryd.prog w = .ok (.int .u8 2) w := by kernel_rfl
theorem tk_open (z : Sem Value) (f : TypeId → Addr → Nat → Nat → Sem Value) (v : Value) :
    ReflectliteValue.method z f #[v] = (ReflectliteValue.parts v >>= fun o => o.elim z fun q => f q.1 q.2.1 q.2.2 (q.2.2 % 32)) := by
  refine (show ReflectliteValue.method z f #[v] = (ReflectliteValue.parts v >>= _) from rfl).trans ?_
  refine congrArg (ReflectliteValue.parts v >>= ·) (funext fun o => ?_)
  cases o <;> rfl
theorem tk_partsP (a : Addr) (w : World) : (ReflectliteValue.parts (.agg #[.pointer (some ⟨1, 66, none⟩), .pointer (some a), .int .u64 150])).run Tryd.prog w = .ok (some (66, a, 150)) w := by kernel_rfl
theorem tk_isNilP (a p : Addr) (W : World) (ha : W.cell? a = some (.pointer (some p))) :
    (ReflectliteValue.method (ReflectliteValue.valueError "reflectlite.Value.IsNil" 0) ReflectliteValue.isNil #[.agg #[.pointer (some ⟨1, 66, none⟩), .pointer (some a), .int .u64 150]]).run Tryd.prog W = .ok (.bool false) W := by
  rw [tk_open]
  simp only [Sem.run_bind, tk_partsP, Result.andThen]
  simp [ReflectliteValue.isNil, loadVar, isAgg, underlying, Tryd.underlying66, ha, Result.andThen]
theorem tk_methodElem (h : Value) (w : World) : (Go.method 256 97 (.agg #[h]) "Elem").run Tryd.prog w = .ok (97, .agg #[h]) w := by kernel_rfl
theorem tk_methodImplements (h : Value) (w : World) : (Go.method 256 97 (.agg #[h]) "Implements").run Tryd.prog w = .ok (98, .agg #[h]) w := by kernel_rfl
theorem tk_methodAssignableTo (h : Value) (w : World) : (Go.method 256 97 (.agg #[h]) "AssignableTo").run Tryd.prog w = .ok (95, .agg #[h]) w := by kernel_rfl
theorem tk_elemP (w : World) : (ReflectliteType.method ReflectliteType.elem #[.agg #[.pointer (some ⟨1, 66, none⟩)]]).run Tryd.prog w = .ok (.iface 97 (.agg #[.pointer (some ⟨1, 50, none⟩)])) w := by kernel_rfl
theorem tk_implementsE (w : World) : (ReflectliteType.relation "Implements" ReflectliteType.implements_ #[.agg #[.pointer (some ⟨1, 50, none⟩)], .iface 97 (.agg #[.pointer (some ⟨1, 25, none⟩)])]).run Tryd.prog w = .ok (.bool true) w := by kernel_rfl
theorem tk_typeOfE (v : Value) (w : World) : (ReflectliteType.typeOf #[.iface 50 v]).run Tryd.prog w = .ok (.iface 97 (.agg #[.pointer (some ⟨1, 50, none⟩)])) w := by kernel_rfl
theorem tk_assignableE (w : World) : (ReflectliteType.relation "AssignableTo" ReflectliteType.assignableTo #[.agg #[.pointer (some ⟨1, 50, none⟩)], .iface 97 (.agg #[.pointer (some ⟨1, 50, none⟩)])]).run Tryd.prog w = .ok (.bool true) w := by kernel_rfl
theorem tk_valueOfE (n : Int) (w : World) : (ReflectliteValue.unpack (.iface 50 (.int .i64 n))).run Tryd.prog w
    = .ok (.agg #[.pointer (some ⟨1, 50, none⟩), .pointer (some ⟨w.heap.size, 0, none⟩), .int .u64 130]) (w.alloc (.cells #[.int .i64 n] 50)) := by kernel_rfl
theorem tk_elemOfP (w : World) : (Rtype.elem? 66).run Tryd.prog w = .ok (some 50) w := by kernel_rfl
theorem tk_mkE (p : Addr) (w : World) : (ReflectliteValue.mk 50 p ReflectliteValue.flagAddr).run Tryd.prog w = .ok (.agg #[.pointer (some ⟨1, 50, none⟩), .pointer (some p), .int .u64 386]) w := by kernel_rfl
theorem tk_elemV (a p : Addr) (W : World) (ha : W.cell? a = some (.pointer (some p))) :
    (ReflectliteValue.method (ReflectliteValue.valueError "reflectlite.Value.Elem" 0) ReflectliteValue.elem #[.agg #[.pointer (some ⟨1, 66, none⟩), .pointer (some a), .int .u64 150]]).run Tryd.prog W
      = .ok (.agg #[.pointer (some ⟨1, 50, none⟩), .pointer (some p), .int .u64 386]) W := by
  rw [tk_open]
  simp only [Sem.run_bind, tk_partsP, Result.andThen]
  simp [ReflectliteValue.elem, loadVar, isAgg, underlying, Tryd.underlying66, ha, Result.andThen, tk_elemOfP, tk_mkE]
theorem tk_partsEa (a : Addr) (w : World) : (ReflectliteValue.parts (.agg #[.pointer (some ⟨1, 50, none⟩), .pointer (some a), .int .u64 386])).run Tryd.prog w = .ok (some (50, a, 386)) w := by kernel_rfl
theorem tk_partsE (a : Addr) (w : World) : (ReflectliteValue.parts (.agg #[.pointer (some ⟨1, 50, none⟩), .pointer (some a), .int .u64 130])).run Tryd.prog w = .ok (some (50, a, 130)) w := by kernel_rfl
theorem tk_directE (w : World) : (Rtype.directlyAssignable 50 50).run Tryd.prog w = .ok true w := by kernel_rfl
theorem tk_setE (ta b : Addr) (n : Int) (old : Value) (W : World) (hb : W.cell? b = some (.int .i64 n)) (ht : W.cell? ta = some old) (hf : W.frozen? ta = false) :
    (ReflectliteValue.set #[.agg #[.pointer (some ⟨1, 50, none⟩), .pointer (some ta), .int .u64 386], .agg #[.pointer (some ⟨1, 50, none⟩), .pointer (some b), .int .u64 130]]).run Tryd.prog W
      = .ok (.tuple #[]) (W.setCell ta (.int .i64 n)) := by
  rw [show ∀ X Y : Value, ReflectliteValue.set #[X, Y] = (ReflectliteValue.parts X >>= fun p => ReflectliteValue.parts Y >>= fun q => _) from fun _ _ => rfl]
  simp only [Sem.run_bind, tk_partsEa, tk_partsE, Result.andThen]
  simp [ReflectliteValue.flagAddr, loadVar, isAgg, underlying, Tryd.underlying50, hb, Result.andThen, tk_directE, storeVar, Value.cells, storeCells, Addr.add]
  rw [run_store Tryd.prog W ta _ _ (by rfl)]
  simp [ht, hf]

set_option maxHeartbeats 4000000 in
theorem as_hit (n : Int) (t : Addr) (old : Value) (w : World) (hg : w.cell? ⟨0, 0, none⟩ = some (.iface 97 (.agg #[.pointer (some ⟨1, 25, none⟩)]))) (ht0 : w.cell? t = some old) (hf0 : w.frozen? t = false) :
    Calls Tryd.prog 26 #[.iface 50 (.int .i64 n), .iface 66 (.pointer (some t))] w fun ev w' => ev = .returned (.bool true) ∧ w' = ((((w.alloc (.cells #[.pointer (some t)] 66)).alloc (.cells #[.pointer (some ⟨1, 66, none⟩), .pointer (some ⟨w.heap.size, 0, none⟩), .int .u64 150] 78)).alloc (.cells #[.pointer (some ⟨1, 66, none⟩), .pointer (some ⟨w.heap.size, 0, none⟩), .int .u64 150] 78)).alloc (.cells #[.int .i64 n] 50)).setCell t (.int .i64 n) := by
  have h6 := @run_callFunc_extern Tryd.prog 36 _ (fun args => ReflectliteValue.unpack (args.getD 0 (.tuple #[]))) Tryd.func36 (by kernel_rfl) (by kernel_rfl) (by kernel_rfl) (by kernel_rfl)
  have h7 := @run_callFunc_extern Tryd.prog 37 _ (ReflectliteValue.methodAny (ReflectliteValue.valueError "reflectlite.Value.Type" 0) (fun t _ _ _ => ReflectliteType.toType t)) Tryd.func37 (by kernel_rfl) (by kernel_rfl) (by kernel_rfl) (by kernel_rfl)
  have h8 := @run_callFunc_extern Tryd.prog 38 _ (ReflectliteValue.method (ReflectliteValue.valueError "reflectlite.Value.IsNil" 0) ReflectliteValue.isNil) Tryd.func38 (by kernel_rfl) (by kernel_rfl) (by kernel_rfl) (by kernel_rfl)
  have h27 := @run_callFunc_extern Tryd.prog 87 _ (ReflectliteType.abiMethod fun t => do pure (.int .u8 (← Rtype.kind t))) Tryd.func87 (by kernel_rfl) (by kernel_rfl) (by kernel_rfl) (by kernel_rfl)
  have h37 := @run_callFunc_extern Tryd.prog 97 _ (ReflectliteType.method ReflectliteType.elem) Tryd.func97 (by kernel_rfl) (by kernel_rfl) (by kernel_rfl) (by kernel_rfl)
  have h38 := @run_callFunc_extern Tryd.prog 98 _ (ReflectliteType.relation "Implements" ReflectliteType.implements_) Tryd.func98 (by kernel_rfl) (by kernel_rfl) (by kernel_rfl) (by kernel_rfl)
  have h10 := @run_callFunc_extern Tryd.prog 51 _ ReflectliteType.typeOf Tryd.func51 (by kernel_rfl) (by kernel_rfl) (by kernel_rfl) (by kernel_rfl)
  have h35 := @run_callFunc_extern Tryd.prog 95 _ (ReflectliteType.relation "AssignableTo" ReflectliteType.assignableTo) Tryd.func95 (by kernel_rfl) (by kernel_rfl) (by kernel_rfl) (by kernel_rfl)
  have h11 := @run_callFunc_extern Tryd.prog 52 _ (ReflectliteValue.method (ReflectliteValue.valueError "reflectlite.Value.Elem" 0) ReflectliteValue.elem) Tryd.func52 (by kernel_rfl) (by kernel_rfl) (by kernel_rfl) (by kernel_rfl)
  have h12 := @run_callFunc_extern Tryd.prog 53 _ ReflectliteValue.set Tryd.func53 (by kernel_rfl) (by kernel_rfl) (by kernel_rfl) (by kernel_rfl)
  have tO := tk_typeOfE
  have mA := tk_methodAssignableTo
  have a25 := tk_assignableE
  have v25 := tk_valueOfE
  have f6 := tk_valueOfP
  have f7 := tk_typeP
  have mK := tk_methodKind
  have mE := tk_methodElem
  have mI := tk_methodImplements
  have k27 := tk_kindP
  have k25 := tk_kindE
  have e27 := tk_elemP
  have i25 := tk_implementsE
  have n8 := tk_isNilP ⟨w.heap.size, 0, none⟩ t ((w.alloc (.cells #[.pointer (some t)] 66)).alloc (.cells #[.pointer (some ⟨1, 66, none⟩), .pointer (some ⟨w.heap.size, 0, none⟩), .int .u64 150] 78)) (by simp)
  have hlt : 0 < w.heap.size := Et.lt hg
  have hg2 : ((w.alloc (.cells #[.pointer (some t)] 66)).alloc (.cells #[.pointer (some ⟨1, 66, none⟩), .pointer (some ⟨w.heap.size, 0, none⟩), .int .u64 150] 78)).cell? ⟨0, 0, none⟩ = some (.iface 97 (.agg #[.pointer (some ⟨1, 25, none⟩)])) := by
    rw [World.cell?_alloc_lt _ _ ⟨0, 0, none⟩ (by simp; try omega), World.cell?_alloc_lt _ _ ⟨0, 0, none⟩ hlt]; exact hg
  have htl : t.block < w.heap.size := by
    rcases Nat.lt_or_ge t.block w.heap.size with h | h
    · exact h
    · simp [World.cell?, Array.getElem?_eq_none h] at ht0
  have el := tk_elemV ⟨w.heap.size, 0, none⟩ t (((w.alloc (.cells #[.pointer (some t)] 66)).alloc (.cells #[.pointer (some ⟨1, 66, none⟩), .pointer (some ⟨w.heap.size, 0, none⟩), .int .u64 150] 78)).alloc (.cells #[.pointer (some ⟨1, 66, none⟩), .pointer (some ⟨w.heap.size, 0, none⟩), .int .u64 150] 78)) (by rw [World.cell?_alloc_lt _ _ ⟨w.heap.size, 0, none⟩ (by simp; omega)]; simp)
  have st := tk_setE t ⟨w.heap.size + 1 + 1 + 1, 0, none⟩ n old ((((w.alloc (.cells #[.pointer (some t)] 66)).alloc (.cells #[.pointer (some ⟨1, 66, none⟩), .pointer (some ⟨w.heap.size, 0, none⟩), .int .u64 150] 78)).alloc (.cells #[.pointer (some ⟨1, 66, none⟩), .pointer (some ⟨w.heap.size, 0, none⟩), .int .u64 150] 78)).alloc (.cells #[.int .i64 n] 50))
    (by rw [World.cell?_alloc_at _ _ _ _ (by simp)]; rfl)
    (by rw [World.cell?_alloc_lt _ _ t (by simp; omega), World.cell?_alloc_lt _ _ t (by simp; omega), World.cell?_alloc_lt _ _ t (by simp; omega), World.cell?_alloc_lt _ _ t htl]; exact ht0)
    (by rw [World.frozen?_alloc_old _ _ t (by simp; omega), World.frozen?_alloc_old _ _ t (by simp; omega), World.frozen?_alloc_old _ _ t (by simp; omega), World.frozen?_alloc_old _ _ t (Nat.ne_of_lt htl)]; exact hf0)
  go_enter Tryd.func26, Tryd.ntmps26
  go_wp2
  refine wp_loop_rounds 1 ?_
  rw [rounds_succ]
  go_wp2
  go_ret
  exact ⟨rfl, rfl⟩

set_option maxHeartbeats 400000 in
theorem told_nil (w : World) : Calls Tryd.prog 16 #[.nilIface] w fun e w' => e = .returned (.int .i64 0) ∧ w' = w := by
  go_enter Tryd.func16, Tryd.ntmps16
  go_wp2
  go_ret
  exact ⟨rfl, rfl⟩

set_option maxHeartbeats 1000000 in
theorem told_hit (n : Int) (w : World) (hg : Et w) :
    Calls Tryd.prog 16 #[.iface 50 (.int .i64 n)] w fun e w' => e = .returned (.int .i64 n) ∧ Below w.heap.size w w' := by
  have hA : (w.alloc (.cells #[.int .i64 0] 50)).cell? ⟨0, 0, none⟩ = some (.iface 97 (.agg #[.pointer (some ⟨1, 25, none⟩)])) := hg.alloc _
  have hB : (w.alloc (.cells #[.int .i64 0] 50)).cell? ⟨w.heap.size, 0, none⟩ = some (.int .i64 0) := by simp
  have hC : (w.alloc (.cells #[.int .i64 0] 50)).frozen? ⟨w.heap.size, 0, none⟩ = false := by simp
  go_enter Tryd.func16, Tryd.ntmps16
  go_wp2_with (go_at_call 26; refine (as_hit _ _ (.int .i64 0) _ hA hB hC).mono ?_; rintro e w' ⟨rfl, rfl⟩)
  go_ret
  refine ⟨rfl, ?_⟩
  repeat (first | exact Below.refl _ _ | refine Below.alloc ?_ (by simp; try omega) _)

set_option maxHeartbeats 400000 in
theorem same_nil (x : Int) (w : World) : Calls Tryd.prog 7 #[.nilIface, .int .i64 x] w fun e w' => e = .returned (.bool (0 == x)) ∧ w' = w := by
  go_enter Tryd.func7, Tryd.ntmps7
  go_wp2_with (go_at_call 16; refine (told_nil _).mono ?_; rintro e w' ⟨rfl, rfl⟩)
  go_ret
  exact ⟨rfl, rfl⟩

set_option maxHeartbeats 400000 in
theorem same_hit (n x : Int) (w : World) (hg : Et w) : Calls Tryd.prog 7 #[.iface 50 (.int .i64 n), .int .i64 x] w fun e w' => e = .returned (.bool (n == x)) ∧ Below w.heap.size w w' := by
  have Hg : Hid (Et w) := hg
  clear hg
  go_enter Tryd.func7, Tryd.ntmps7
  go_wp2_with fail
  refine (told_hit _ _ Hg).mono ?_
  rintro e w1 ⟨rfl, hb⟩
  have Hb : Hid (Below w.heap.size w w1) := hb
  clear hb
  go_wp2
  go_ret
  exact ⟨rfl, Hb⟩
end Go.Proofs.YtamgjhehnblbgaaDoor

namespace Go.Proofs.YtamgjhehnblbgaaDoor
open Go.RowKit

set_option maxHeartbeats 400000 in
theorem ints_any (u v : Value) (xs ys : List Int) (w : World) (hu : Ro w u xs) (hv : Ro w v ys) :
    Calls Tryd.prog 11 #[u, v] w fun e w' => e = .returned (.bool (decide (xs = ys))) ∧ ∃ n, w' = w.drewN n := by
  obtain ⟨a, c, rfl, hc1, hc2, ha⟩ := hu
  obtain ⟨b, d, rfl, hd1, hd2, hb⟩ := hv
  have Ha : Hid (Cells w a xs) := ha
  have Hb : Hid (Cells w b ys) := hb
  clear ha hb
  by_cases hl : xs.length = ys.length
  · have Hl : Hid (xs.length = ys.length) := hl
    rw [← hl] at hd1 ⊢
    clear hl
    go_enter Tryd.func11, Tryd.ntmps11
    go_wp2_with fail
    go_loopw [5] (fun i W => ∃ (k q : Nat), k ≤ xs.length ∧ i = .int .i64 (k : Nat) ∧ xs.take k = ys.take k ∧ W = w.drewN q) (fun i _ => xs.length - (intOf i).toNat)
    case atStart => exact ⟨0, 0, Nat.zero_le _, rfl, by simp, rfl⟩
    case round =>
      obtain ⟨k, q, hk, rfl, ht, rfl⟩ := hrel
      have Ht : Hid (xs.take k = ys.take k) := ht
      clear ht
      by_cases h0 : k = xs.length
      · subst h0
        go_wp2
        go_ret
        refine ⟨?_, q, rfl⟩
        have e := Ht.out
        rw [List.take_of_length_le (Nat.le_refl _), Hl.out, List.take_of_length_le (Nat.le_refl _)] at e
        simp [e]
      · have hkx : k < xs.length := by omega
        have hky : k < ys.length := by rw [← Hl.out]; exact hkx
        obtain ⟨x, rfl, -, hx⟩ := Ha.out (by intro h; rw [h] at hkx; simp at hkx)
        obtain ⟨y, rfl, -, hy⟩ := Hb.out (by intro h; rw [h] at hky; simp at hky)
        have cx := hx k xs[k] (List.getElem?_eq_getElem hkx)
        have cy := hy k ys[k] (List.getElem?_eq_getElem hky)
        have Te : Hid (xs.take (k + 1) = ys.take (k + 1) ↔ xs[k] = ys[k]) := by
          unfold Hid
          rw [List.take_succ_eq_append_getElem hkx, List.take_succ_eq_append_getElem hky, Ht.out]
          exact ⟨fun h => (List.cons.inj (List.append_cancel_left h)).1, fun h => by rw [h]⟩
        generalize xs[k] = p at *
        generalize ys[k] = r at *
        clear hx hy
        by_cases hpr : p = r
        · subst hpr
          go_wp2
          go_quiet (fail)
          go_wp2
          go_round
          case rel => exact ⟨k + 1, q + nq, by omega, by go_num, by first | exact Te.out.2 rfl | exact Te.out.2 trivial, rfl⟩
          case measure => simp [intOf]; omega
        · go_wp2
          go_quiet (fail)
          go_wp2
          go_ret
          refine ⟨?_, q + nq, by rw [World.drewN_drewN]⟩
          have : xs ≠ ys := fun h => hpr (Te.out.1 (by rw [h]))
          simp [this]
  · go_enter Tryd.func11, Tryd.ntmps11
    go_wp2
    go_ret
    refine ⟨?_, 0, rfl⟩
    have : xs ≠ ys := fun h => hl (by rw [h])
    simp [this]
end Go.Proofs.YtamgjhehnblbgaaDoor

namespace Go.Proofs.YtamgjhehnblbgaaDoor
open Go.RowKit

theorem er_same (u : Value) (n : Int) (w : World) (h : Er u n) (hg : Et w) :
    Calls Tryd.prog 7 #[u, .int .i64 n] w fun e w' => e = .returned (.bool true) ∧ Below w.heap.size w w' := by
  rcases h with ⟨rfl, rfl⟩ | ⟨h0, rfl⟩
  · exact (same_nil 0 w).mono fun e w' ⟨h1, h2⟩ => ⟨h1, by rw [h2]; exact Below.refl _ _⟩
  · exact (same_hit n n w hg).mono fun e w' ⟨h1, h2⟩ => ⟨by rw [h1, beq_self_eq_true], h2⟩
theorem ints_like (u v : Value) (xs : List Int) (w : World) (hu : Ro w u xs) (hv : Ro w v xs) :
    Calls Tryd.prog 11 #[u, v] w fun e w' => e = .returned (.bool true) ∧ Below w.heap.size w w' :=
  (ints_any u v xs xs w hu hv).mono fun e w' ⟨h1, n, h2⟩ => ⟨by rw [h1, decide_eq_true rfl], by rw [h2]; exact ⟨rfl, rfl, rfl, Nat.le_refl _, fun _ _ => rfl⟩⟩
end Go.Proofs.YtamgjhehnblbgaaDoor

namespace Go.Proofs.YtamgjhehnblbgaaDoor
open Go Go.RowKit
set_option linter.unusedVariables false

section
variable {P : Program} {ops : Array Oper} {md : Region.Mode} {C : World → Prop} {Q : Exit → Act → World → Prop}

/-- the operation gives v in each of the worlds C, and turns nothing. -/
def YieldsS (P : Program) (ops : Array Oper) (C : World → Prop) (o : Oper) (v : Value) (a : Act) : Prop :=
  Region.wanted o (yielded ops a.tmps) = true ∧ ∀ W, C W → (execOp a.eval o).run P W = .ok (.value v) W
/-- the operation goes on, to a world of C. -/
def StepS (P : Program) (ops : Array Oper) (C : World → Prop) (o : Oper) (K : Act → World → Prop) (a : Act) (W : World) : Prop :=
  Region.wanted o (yielded ops a.tmps) = true ∧
   ((∃ v W', (execOp a.eval o).run P W = .ok (.value v) W' ∧ C W' ∧ K (a.put o.dst v) W') ∨ (∃ W', (execOp a.eval o).run P W = .ok .skip W' ∧ C W' ∧ K (a.put o.dst undef) W') ∨
    ∃ f args, (execOp a.eval o).run P W = .ok (.enter f args) W ∧ Calls P f args W (fun e w' => ∃ v, e = .returned v ∧ C w' ∧ K (a.put o.dst v) w'))
theorem StepS.mono {o : Oper} {K K' : Act → World → Prop} {a : Act} {W : World} (h : ∀ a W, C W → K a W → K' a W) (hh : StepS P ops C o K a W) : StepS P ops C o K' a W := by
  obtain ⟨h1, h2⟩ := hh
  refine ⟨h1, ?_⟩
  rcases h2 with ⟨v, W', e, hc, hk⟩ | ⟨W', e, hc, hk⟩ | ⟨f, args, e, hc⟩
  · exact .inl ⟨v, W', e, hc, h _ _ hc hk⟩
  · exact .inr (.inl ⟨W', e, hc, h _ _ hc hk⟩)
  · exact .inr (.inr ⟨f, args, e, hc.mono fun e w' ⟨v, he, hw, hk⟩ => ⟨v, he, hw, h _ _ hw hk⟩⟩)
theorem YieldsS.step {o : Oper} {v : Value} {K : Act → World → Prop} {a : Act} {W : World} (hy : YieldsS P ops C o v a) (hC : C W) (h : K (a.put o.dst v) W) : StepS P ops C o K a W :=
  ⟨hy.1, .inl ⟨v, W, hy.2 W hC, hC, h⟩⟩
theorem StepS.put {oi oj : Oper} {v : Value} (hap : oi.apart ops oj = true)
    (hsi : ∀ cs b, oi.op ≠ .select cs b) (hsj : ∀ cs b, oj.op ≠ .select cs b) {K : Act → World → Prop} {a : Act} {W : World}
    (hy : YieldsS P ops C oi v a) (h : StepS P ops C oj K (a.put oi.dst v) W) :
    StepS P ops C oj (fun a' w' => YieldsS P ops C oi v a' ∧ K (a'.put oi.dst v) w') a W := by
  obtain ⟨h1, h2, h3⟩ := Oper.apart_spec hap
  have keep : ∀ u, YieldsS P ops C oi v (a.put oj.dst u) := fun u => by
    unfold YieldsS at *
    rw [execOp_put oi hsi a oj.dst u h3, wanted_put oi a oj.dst u h3]
    exact hy
  unfold StepS at *
  rw [wanted_put oj a oi.dst v h1, execOp_put oj hsj a oi.dst v h1] at h
  obtain ⟨hw, h⟩ := h
  refine ⟨hw, ?_⟩
  rcases h with ⟨u, W', e, hc, hk⟩ | ⟨W', e, hc, hk⟩ | ⟨f, args, e, hc⟩
  · exact .inl ⟨u, W', e, hc, keep u, by rw [← Act.put_comm a v u h2]; exact hk⟩
  · exact .inr (.inl ⟨W', e, hc, keep _, by rw [← Act.put_comm a v _ h2]; exact hk⟩)
  · exact .inr (.inr ⟨f, args, e, hc.mono fun e w' ⟨u, he, hw, hk⟩ => ⟨u, he, hw, keep u, by rw [← Act.put_comm a v u h2]; exact hk⟩⟩)
def wpAnyS (P : Program) (md : Region.Mode) (ops : Array Oper) (C : World → Prop) (Q : Exit → Act → World → Prop) : Nat → Array Bool → Act → World → Prop
  | 0, listed, a, W => Region.ready md ops listed = [] ∧ Q .normal a W
  | f + 1, listed, a, W => Region.ready md ops listed ≠ [] ∧ ∀ i ∈ Region.ready md ops listed, ∃ o, ops[i]? = some o ∧ StepS P ops C o (wpAnyS P md ops C Q f (listed.setIfInBounds i true)) a W
theorem wpAny_of_S : ∀ (f : Nat) (listed : Array Bool) (a : Act) (W : World), wpAnyS P md ops C Q f listed a W → wpAny P md ops Q f listed a W
  | 0, listed, a, W, h => h
  | f + 1, listed, a, W, h => by
    refine ⟨fun h0 => absurd h0 h.1, fun i hi => ?_⟩
    obtain ⟨o, ho, hs⟩ := h.2 i hi
    unfold wpOp
    simp only [ho]
    obtain ⟨hw, hs⟩ := hs
    rw [if_pos hw]
    refine .inl ?_
    unfold Oper.wp
    rcases hs with ⟨v, W', e, -, hk⟩ | ⟨W', e, -, hk⟩ | ⟨g, args, e, hc⟩
    · rw [e]; exact wpAny_of_S f _ _ _ hk
    · rw [e]; exact wpAny_of_S f _ _ _ hk
    · rw [e]
      exact hc.mono fun e w' ⟨v, he, _, hk⟩ => by subst he; exact wpAny_of_S f _ _ _ hk
theorem wpAnyS_first {i : Nat} {oi : Oper} {v : Value} (hi : ops[i]? = some oi) (hsel : ∀ (j : Nat) (o : Oper) cs b, ops[j]? = some o → o.op ≠ .select cs b) :
    ∀ (f : Nat) (listed : Array Bool) (a : Act) (W : World),
      (∀ j oj, ops[j]? = some oj → j ≠ i → listed.getD j true = false → (∀ e ∈ oj.after, Region.binds md e = true → e.on ≠ i) → oi.apart ops oj = true) →
      i ∈ Region.ready md ops listed → YieldsS P ops C oi v a → C W →
      wpAnyS P md ops C Q f (listed.setIfInBounds i true) (a.put oi.dst v) W → wpAnyS P md ops C Q (f + 1) listed a W := by
  intro f
  induction f with
  | zero =>
    intro listed a W _ hr hy hC H
    refine ⟨fun h => (by rw [h] at hr; cases hr), fun j hj => ?_⟩
    by_cases hji : j = i
    · subst hji; exact ⟨oi, hi, hy.step hC H⟩
    · have := ready_mono hj hji
      rw [H.1] at this
      cases this
  | succ f ih =>
    intro listed a W hfree hr hy hC H
    refine ⟨fun h => (by rw [h] at hr; cases hr), fun j hj => ?_⟩
    by_cases hji : j = i
    · subst hji; exact ⟨oi, hi, hy.step hC H⟩
    · obtain ⟨o', ho', h1⟩ := H.2 j (ready_mono hj hji)
      obtain ⟨hjun, oj, hoj, hall⟩ := mem_ready.1 hj
      obtain rfl : o' = oj := Option.some.inj (ho'.symm.trans hoj)
      have hnot : ∀ e ∈ o'.after, Region.binds md e = true → e.on ≠ i := fun e he hb heq => by
        have h1 := hall e he hb
        have h0 := (mem_ready.1 hr).1
        rw [heq, getD_both h0] at h1
        cases h1
      have h2 := StepS.put (hfree j o' hoj hji hjun hnot) (fun cs b => hsel i oi cs b hi) (fun cs b => hsel j o' cs b hoj) hy h1
      have hfree' : ∀ k ok, ops[k]? = some ok → k ≠ i → (listed.setIfInBounds j true).getD k true = false →
          (∀ e ∈ ok.after, Region.binds md e = true → e.on ≠ i) → oi.apart ops ok = true := fun k ok hk hki hun hno => by
        refine hfree k ok hk hki ?_ hno
        by_cases hjk : j = k
        · subst hjk; exact hjun
        · rw [getD_set_ne true hjk] at hun; exact hun
      refine ⟨o', hoj, h2.mono fun a' W' hC' h3 => ih (listed.setIfInBounds j true) a' W' hfree' (ready_mono hr (Ne.symm hji)) h3.1 hC' ?_⟩
      rw [Array.setIfInBounds_comm _ _ hji]
      exact h3.2
/-- an order of one's own: those marked true read, and may come at any time; of the others each is the only one that may come. -/
def wpSched (P : Program) (ops : Array Oper) (C : World → Prop) (Q : Exit → Act → World → Prop) : List (Bool × Nat) → Act → World → Prop
  | [], a, W => Q .normal a W
  | (true, i) :: r, a, W => ∃ o v, ops[i]? = some o ∧ YieldsS P ops C o v a ∧ wpSched P ops C Q r (a.put o.dst v) W
  | (false, i) :: r, a, W => ∃ o, ops[i]? = some o ∧ StepS P ops C o (wpSched P ops C Q r) a W
def schedB (md : Region.Mode) (ops : Array Oper) : List (Bool × Nat) → Array Bool → Bool
  | [], listed => (Region.ready md ops listed).isEmpty
  | (true, i) :: r, listed => (Region.ready md ops listed).contains i && (Region.free md ops listed i && schedB md ops r (listed.setIfInBounds i true))
  | (false, i) :: r, listed => decide (Region.ready md ops listed = [i]) && schedB md ops r (listed.setIfInBounds i true)
theorem wpAnyS_of_sched (hsel : Region.noSelect ops = true) : ∀ (s : List (Bool × Nat)) (listed : Array Bool) (a : Act) (W : World), schedB md ops s listed = true → C W → wpSched P ops C Q s a W → wpAnyS P md ops C Q s.length listed a W
  | [], listed, a, W, hB, hC, h => ⟨by simpa [schedB] using hB, h⟩
  | (true, i) :: r, listed, a, W, hB, hC, h => by
    simp only [schedB, Bool.and_eq_true] at hB
    obtain ⟨hr, hf, hB⟩ := hB
    obtain ⟨o, v, ho, hy, hk⟩ := h
    have hr' : i ∈ Region.ready md ops listed := by simpa using hr
    exact wpAnyS_first ho (Region.noSelect_spec hsel) r.length listed a W (Region.free_spec ho hf) hr' hy hC (wpAnyS_of_sched hsel r _ _ _ hB hC hk)
  | (false, i) :: r, listed, a, W, hB, hC, h => by
    simp only [schedB, Bool.and_eq_true, decide_eq_true_eq] at hB
    obtain ⟨hr, hB⟩ := hB
    obtain ⟨o, ho, hs⟩ := h
    refine ⟨fun h => (by rw [hr] at h; cases h), fun j hj => ?_⟩
    rw [hr] at hj
    obtain rfl : j = i := by simpa using hj
    exact ⟨o, ho, hs.mono fun a' W' hC' hk => wpAnyS_of_sched hsel r _ _ _ hB hC' hk⟩
theorem wp_region_sched {id : Nat} {a : Act} {w : World} (s : List (Bool × Nat)) (C : World → Prop) (hm : P.follows .mixedOrders = true) (hs : Region.noSelect ops = true) (hl : s.length = ops.size) (hB : schedB .any ops s (Array.replicate ops.size false) = true)
    (hC : C { w with drawn := w.drawn + 1 }) (h : wpSched P ops C Q s a { w with drawn := w.drawn + 1 }) : (Code.region id ops true).wp P Q a w := by
  refine wp_region_any hm ?_
  rw [← hl]
  exact wpAny_of_S _ _ _ _ (wpAnyS_of_sched hs s _ a _ (by rw [hl]; exact hB) hC h)
theorem sched_read {i : Nat} {r : List (Bool × Nat)} {o : Oper} {a : Act} {W : World} (ho : ops[i]? = some o) (v : Value) (hw : Region.wanted o (yielded ops a.tmps) = true) (hr : ∀ W, C W → (execOp a.eval o).run P W = .ok (.value v) W) (h : wpSched P ops C Q r (a.put o.dst v) W) : wpSched P ops C Q ((true, i) :: r) a W :=
  ⟨o, v, ho, ⟨hw, hr⟩, h⟩
theorem sched_call {i : Nat} {r : List (Bool × Nat)} {o : Oper} {a : Act} {W : World} (ho : ops[i]? = some o) (f : FuncId) (args : Array Value) (hw : Region.wanted o (yielded ops a.tmps) = true) (hr : (execOp a.eval o).run P W = .ok (.enter f args) W)
    (hc : Calls P f args W (fun e w' => ∃ v, e = .returned v ∧ C w' ∧ wpSched P ops C Q r (a.put o.dst v) w')) : wpSched P ops C Q ((false, i) :: r) a W :=
  ⟨o, ho, hw, .inr (.inr ⟨f, args, hr, hc⟩)⟩
theorem sched_value {i : Nat} {r : List (Bool × Nat)} {o : Oper} {a : Act} {W : World} (ho : ops[i]? = some o) (v : Value) (W' : World) (hw : Region.wanted o (yielded ops a.tmps) = true) (hr : (execOp a.eval o).run P W = .ok (.value v) W') (hC : C W') (h : wpSched P ops C Q r (a.put o.dst v) W') : wpSched P ops C Q ((false, i) :: r) a W :=
  ⟨o, ho, hw, .inl ⟨v, W', hr, hC, h⟩⟩
theorem sched_skip {i : Nat} {r : List (Bool × Nat)} {o : Oper} {a : Act} {W : World} (ho : ops[i]? = some o) (W' : World) (hw : Region.wanted o (yielded ops a.tmps) = true) (hr : (execOp a.eval o).run P W = .ok .skip W') (hC : C W') (h : wpSched P ops C Q r (a.put o.dst undef) W') : wpSched P ops C Q ((false, i) :: r) a W :=
  ⟨o, ho, hw, .inr (.inl ⟨W', hr, hC, h⟩)⟩
end
end Go.Proofs.YtamgjhehnblbgaaDoor

namespace Go.Proofs.YtamgjhehnblbgaaDoor
open Go Go.RowKit
set_option linter.unusedVariables false

section
variable {P : Program} {ops : Array Oper} {md : Region.Mode} {C : World → Prop} {Q : Exit → Act → World → Prop} {L : Array Bool → Act → World → Prop}

def wpAnyT (P : Program) (md : Region.Mode) (ops : Array Oper) (C : World → Prop) (L : Array Bool → Act → World → Prop) : Nat → Array Bool → Act → World → Prop
  | 0, listed, a, W => L listed a W
  | f + 1, listed, a, W => Region.ready md ops listed ≠ [] ∧ ∀ i ∈ Region.ready md ops listed, ∃ o, ops[i]? = some o ∧ StepS P ops C o (wpAnyT P md ops C L f (listed.setIfInBounds i true)) a W
theorem wpAny_of_T {g : Nat} (hL : ∀ listed a W, L listed a W → wpAny P md ops Q g listed a W) : ∀ (f : Nat) (listed : Array Bool) (a : Act) (W : World), wpAnyT P md ops C L f listed a W → wpAny P md ops Q (f + g) listed a W
  | 0, listed, a, W, h => by rw [Nat.zero_add]; exact hL _ _ _ h
  | f + 1, listed, a, W, h => by
    rw [show f + 1 + g = (f + g) + 1 by omega]
    refine ⟨fun h0 => absurd h0 h.1, fun i hi => ?_⟩
    obtain ⟨o, ho, hs⟩ := h.2 i hi
    unfold wpOp
    simp only [ho]
    obtain ⟨hw, hs⟩ := hs
    rw [if_pos hw]
    refine .inl ?_
    unfold Oper.wp
    rcases hs with ⟨v, W', e, -, hk⟩ | ⟨W', e, -, hk⟩ | ⟨k, args, e, hc⟩
    · rw [e]; exact wpAny_of_T hL f _ _ _ hk
    · rw [e]; exact wpAny_of_T hL f _ _ _ hk
    · rw [e]
      exact hc.mono fun e w' ⟨v, he, _, hk⟩ => by subst he; exact wpAny_of_T hL f _ _ _ hk
theorem unset_of {l H : Array Bool} {i : Nat} (h0 : l.getD i true = false) (e : l.setIfInBounds i true = H) : l = H.setIfInBounds i false := by
  subst e
  apply Array.ext_getElem?
  intro k
  by_cases hk : i = k
  · subst hk
    rcases Nat.lt_or_ge i l.size with hl | hl
    · simp [Array.getD, hl] at h0
      simp [hl, h0]
    · simp [Array.getD, Nat.not_lt.2 hl] at h0
  · simp [hk]
/-- what is listed has all that it waits for. -/
def Clos (md : Region.Mode) (ops : Array Oper) (listed : Array Bool) : Prop := ∀ (j : Nat) (oj : Oper), ops[j]? = some oj → listed.getD j false = true → ∀ e ∈ oj.after, Region.binds md e = true → listed.getD e.on false = true
theorem Clos.set {i : Nat} {listed : Array Bool} (inv : Clos md ops listed) (hi : i ∈ Region.ready md ops listed) : Clos md ops (listed.setIfInBounds i true) := by
  obtain ⟨_, oi, hoi, hall⟩ := mem_ready.1 hi
  intro j oj hj hl e he hb
  by_cases hij : i = j
  · subst hij
    have : oj = oi := Option.some.inj (hj.symm.trans hoi)
    subst this
    exact getD_set_true (hall e he hb)
  · rw [getD_set_ne false hij] at hl
    exact getD_set_true (inv j oj hj hl e he hb)
/-- one that is listed waits for i. -/
def waits (md : Region.Mode) (ops : Array Oper) (H0 : Array Bool) (i : Nat) : Bool := (List.range ops.size).any fun j => H0.getD j false && (decide (j ≠ i) && match ops[j]? with | some o => o.after.any fun e => Region.binds md e && decide (e.on = i) | none => false)
theorem waits_spec {H0 : Array Bool} {i : Nat} (h : waits md ops H0 i = true) : ∃ j o, ops[j]? = some o ∧ j ≠ i ∧ H0.getD j false = true ∧ ∃ e ∈ o.after, Region.binds md e = true ∧ e.on = i := by
  unfold waits at h
  obtain ⟨j, -, hj⟩ := List.any_eq_true.1 h
  simp only [Bool.and_eq_true, decide_eq_true_eq] at hj
  obtain ⟨h1, h2, h3⟩ := hj
  cases ho : ops[j]? with
  | none => rw [ho] at h3; cases h3
  | some o =>
    rw [ho] at h3
    obtain ⟨k, hk, he⟩ := Array.any_eq_true.1 h3
    simp only [Bool.and_eq_true, decide_eq_true_eq] at he
    exact ⟨j, o, ho, h2, h1, o.after[k], Array.getElem_mem hk, he.1, he.2⟩
theorem wpAnyT_first {i : Nat} {oi : Oper} {v : Value} {H0 : Array Bool} (hi : ops[i]? = some oi) (hsel : ∀ (j : Nat) (o : Oper) cs b, ops[j]? = some o → o.op ≠ .select cs b)
    (hH : waits md ops H0 i = true ∨ Region.ready md ops (H0.setIfInBounds i false) = [i]) (hLH : ∀ listed a W, L listed a W → listed = H0) :
    ∀ (f : Nat) (listed : Array Bool) (a : Act) (W : World), Clos md ops listed →
      (∀ j oj, ops[j]? = some oj → j ≠ i → listed.getD j true = false → (∀ e ∈ oj.after, Region.binds md e = true → e.on ≠ i) → oi.apart ops oj = true) →
      i ∈ Region.ready md ops listed → YieldsS P ops C oi v a → C W →
      wpAnyT P md ops C L f (listed.setIfInBounds i true) (a.put oi.dst v) W → wpAnyT P md ops C L (f + 1) listed a W := by
  intro f
  induction f with
  | zero =>
    intro listed a W inv _ hr hy hC H
    refine ⟨fun h => (by rw [h] at hr; cases hr), fun j hj => ?_⟩
    by_cases hji : j = i
    · subst hji; exact ⟨oi, hi, hy.step hC H⟩
    · rcases hH with hH | hH
      · obtain ⟨k, ok, hk, hki, hkl, e, he, hb, heq⟩ := waits_spec hH
        rw [← hLH _ _ _ H, getD_set_ne false (Ne.symm hki)] at hkl
        have h1 := inv k ok hk hkl e he hb
        rw [heq, getD_both (mem_ready.1 hr).1] at h1
        cases h1
      · have e := unset_of (mem_ready.1 hr).1 (hLH _ _ _ H)
        rw [e, hH] at hj
        exact absurd (by simpa using hj) hji
  | succ f ih =>
    intro listed a W inv hfree hr hy hC H
    refine ⟨fun h => (by rw [h] at hr; cases hr), fun j hj => ?_⟩
    by_cases hji : j = i
    · subst hji; exact ⟨oi, hi, hy.step hC H⟩
    · obtain ⟨o', ho', h1⟩ := H.2 j (ready_mono hj hji)
      obtain ⟨hjun, oj, hoj, hall⟩ := mem_ready.1 hj
      obtain rfl : o' = oj := Option.some.inj (ho'.symm.trans hoj)
      have hnot : ∀ e ∈ o'.after, Region.binds md e = true → e.on ≠ i := fun e he hb heq => by
        have h1 := hall e he hb
        have h0 := (mem_ready.1 hr).1
        rw [heq, getD_both h0] at h1
        cases h1
      have h2 := StepS.put (hfree j o' hoj hji hjun hnot) (fun cs b => hsel i oi cs b hi) (fun cs b => hsel j o' cs b hoj) hy h1
      have hfree' : ∀ k ok, ops[k]? = some ok → k ≠ i → (listed.setIfInBounds j true).getD k true = false →
          (∀ e ∈ ok.after, Region.binds md e = true → e.on ≠ i) → oi.apart ops ok = true := fun k ok hk hki hun hno => by
        refine hfree k ok hk hki ?_ hno
        by_cases hjk : j = k
        · subst hjk; exact hjun
        · rw [getD_set_ne true hjk] at hun; exact hun
      refine ⟨o', hoj, h2.mono fun a' W' hC' h3 => ih (listed.setIfInBounds j true) a' W' (inv.set hj) hfree' (ready_mono hr (Ne.symm hji)) h3.1 hC' ?_⟩
      rw [Array.setIfInBounds_comm _ _ hji]
      exact h3.2
/-- the head, in an order of one's own; K behind it. -/
def wpHeadT (P : Program) (ops : Array Oper) (C : World → Prop) (K : Act → World → Prop) : List (Bool × Nat) → Act → World → Prop
  | [], a, W => K a W
  | (true, i) :: r, a, W => ∃ o v, ops[i]? = some o ∧ YieldsS P ops C o v a ∧ wpHeadT P ops C K r (a.put o.dst v) W
  | (false, i) :: r, a, W => ∃ o, ops[i]? = some o ∧ StepS P ops C o (wpHeadT P ops C K r) a W
def headB (md : Region.Mode) (ops : Array Oper) (H0 : Array Bool) : List (Bool × Nat) → Array Bool → Bool
  | [], listed => decide (listed = H0)
  | (true, i) :: r, listed => (Region.ready md ops listed).contains i && (Region.free md ops listed i && ((waits md ops H0 i || decide (Region.ready md ops (H0.setIfInBounds i false) = [i])) && headB md ops H0 r (listed.setIfInBounds i true)))
  | (false, i) :: r, listed => decide (Region.ready md ops listed = [i]) && headB md ops H0 r (listed.setIfInBounds i true)
theorem wpAnyT_of_head {K : Act → World → Prop} {H0 : Array Bool} (hsel : Region.noSelect ops = true) : ∀ (s : List (Bool × Nat)) (listed : Array Bool) (a : Act) (W : World), Clos md ops listed → headB md ops H0 s listed = true → C W → wpHeadT P ops C K s a W → wpAnyT P md ops C (fun l a W => l = H0 ∧ K a W) s.length listed a W
  | [], listed, a, W, inv, hB, hC, h => ⟨of_decide_eq_true hB, h⟩
  | (true, i) :: r, listed, a, W, inv, hB, hC, h => by
    simp only [headB, Bool.and_eq_true, Bool.or_eq_true, decide_eq_true_eq] at hB
    obtain ⟨hr, hf, hH, hB⟩ := hB
    obtain ⟨o, v, ho, hy, hk⟩ := h
    have hr' : i ∈ Region.ready md ops listed := by simpa using hr
    exact wpAnyT_first ho (Region.noSelect_spec hsel) hH (fun _ _ _ h => h.1) r.length listed a W inv (Region.free_spec ho hf) hr' hy hC (wpAnyT_of_head hsel r _ _ _ (inv.set hr') hB hC hk)
  | (false, i) :: r, listed, a, W, inv, hB, hC, h => by
    simp only [headB, Bool.and_eq_true, decide_eq_true_eq] at hB
    obtain ⟨hr, hB⟩ := hB
    obtain ⟨o, ho, hs⟩ := h
    refine ⟨fun h => (by rw [hr] at h; cases h), fun j hj => ?_⟩
    have hr' : i ∈ Region.ready md ops listed := by rw [hr]; simp
    rw [hr] at hj
    obtain rfl : j = i := by simpa using hj
    exact ⟨o, ho, hs.mono fun a' W' hC' hk => wpAnyT_of_head hsel r _ _ _ (inv.set hr') hB hC' hk⟩
def listedBy (n : Nat) (s : List (Bool × Nat)) : Array Bool := s.foldl (fun l p => l.setIfInBounds p.2 true) (Array.replicate n false)
/-- the region: its head s, in the worlds C; its tail t. -/
theorem wp_region_two {id : Nat} {a : Act} {w : World} (s t : List (Bool × Nat)) (C : World → Prop) (hm : P.follows .mixedOrders = true) (hs : Region.noSelect ops = true) (hl : s.length + t.length = ops.size) (hB : headB .any ops (listedBy ops.size s) s (Array.replicate ops.size false) = true)
    (hT : schedB .any ops t (listedBy ops.size s) = true)
    (hC : C { w with drawn := w.drawn + 1 }) (h : wpHeadT P ops C (wpSched P ops (fun _ => True) Q t) s a { w with drawn := w.drawn + 1 }) : (Code.region id ops true).wp P Q a w := by
  refine wp_region_any hm ?_
  rw [← hl]
  refine wpAny_of_T (g := t.length) (fun listed a W hh => ?_) _ _ _ _ (wpAnyT_of_head (H0 := listedBy ops.size s) hs s _ a _ (fun j oj _ hj => by rw [getD_replicate_false] at hj; cases hj) (by rw [hl]; exact hB) hC h)
  obtain ⟨rfl, hk⟩ := hh
  exact wpAny_of_S _ _ _ _ (wpAnyS_of_sched hs t _ a W hT trivial hk)
theorem headT_read {K : Act → World → Prop} {i : Nat} {r : List (Bool × Nat)} {o : Oper} {a : Act} {W : World} (ho : ops[i]? = some o) (v : Value) (hw : Region.wanted o (yielded ops a.tmps) = true) (hr : ∀ W, C W → (execOp a.eval o).run P W = .ok (.value v) W) (h : wpHeadT P ops C K r (a.put o.dst v) W) : wpHeadT P ops C K ((true, i) :: r) a W :=
  ⟨o, v, ho, ⟨hw, hr⟩, h⟩
theorem headT_call {K : Act → World → Prop} {i : Nat} {r : List (Bool × Nat)} {o : Oper} {a : Act} {W : World} (ho : ops[i]? = some o) (f : FuncId) (args : Array Value) (hw : Region.wanted o (yielded ops a.tmps) = true) (hr : (execOp a.eval o).run P W = .ok (.enter f args) W)
    (hc : Calls P f args W (fun e w' => ∃ v, e = .returned v ∧ C w' ∧ wpHeadT P ops C K r (a.put o.dst v) w')) : wpHeadT P ops C K ((false, i) :: r) a W :=
  ⟨o, ho, hw, .inr (.inr ⟨f, args, hr, hc⟩)⟩
theorem exec_append {o : Oper} {a : Act} {w w' : World} {v' : Value} (s x : Operand) (t tx : TypeId) (ho : o.op = .call { callee := .builtin .append, args := #[s, x], argTypes := #[t, tx] }) (v xv : Value) (hs : a.eval s = v) (hx : a.eval x = xv)
    (hr : (Builtin.append_ #[t, tx] o.type #[v, xv]).run P w = .ok v' w') : (execOp a.eval o).run P w = .ok (.value v') w' := by
  unfold execOp
  simp only [ho, resolve, invoke, builtin, Sem.run_bind, Sem.run_pure, Result.andThen_ok, List.map_toArray, List.map_cons, List.map_nil, hs, hx, hr]
theorem headT_value {K : Act → World → Prop} {i : Nat} {r : List (Bool × Nat)} {o : Oper} {a : Act} {W : World} (ho : ops[i]? = some o) (v : Value) (W' : World) (hw : Region.wanted o (yielded ops a.tmps) = true) (hr : (execOp a.eval o).run P W = .ok (.value v) W') (hC : C W') (h : wpHeadT P ops C K r (a.put o.dst v) W') : wpHeadT P ops C K ((false, i) :: r) a W :=
  ⟨o, ho, hw, .inl ⟨v, W', hr, hC, h⟩⟩
end
end Go.Proofs.YtamgjhehnblbgaaDoor

