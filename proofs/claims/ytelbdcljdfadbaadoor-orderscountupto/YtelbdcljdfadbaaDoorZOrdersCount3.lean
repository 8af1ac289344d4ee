/- The reference: the digits of a number, as text. · Lists of texts that the call itself makes, by append. · A number as text. · A list of bytes as a text. · strings.Builder: what is written is there. · An error that is told. · The program's orders: what is wrong with one. · The program's orders: the numbers of the words for What. · orders.write: an order as text. · orders.Check, unitOf, lastOnes. · orders.Print. · The reference: orders as text. · slices.swapRangeCmpFunc of orders, by places. · slices.rotateCmpFunc of orders, by places. -/
import Derived.Test.YtelbdcljdfadbaaDoorZOrdersCount2
import Derived.Laws.IdiomStrings
import Derived.StillTactics
import Derived.Deep.LoopGhost
import Derived.Test.YtelbdcljdfadbaaDoorRows
import Derived.Test.YtelbdcljdfadbaaDoorZOrdersCount1
import Derived.OwnWalk
import Derived.Deep.AppendLies
import Derived.WalkKit
import Derived.WalkSpells
import Derived.WalkLawsBesides
import Derived.IntWalk
import Derived.Test.YtelbdcljdfadbaaDoorShelf
import Derived.Lib.ItoaMem
import Derived.Lib.Join
import Derived.WideShapes
import Derived.Laws.Closers25
import Derived.Maps.Own
import Derived.Maps.OwnSet
import Derived.Maps.OwnOps
import Derived.Maps.Views
import Derived.StringKeys
import Derived.Carry
import Derived.LoopN
import Derived.Deep.DeepCutAuto
namespace Go.Proofs.YtelbdcljdfadbaaDoor
open Go.RowKit Tx
set_option linter.unusedVariables false

/-- the digits, the last one first. -/
def rdig (n : Nat) : List UInt8 := if n = 0 then [] else (48 + n % 10).toUInt8 :: rdig (n / 10)
termination_by n
decreasing_by omega
theorem rdig_zero : rdig 0 = [] := by rw [rdig, if_pos rfl]
theorem rdig_pos {n : Nat} (h : n ≠ 0) : rdig n = (48 + n % 10).toUInt8 :: rdig (n / 10) := by rw [rdig, if_neg h]
theorem rdig_dig (n : Nat) (h : n ≠ 0) : (rdig n).reverse = dig n := by
  induction n using Nat.strongRecOn with
  | ind n ih =>
    rw [rdig_pos h, List.reverse_cons]
    by_cases h1 : n < 10
    · rw [show n / 10 = 0 by omega, rdig_zero, dig_small h1, show n % 10 = n by omega]
      rfl
    · rw [ih (n / 10) (by omega) (by omega), dig_big h1]
theorem rdig_len : ∀ (k n : Nat), n < 10 ^ k → (rdig n).length ≤ k
  | 0, n, h => by
    have : n = 0 := by simpa using h
    subst this
    rw [rdig_zero]
    simp
  | k + 1, n, h => by
    by_cases h0 : n = 0
    · subst h0; rw [rdig_zero]; simp
    · rw [rdig_pos h0, List.length_cons]
      have := rdig_len k (n / 10) (by rw [Nat.pow_succ] at h; omega)
      omega
theorem nrm_one {ds : List Int} {y : Nat} (h : Bg.Nrm ds) (hv : Bg.val ds = (y : Int)) (hy : y < 4294967296) : (y = 0 ∧ ds = []) ∨ (y ≠ 0 ∧ ds = [(y : Int)]) := by
  have hl := Bg.len_le ds h 1 (by rw [hv]; simp; omega)
  match ds, hl with
  | [], _ => left; simp [Bg.val] at hv; exact ⟨by omega, rfl⟩
  | [d], _ =>
    right
    have h1 : d = (y : Int) := by simpa [Bg.val] using hv
    have h2 := h.2 d rfl
    exact ⟨by rintro rfl; exact h2 h1, by rw [h1]⟩
theorem digit_byte (r : Nat) (h : r < 10) : (((48 + r).toUInt8).toNat : Int) = 48 + (r : Int) := by
  rw [sign_nat h]
  omega

theorem Ob.conv {w : World} {base g cap : Nat} {l : List UInt8} (h : Ob w base (.slice (some ⟨g, 0, none⟩) l.length cap) l) : (convert 108 9 (.slice (some ⟨g, 0, none⟩) l.length cap)).run Tryd.prog w = .ok (.string ⟨l.toArray⟩) w :=
  run_convert_bytes_back (P := Tryd.prog) w 108 9 5 ⟨g, 0, none⟩ cap l Tryd.underlying108 Tryd.underlying5 Tryd.underlying9 (fun j hj => by
    rw [Addr.add_lit, Nat.zero_add, World.ownsRow.cellAt h j (by omega)]
    simp [byteCells, List.getElem?_eq_getElem hj])
theorem Sl.far {w w' : World} {v : Value} {ds : List Int} {row : Option Nat} (h : Sl w v ds) (hg : w.grownBy w' row) (hne : ds ≠ [] → ∀ b n c, v = .slice (some ⟨b, 0, none⟩) n c → row ≠ some b) : Sl w' v ds := by
  rcases h with h | ⟨b, cap, h1, h2, h3, h4, h5⟩
  · exact .inl h
  · refine .inr ⟨b, cap, h1, h2, h3, Nat.lt_of_lt_of_le h4 hg.size, fun i d hd => ?_⟩
    have hn : ds ≠ [] := by rintro rfl; simp at hd
    rw [hg.cell_far ⟨b, i, none⟩ h4 (fun e => hne hn b _ _ h1 e.symm)]
    exact h5 i d hd

set_option maxRecDepth 100000 in
set_option maxHeartbeats 4000000 in
theorem text_any (z n : Nat) (w : World) (hn : n < 10000000) (h : IntAt w z (n : Int)) :
    Calls Tryd.prog 127 #[.pointer (some ⟨z, 0, none⟩), .int .i64 10] w fun e w' => e = .returned (.string ⟨(dig n).toArray⟩) ∧ Below w.heap.size w w' := by
  obtain ⟨v, ds, h1, h2, h3, h4⟩ := h
  have q0 : w.cell? ⟨z, 0, none⟩ = some (.bool false) := by
    have e : decide ((n : Int) < 0) = false := decide_eq_false (by omega)
    rw [e] at h1
    simp [World.cell?, h1]
  have q1 : w.cell? ⟨z, 1, none⟩ = some v := by simp [World.cell?, h1]
  have hz : z < w.heap.size := lt_of_block h1
  rw [show ((n : Int).natAbs : Int) = (n : Int) by omega] at h4
  clear h1
  rcases nrm_one h3 h4 (by omega) with ⟨rfl, rfl⟩ | ⟨hn0, rfl⟩
  · obtain ⟨a, c, rfl⟩ : ∃ a c, v = .slice a 0 c := by
      rcases h2 with ⟨-, rfl⟩ | ⟨b, cap, rfl, -⟩
      · exact ⟨_, _, rfl⟩
      · exact ⟨_, _, rfl⟩
    go_enter Tryd.func127, Tryd.ntmps127
    go_wp2
    go_ret
    exact ⟨by rw [dig_small (by decide)]; rfl, Below.refl _ _⟩
  · have TW := twin_any v [(n : Int)] w h2 (by simp)
    have TW' : Hid (Calls Tryd.prog 150 #[v] w fun e w' => ∃ v', e = .returned v' ∧ Sl w' v' [(n : Int)] ∧ Below w.heap.size w w') := TW
    obtain ⟨a, c, rfl⟩ : ∃ a c, v = .slice a 1 c := by
      rcases h2 with ⟨h, -⟩ | ⟨b, cap, rfl, -⟩
      · cases h
      · exact ⟨_, _, rfl⟩
    have Q0 : Hid (w.cell? ⟨z, 0, none⟩ = some (.bool false)) := q0
    have Nn : Hid (Bg.Nrm [(n : Int)] ∧ Bg.val [(n : Int)] = (n : Int)) := ⟨h3, h4⟩
    clear h2 h3 h4 TW
    go_enter Tryd.func127, Tryd.ntmps127
    go_wp2_with fail
    refine TW'.out.mono ?_
    rintro e w1 ⟨v1, rfl, s1, b1⟩
    have S1 : Hid (Sl w1 v1 [(n : Int)]) := s1
    have B1 : Hid (Below w.heap.size w w1) := b1
    clear s1 b1 TW' q0 q1
    go_wp2_with fail
    go_loopg [5, 6, 7] n (fun gk v5 v6 v7 W' => ∃ (y : Nat) (bs : List UInt8) (ds : List Int), y ≤ gk ∧ y ≤ n ∧ bs ++ rdig y = rdig n ∧ (bs = [] → v5 = .slice none 0 0) ∧ Ob W' w.heap.size v5 bs ∧ Sl W' v6 ds ∧ Bg.Nrm ds ∧ Bg.val ds = (y : Int) ∧ Below w.heap.size w W')
    case atStart => exact ⟨n, [], [(n : Int)], Nat.le_refl _, Nat.le_refl _, rfl, fun _ => rfl, Ob.nil _ _, S1, Nn.out.1, Nn.out.2, B1⟩
    case round =>
      obtain ⟨y, bs, ds, hy, hyn', hbs, hnil, ho, hs, hnr, hv, hb⟩ := hrel
      have O : Hid (Ob wr w.heap.size u5 bs) := ho
      have B : Hid (Below w.heap.size w wr) := hb
      have Hbs : Hid (bs ++ rdig y = rdig n) := hbs
      have Lb : Hid (bs.length ≤ 7) := by
        have h1 := rdig_len 7 n (by omega)
        rw [← hbs, List.length_append] at h1
        unfold Hid
        omega
      obtain ⟨a5, c5, e5⟩ := ho.len
      subst e5
      have hyn : y < 10000000 := by omega
      have Nil : Hid (bs = [] → Value.slice a5 bs.length c5 = .slice none 0 0) := hnil
      clear ho hb hbs hnil
      rcases nrm_one hnr hv (by omega) with ⟨rfl, rfl⟩ | ⟨hy0, rfl⟩
      · -- all digits have come
        have RB : Hid (bs = rdig n) := by
          have := Hbs.out
          rw [rdig_zero, List.append_nil] at this
          exact this
        have DG : Hid (dig n = bs.reverse) := by
          unfold Hid
          rw [RB.out, rdig_dig n hn0]
        obtain ⟨a6, c6, rfl⟩ : ∃ a6 c6, u6 = .slice a6 0 c6 := by
          rcases hs with ⟨-, rfl⟩ | ⟨b, cap, rfl, -⟩
          · exact ⟨_, _, rfl⟩
          · exact ⟨_, _, rfl⟩
        have hb0 : bs ≠ [] := by
          rw [RB.out, rdig_pos hn0]
          simp
        obtain ⟨g, cap, e5, hc⟩ := O.out.text (List.length_pos_iff.2 hb0)
        injection e5 with e51 e52 e53
        subst e51 e53
        have hf : ∀ i, wr.frozen? ⟨g, i, none⟩ = false := fun i => World.ownsRow.frozenAt O.out i
        have q0 : wr.cell? ⟨z, 0, none⟩ = some (.bool false) := by rw [B.out.cell (p := ⟨z, 0, none⟩) hz]; exact Q0.out
        have hgw : w.heap.size ≤ g := (O.out.block g rfl).1
        clear hs hnr hv Hbs RB Nil e52
        match bs, Lb.out, hb0, hc, DG, O.out with
        | [x0], _, _, hc, DG, O =>
          have y0 : wr.cell? ⟨g, 0, none⟩ = some (.int .u8 (x0.toNat : Nat)) := by have := hc 0 (by simp); simpa [Addr.add] using this
          have f0 := hf 0
          have hcv := Ob.conv (show Ob wr w.heap.size (.slice (some ⟨g, 0, none⟩) 1 c5) [x0] from O)
          simp only [List.length_cons, List.length_nil, Nat.zero_add] at hcv ⊢
          clear hc hf O
          go_wp2
          refine wp_loop_rounds 1 ?_
          rw [rounds_succ]
          go_wp2
          go_ret
          exact ⟨by rw [DG.out]; rfl, B.out⟩
        | [x0, x1], _, _, hc, DG, O =>
          have y0 : wr.cell? ⟨g, 0, none⟩ = some (.int .u8 (x0.toNat : Nat)) := by have := hc 0 (by simp); simpa [Addr.add] using this
          have f0 := hf 0
          have y1 : wr.cell? ⟨g, 1, none⟩ = some (.int .u8 (x1.toNat : Nat)) := by have := hc 1 (by simp); simpa [Addr.add] using this
          have f1 := hf 1
          have hcv := Ob.conv (show Ob ((wr.setCell ⟨g, 0, none⟩ (.int .u8 (x1.toNat : Nat))).setCell ⟨g, 1, none⟩ (.int .u8 (x0.toNat : Nat))) w.heap.size (.slice (some ⟨g, 0, none⟩) 2 c5) [x1, x0] from (World.ownsRow.stored (World.ownsRow.stored O 0 (.int .u8 (x1.toNat : Nat))).1 1 (.int .u8 (x0.toNat : Nat))).1)
          simp only [List.length_cons, List.length_nil, Nat.zero_add, Nat.reduceAdd] at hcv ⊢
          clear hc hf O
          go_wp2
          refine wp_loop_rounds 2 ?_
          rw [rounds_succ]
          go_wp2
          rw [rounds_succ]
          go_wp2
          go_ret
          exact ⟨by rw [DG.out]; rfl, ((B.out.setCell (p := ⟨g, 0, none⟩) hgw _).setCell (p := ⟨g, 1, none⟩) hgw _)⟩
        | [x0, x1, x2], _, _, hc, DG, O =>
          have y0 : wr.cell? ⟨g, 0, none⟩ = some (.int .u8 (x0.toNat : Nat)) := by have := hc 0 (by simp); simpa [Addr.add] using this
          have f0 := hf 0
          have y1 : wr.cell? ⟨g, 1, none⟩ = some (.int .u8 (x1.toNat : Nat)) := by have := hc 1 (by simp); simpa [Addr.add] using this
          have f1 := hf 1
          have y2 : wr.cell? ⟨g, 2, none⟩ = some (.int .u8 (x2.toNat : Nat)) := by have := hc 2 (by simp); simpa [Addr.add] using this
          have f2 := hf 2
          have hcv := Ob.conv (show Ob ((wr.setCell ⟨g, 0, none⟩ (.int .u8 (x2.toNat : Nat))).setCell ⟨g, 2, none⟩ (.int .u8 (x0.toNat : Nat))) w.heap.size (.slice (some ⟨g, 0, none⟩) 3 c5) [x2, x1, x0] from (World.ownsRow.stored (World.ownsRow.stored O 0 (.int .u8 (x2.toNat : Nat))).1 2 (.int .u8 (x0.toNat : Nat))).1)
          simp only [List.length_cons, List.length_nil, Nat.zero_add, Nat.reduceAdd] at hcv ⊢
          clear hc hf O
          go_wp2
          refine wp_loop_rounds 2 ?_
          rw [rounds_succ]
          go_wp2
          rw [rounds_succ]
          go_wp2
          go_ret
          exact ⟨by rw [DG.out]; rfl, ((B.out.setCell (p := ⟨g, 0, none⟩) hgw _).setCell (p := ⟨g, 2, none⟩) hgw _)⟩
        | [x0, x1, x2, x3], _, _, hc, DG, O =>
          have y0 : wr.cell? ⟨g, 0, none⟩ = some (.int .u8 (x0.toNat : Nat)) := by have := hc 0 (by simp); simpa [Addr.add] using this
          have f0 := hf 0
          have y1 : wr.cell? ⟨g, 1, none⟩ = some (.int .u8 (x1.toNat : Nat)) := by have := hc 1 (by simp); simpa [Addr.add] using this
          have f1 := hf 1
          have y2 : wr.cell? ⟨g, 2, none⟩ = some (.int .u8 (x2.toNat : Nat)) := by have := hc 2 (by simp); simpa [Addr.add] using this
          have f2 := hf 2
          have y3 : wr.cell? ⟨g, 3, none⟩ = some (.int .u8 (x3.toNat : Nat)) := by have := hc 3 (by simp); simpa [Addr.add] using this
          have f3 := hf 3
          have hcv := Ob.conv (show Ob ((((wr.setCell ⟨g, 0, none⟩ (.int .u8 (x3.toNat : Nat))).setCell ⟨g, 3, none⟩ (.int .u8 (x0.toNat : Nat))).setCell ⟨g, 1, none⟩ (.int .u8 (x2.toNat : Nat))).setCell ⟨g, 2, none⟩ (.int .u8 (x1.toNat : Nat))) w.heap.size (.slice (some ⟨g, 0, none⟩) 4 c5) [x3, x2, x1, x0] from (World.ownsRow.stored (World.ownsRow.stored (World.ownsRow.stored (World.ownsRow.stored O 0 (.int .u8 (x3.toNat : Nat))).1 3 (.int .u8 (x0.toNat : Nat))).1 1 (.int .u8 (x2.toNat : Nat))).1 2 (.int .u8 (x1.toNat : Nat))).1)
          simp only [List.length_cons, List.length_nil, Nat.zero_add, Nat.reduceAdd] at hcv ⊢
          clear hc hf O
          go_wp2
          refine wp_loop_rounds 3 ?_
          rw [rounds_succ]
          go_wp2
          rw [rounds_succ]
          go_wp2
          rw [rounds_succ]
          go_wp2
          go_ret
          exact ⟨by rw [DG.out]; rfl, ((((B.out.setCell (p := ⟨g, 0, none⟩) hgw _).setCell (p := ⟨g, 3, none⟩) hgw _).setCell (p := ⟨g, 1, none⟩) hgw _).setCell (p := ⟨g, 2, none⟩) hgw _)⟩
        | [x0, x1, x2, x3, x4], _, _, hc, DG, O =>
          have y0 : wr.cell? ⟨g, 0, none⟩ = some (.int .u8 (x0.toNat : Nat)) := by have := hc 0 (by simp); simpa [Addr.add] using this
          have f0 := hf 0
          have y1 : wr.cell? ⟨g, 1, none⟩ = some (.int .u8 (x1.toNat : Nat)) := by have := hc 1 (by simp); simpa [Addr.add] using this
          have f1 := hf 1
          have y2 : wr.cell? ⟨g, 2, none⟩ = some (.int .u8 (x2.toNat : Nat)) := by have := hc 2 (by simp); simpa [Addr.add] using this
          have f2 := hf 2
          have y3 : wr.cell? ⟨g, 3, none⟩ = some (.int .u8 (x3.toNat : Nat)) := by have := hc 3 (by simp); simpa [Addr.add] using this
          have f3 := hf 3
          have y4 : wr.cell? ⟨g, 4, none⟩ = some (.int .u8 (x4.toNat : Nat)) := by have := hc 4 (by simp); simpa [Addr.add] using this
          have f4 := hf 4
          have hcv := Ob.conv (show Ob ((((wr.setCell ⟨g, 0, none⟩ (.int .u8 (x4.toNat : Nat))).setCell ⟨g, 4, none⟩ (.int .u8 (x0.toNat : Nat))).setCell ⟨g, 1, none⟩ (.int .u8 (x3.toNat : Nat))).setCell ⟨g, 3, none⟩ (.int .u8 (x1.toNat : Nat))) w.heap.size (.slice (some ⟨g, 0, none⟩) 5 c5) [x4, x3, x2, x1, x0] from (World.ownsRow.stored (World.ownsRow.stored (World.ownsRow.stored (World.ownsRow.stored O 0 (.int .u8 (x4.toNat : Nat))).1 4 (.int .u8 (x0.toNat : Nat))).1 1 (.int .u8 (x3.toNat : Nat))).1 3 (.int .u8 (x1.toNat : Nat))).1)
          simp only [List.length_cons, List.length_nil, Nat.zero_add, Nat.reduceAdd] at hcv ⊢
          clear hc hf O
          go_wp2
          refine wp_loop_rounds 3 ?_
          rw [rounds_succ]
          go_wp2
          rw [rounds_succ]
          go_wp2
          rw [rounds_succ]
          go_wp2
          go_ret
          exact ⟨by rw [DG.out]; rfl, ((((B.out.setCell (p := ⟨g, 0, none⟩) hgw _).setCell (p := ⟨g, 4, none⟩) hgw _).setCell (p := ⟨g, 1, none⟩) hgw _).setCell (p := ⟨g, 3, none⟩) hgw _)⟩
        | [x0, x1, x2, x3, x4, x5], _, _, hc, DG, O =>
          have y0 : wr.cell? ⟨g, 0, none⟩ = some (.int .u8 (x0.toNat : Nat)) := by have := hc 0 (by simp); simpa [Addr.add] using this
          have f0 := hf 0
          have y1 : wr.cell? ⟨g, 1, none⟩ = some (.int .u8 (x1.toNat : Nat)) := by have := hc 1 (by simp); simpa [Addr.add] using this
          have f1 := hf 1
          have y2 : wr.cell? ⟨g, 2, none⟩ = some (.int .u8 (x2.toNat : Nat)) := by have := hc 2 (by simp); simpa [Addr.add] using this
          have f2 := hf 2
          have y3 : wr.cell? ⟨g, 3, none⟩ = some (.int .u8 (x3.toNat : Nat)) := by have := hc 3 (by simp); simpa [Addr.add] using this
          have f3 := hf 3
          have y4 : wr.cell? ⟨g, 4, none⟩ = some (.int .u8 (x4.toNat : Nat)) := by have := hc 4 (by simp); simpa [Addr.add] using this
          have f4 := hf 4
          have y5 : wr.cell? ⟨g, 5, none⟩ = some (.int .u8 (x5.toNat : Nat)) := by have := hc 5 (by simp); simpa [Addr.add] using this
          have f5 := hf 5
          have hcv := Ob.conv (show Ob ((((((wr.setCell ⟨g, 0, none⟩ (.int .u8 (x5.toNat : Nat))).setCell ⟨g, 5, none⟩ (.int .u8 (x0.toNat : Nat))).setCell ⟨g, 1, none⟩ (.int .u8 (x4.toNat : Nat))).setCell ⟨g, 4, none⟩ (.int .u8 (x1.toNat : Nat))).setCell ⟨g, 2, none⟩ (.int .u8 (x3.toNat : Nat))).setCell ⟨g, 3, none⟩ (.int .u8 (x2.toNat : Nat))) w.heap.size (.slice (some ⟨g, 0, none⟩) 6 c5) [x5, x4, x3, x2, x1, x0] from (World.ownsRow.stored (World.ownsRow.stored (World.ownsRow.stored (World.ownsRow.stored (World.ownsRow.stored (World.ownsRow.stored O 0 (.int .u8 (x5.toNat : Nat))).1 5 (.int .u8 (x0.toNat : Nat))).1 1 (.int .u8 (x4.toNat : Nat))).1 4 (.int .u8 (x1.toNat : Nat))).1 2 (.int .u8 (x3.toNat : Nat))).1 3 (.int .u8 (x2.toNat : Nat))).1)
          simp only [List.length_cons, List.length_nil, Nat.zero_add, Nat.reduceAdd] at hcv ⊢
          clear hc hf O
          go_wp2
          refine wp_loop_rounds 4 ?_
          rw [rounds_succ]
          go_wp2
          rw [rounds_succ]
          go_wp2
          rw [rounds_succ]
          go_wp2
          rw [rounds_succ]
          go_wp2
          go_ret
          exact ⟨by rw [DG.out]; rfl, ((((((B.out.setCell (p := ⟨g, 0, none⟩) hgw _).setCell (p := ⟨g, 5, none⟩) hgw _).setCell (p := ⟨g, 1, none⟩) hgw _).setCell (p := ⟨g, 4, none⟩) hgw _).setCell (p := ⟨g, 2, none⟩) hgw _).setCell (p := ⟨g, 3, none⟩) hgw _)⟩
        | [x0, x1, x2, x3, x4, x5, x6], _, _, hc, DG, O =>
          have y0 : wr.cell? ⟨g, 0, none⟩ = some (.int .u8 (x0.toNat : Nat)) := by have := hc 0 (by simp); simpa [Addr.add] using this
          have f0 := hf 0
          have y1 : wr.cell? ⟨g, 1, none⟩ = some (.int .u8 (x1.toNat : Nat)) := by have := hc 1 (by simp); simpa [Addr.add] using this
          have f1 := hf 1
          have y2 : wr.cell? ⟨g, 2, none⟩ = some (.int .u8 (x2.toNat : Nat)) := by have := hc 2 (by simp); simpa [Addr.add] using this
          have f2 := hf 2
          have y3 : wr.cell? ⟨g, 3, none⟩ = some (.int .u8 (x3.toNat : Nat)) := by have := hc 3 (by simp); simpa [Addr.add] using this
          have f3 := hf 3
          have y4 : wr.cell? ⟨g, 4, none⟩ = some (.int .u8 (x4.toNat : Nat)) := by have := hc 4 (by simp); simpa [Addr.add] using this
          have f4 := hf 4
          have y5 : wr.cell? ⟨g, 5, none⟩ = some (.int .u8 (x5.toNat : Nat)) := by have := hc 5 (by simp); simpa [Addr.add] using this
          have f5 := hf 5
          have y6 : wr.cell? ⟨g, 6, none⟩ = some (.int .u8 (x6.toNat : Nat)) := by have := hc 6 (by simp); simpa [Addr.add] using this
          have f6 := hf 6
          have hcv := Ob.conv (show Ob ((((((wr.setCell ⟨g, 0, none⟩ (.int .u8 (x6.toNat : Nat))).setCell ⟨g, 6, none⟩ (.int .u8 (x0.toNat : Nat))).setCell ⟨g, 1, none⟩ (.int .u8 (x5.toNat : Nat))).setCell ⟨g, 5, none⟩ (.int .u8 (x1.toNat : Nat))).setCell ⟨g, 2, none⟩ (.int .u8 (x4.toNat : Nat))).setCell ⟨g, 4, none⟩ (.int .u8 (x2.toNat : Nat))) w.heap.size (.slice (some ⟨g, 0, none⟩) 7 c5) [x6, x5, x4, x3, x2, x1, x0] from (World.ownsRow.stored (World.ownsRow.stored (World.ownsRow.stored (World.ownsRow.stored (World.ownsRow.stored (World.ownsRow.stored O 0 (.int .u8 (x6.toNat : Nat))).1 6 (.int .u8 (x0.toNat : Nat))).1 1 (.int .u8 (x5.toNat : Nat))).1 5 (.int .u8 (x1.toNat : Nat))).1 2 (.int .u8 (x4.toNat : Nat))).1 4 (.int .u8 (x2.toNat : Nat))).1)
          simp only [List.length_cons, List.length_nil, Nat.zero_add, Nat.reduceAdd] at hcv ⊢
          clear hc hf O
          go_wp2
          refine wp_loop_rounds 4 ?_
          rw [rounds_succ]
          go_wp2
          rw [rounds_succ]
          go_wp2
          rw [rounds_succ]
          go_wp2
          rw [rounds_succ]
          go_wp2
          go_ret
          exact ⟨by rw [DG.out]; rfl, ((((((B.out.setCell (p := ⟨g, 0, none⟩) hgw _).setCell (p := ⟨g, 6, none⟩) hgw _).setCell (p := ⟨g, 1, none⟩) hgw _).setCell (p := ⟨g, 5, none⟩) hgw _).setCell (p := ⟨g, 2, none⟩) hgw _).setCell (p := ⟨g, 4, none⟩) hgw _)⟩
      · obtain ⟨b, cap, rfl, c1, c2, c3, c4⟩ : ∃ b cap, u6 = .slice (some ⟨b, 0, none⟩) 1 cap ∧ 1 ≤ cap ∧ cap ≤ 9223372036854775807 ∧ b < wr.heap.size ∧ wr.cell? ⟨b, 0, none⟩ = some (.int .u32 (y : Nat)) := by
          rcases hs with ⟨h, -⟩ | ⟨b, cap, rfl, c1, c2, c3, c4⟩
          · cases h
          · exact ⟨b, cap, rfl, c1, c2, c3, c4 0 _ rfl⟩
        have SM := small_one b cap y wr (by omega) c3 c4
        have SM' : Hid (Calls Tryd.prog 151 #[.slice (some ⟨b, 0, none⟩) 1 cap, .int .u32 10] wr fun e w' => ∃ v ds, e = .returned (.tuple #[v, .int .u32 ((y % 10 : Nat) : Int)]) ∧ Sl w' v ds ∧ Bg.Nrm ds ∧ Bg.val ds = ((y / 10 : Nat) : Int) ∧ Below wr.heap.size wr w') := SM
        have Rd : Hid (rdig y = (48 + y % 10).toUInt8 :: rdig (y / 10)) := rdig_pos hy0
        have Db : Hid ((((48 + y % 10).toUInt8).toNat : Int) = 48 + ((y % 10 : Nat) : Int)) := digit_byte _ (by omega)
        have hr : y % 10 < 10 := by omega
        obtain ⟨r, er⟩ : ∃ r, y % 10 = r := ⟨_, rfl⟩
        rw [er] at SM' Rd Db hr
        obtain ⟨dB, hdB⟩ : ∃ dB, (48 + r).toUInt8 = dB := ⟨_, rfl⟩
        rw [hdB] at Rd Db
        clear SM hs hnr hv c4 er hdB
        go_wp2_with fail
        refine SM'.out.mono ?_
        rintro e w2 ⟨v2, ds2, rfl, s2, n2, hv2, b2⟩
        have S2 : Hid (Sl w2 v2 ds2 ∧ Bg.Nrm ds2 ∧ Bg.val ds2 = ((y / 10 : Nat) : Int)) := ⟨s2, n2, hv2⟩
        have O2 : Hid (Ob w2 w.heap.size (.slice a5 bs.length c5) bs) := World.ownsRow.kept O.out (row := none) ⟨b2.os, b2.tape, b2.output, b2.size, fun k hk _ => b2.block k hk⟩ (by cases (Value.slice a5 bs.length c5).ownBlock <;> simp)
        have B2 : Hid (Below w.heap.size w w2) := B.out.trans (b2.mono B.out.size)
        clear s2 n2 hv2 b2 SM'
        go_wp2_with (at_builtin; refine app_byte _ rfl _ _ rfl w.heap.size _ bs rfl (O2.out.alloc _) ⟨w2.heap.size, 0, none⟩ dB rfl (by rw [Db.out]; simp) (by have := Lb.out; omega) (by have := B2.out.size; simp; omega) ?_)
        intro g cap3 w3 o3 g3 l3
        have O3 : Hid (Ob w3 w.heap.size (.slice (some ⟨g, 0, none⟩) (bs.length + 1) cap3) (bs ++ [dB])) := o3
        have B3 : Hid (Below w.heap.size w w3) := (B2.out.alloc B2.out.size _).grown g3 (by have := B2.out.size; simp; omega) (fun k hk => (O2.out.block k hk).1)
        have S3 : Hid (Sl w3 v2 ds2) := by
          refine Sl.far (S2.out.1.below ((Below.refl _ _).alloc (Nat.le_refl _) (Obj.cells #[.int .u8 (48 + (r : Int))] 5))) g3 (fun hne b2 n2 c2 hv2 hrow => ?_)
          subst hv2
          have h9 : bs ≠ [] := by
            intro hb0
            rw [Nil.out hb0] at hrow
            cases hrow
          obtain ⟨g9, cap9, e9, hc9⟩ := O2.out.text (List.length_pos_iff.2 h9)
          rw [e9] at hrow
          have hg9 : g9 = b2 := by simpa [Value.ownBlock] using hrow
          subst hg9
          rcases S2.out.1 with ⟨h, -⟩ | ⟨b3, cap4, e3, -, -, -, h5⟩
          · exact hne h
          · injection e3 with e31
            injection e31 with e31
            injection e31 with e31
            subst e31
            obtain ⟨d, hd⟩ : ∃ d, ds2[0]? = some d := by
              cases ds2 with
              | nil => exact absurd rfl hne
              | cons d ds => exact ⟨d, rfl⟩
            have h6 := h5 0 d hd
            have h7 := hc9 0 (List.length_pos_iff.2 h9)
            rw [Addr.add_lit, Nat.zero_add, h6] at h7
            cases h7
        have Hbs3 : Hid ((bs ++ [dB]) ++ rdig (y / 10) = rdig n) := by
          unfold Hid
          rw [← Hbs.out, Rd.out]
          simp
        clear o3 g3 l3
        go_wp2
        go_roundg (y / 10)
        case measure => omega
        case rel => exact ⟨y / 10, bs ++ [dB], ds2, Nat.le_refl _, by omega, Hbs3, fun h => absurd h (by simp), O3, S3, S2.out.2.1, S2.out.2.2, B3⟩

set_option maxHeartbeats 400000 in
theorem ref_digits (n : Nat) (w : World) (hn : n < 10000000) :
    Calls Tryd.prog 60 #[.int .i64 (n : Nat)] w fun e w' => e = .returned (.string ⟨(dig n).toArray⟩) ∧ Below w.heap.size w w' := by
  go_enter Tryd.func60, Tryd.ntmps60
  go_wp2_with fail
  refine (big_int (n : Int) _ (by omega) (by omega)).mono ?_
  rintro e w1 ⟨rfl, hi, hb, hl⟩
  have Hi : Hid (IntAt w1 w.heap.size (n : Int)) := hi
  have Hb : Hid (Below w.heap.size w w1) := hb
  have TX : Hid (Calls Tryd.prog 92 #[.pointer (some ⟨w.heap.size, 0, none⟩)] w1 fun e w' => e = .returned (.string ⟨(dig n).toArray⟩) ∧ Below w1.heap.size w1 w') := by
    have T1 : Hid (Calls Tryd.prog 127 #[.pointer (some ⟨w.heap.size, 0, none⟩), .int .i64 10] w1 fun e w' => e = .returned (.string ⟨(dig n).toArray⟩) ∧ Below w1.heap.size w1 w') := text_any w.heap.size n w1 hn hi
    clear hi hb hl Hi Hb
    unfold Hid
    go_enter Tryd.func92, Tryd.ntmps92
    go_wp2_with fail
    refine T1.out.mono ?_
    rintro e w2 ⟨rfl, b2⟩
    have B2 : Hid (Below w1.heap.size w1 w2) := b2
    clear b2
    go_wp2
    go_ret
    exact ⟨rfl, B2⟩
  clear hi hb hl
  go_wp2_with fail
  refine TX.out.mono ?_
  rintro e w2 ⟨rfl, b2⟩
  have B2 : Hid (Below w.heap.size w w2) := Hb.out.trans (b2.mono Hb.out.size)
  clear b2
  go_wp2
  go_ret
  exact ⟨rfl, B2⟩
end Go.Proofs.YtelbdcljdfadbaaDoor

namespace Go.Proofs.YtelbdcljdfadbaaDoor
open Go.RowKit
set_option linter.unusedVariables false

theorem info_str : (Tryd.prog.info? 9).map (fun i => (i.zero, i.size, i.bytes)) = some (some (.string ⟨#[]⟩), 1, 16) := by kernel_rfl

/-- v is a slice of the texts bs, in a block of its own from base on. -/
def Os (w : World) (base : Nat) (v : Value) (bs : List ByteArray) : Prop := w.ownsRow base 9 1 v bs.length (bs.map Value.string)
theorem Os.nil (w : World) (base : Nat) : Os w base (.slice none 0 0) [] := World.ownsRow_nil _ _ _ _
theorem Os.below {w w' : World} {base : Nat} {v : Value} {bs : List ByteArray} (h : Os w base v bs) (hb : Below w.heap.size w w') : Os w' base v bs :=
  World.ownsRow.kept h (row := none) ⟨hb.os, hb.tape, hb.output, hb.size, fun k hk _ => hb.block k hk⟩ (by cases v.ownBlock <;> simp)
theorem Os.alloc {w : World} {base : Nat} {v : Value} {bs : List ByteArray} (h : Os w base v bs) (o : Obj) : Os (w.alloc o) base v bs := World.ownsRow.alloc h o
theorem Os.block {w : World} {base : Nat} {v : Value} {bs : List ByteArray} (h : Os w base v bs) : ∀ k, v.ownBlock = some k → base ≤ k ∧ k < w.heap.size := World.ownsRow.lt h
theorem Os.mono {w : World} {base base' : Nat} {v : Value} {bs : List ByteArray} (h : Os w base v bs) (hb : base' ≤ base) : Os w base' v bs := by
  refine ⟨h.1, ?_⟩
  rcases h.2 with h1 | ⟨g, cap, cur, h1, h2, h3⟩
  · exact .inl h1
  · exact .inr ⟨g, cap, cur, h1, Nat.le_trans hb h2, h3⟩
/-- its cells. -/
theorem Os.cells {w : World} {base : Nat} {v : Value} {bs : List ByteArray} (h : Os w base v bs) : ∃ a c, v = .slice a bs.length c ∧ bs.length ≤ c ∧ c ≤ 9223372036854775807 ∧ (bs ≠ [] → ∃ g, a = some ⟨g, 0, none⟩ ∧ base ≤ g ∧ ∀ (i : Nat) b, bs[i]? = some b → w.cell? ⟨g, i, none⟩ = some (.string b)) := by
  rcases h.2 with ⟨hv, h0⟩ | ⟨g, cap, cur, hv, hb, hg, h1, h2, h3, h4⟩
  · exact ⟨none, 0, by rw [hv, h0], by omega, by omega, fun hn => absurd (List.length_eq_zero_iff.1 h0) hn⟩
  · refine ⟨_, cap, hv, h1, by unfold maxLen at h2; omega, fun _ => ⟨g, rfl, hb, fun i b hbi => ?_⟩⟩
    have hi : i < bs.length := (List.getElem?_eq_some_iff.1 hbi).1
    have h5 : w.ownsRow base 9 1 (.slice (some ⟨g, 0, none⟩) bs.length cap) bs.length (bs.map Value.string) := by rw [← hv]; exact h
    rw [h5.cellAt i (by omega), List.getElem?_map, hbi]
    rfl

/-- one more. -/
theorem app_str {ops : Array Oper} {rest : List Oper} {o : Oper} {a : Act} {Q : Exit → Act → World → Prop} (w : World) (hgd : o.guard = none) (s x : Operand)
    (ho : o.op = .call { callee := .builtin .append, args := #[s, x], argTypes := #[151, 151] }) (base : Nat) (v : Value) (bs : List ByteArray) (hs : a.eval s = v) (hown : Os w base v bs)
    (ad : Addr) (b : ByteArray) (hx : a.eval x = .slice (some ad) 1 1) (hd : w.cell? ad = some (.string b)) (hl : bs.length ≤ 2000000) (hbase : base ≤ w.heap.size)
    (h : ∀ g cap w', Os w' base (.slice (some ⟨g, 0, none⟩) (bs.length + 1) cap) (bs ++ [b]) → w.grownBy w' v.ownBlock → (v.ownBlock = some g ∨ g = w.heap.size) → g < w'.heap.size → wpList Tryd.prog ops Q rest (a.put o.dst (.slice (some ⟨g, 0, none⟩) (bs.length + 1) cap)) w') :
    wpList Tryd.prog ops Q (o :: rest) a w := by
  obtain ⟨i0, hi, hz0, hz1, hz2⟩ := info_parts info_str
  refine wpList_append_lies w hgd s x 151 ho base 9 i0 (.string ⟨#[]⟩) 1 16 Tryd.underlying151 hi hz0 hz1 hz2 rfl (by decide) v bs.length _ hs hown ad 1 1 [.string b] hx rfl ?_ ?_ (by decide) (by unfold maxLen; omega) (by omega) hbase _ rfl ?_
  · intro j u hj
    match j, hj with
    | 0, hj => simp at hj; subst hj; exact hd
  · intro u hu
    simp at hu
    subst hu
    rfl
  · intro g cap w' h1 h2 h3 h4
    refine h g cap w' ?_ h2 h3 h4
    unfold Os
    rw [List.length_append, List.map_append]
    exact h1

/-- two more. -/
theorem app_str2 {ops : Array Oper} {rest : List Oper} {o : Oper} {a : Act} {Q : Exit → Act → World → Prop} (w : World) (hgd : o.guard = none) (s x : Operand)
    (ho : o.op = .call { callee := .builtin .append, args := #[s, x], argTypes := #[151, 151] }) (base : Nat) (v : Value) (bs : List ByteArray) (hs : a.eval s = v) (hown : Os w base v bs)
    (g0 : Nat) (b c : ByteArray) (hx : a.eval x = .slice (some ⟨g0, 0, none⟩) 2 2) (hd : w.cell? ⟨g0, 0, none⟩ = some (.string b)) (hd2 : w.cell? ⟨g0, 1, none⟩ = some (.string c)) (hl : bs.length ≤ 2000000) (hbase : base ≤ w.heap.size)
    (h : ∀ g cap w', Os w' base (.slice (some ⟨g, 0, none⟩) (bs.length + 2) cap) (bs ++ [b, c]) → w.grownBy w' v.ownBlock → (v.ownBlock = some g ∨ g = w.heap.size) → g < w'.heap.size → wpList Tryd.prog ops Q rest (a.put o.dst (.slice (some ⟨g, 0, none⟩) (bs.length + 2) cap)) w') :
    wpList Tryd.prog ops Q (o :: rest) a w := by
  obtain ⟨i0, hi, hz0, hz1, hz2⟩ := info_parts info_str
  refine wpList_append_lies w hgd s x 151 ho base 9 i0 (.string ⟨#[]⟩) 1 16 Tryd.underlying151 hi hz0 hz1 hz2 rfl (by decide) v bs.length _ hs hown ⟨g0, 0, none⟩ 2 2 [.string b, .string c] hx rfl ?_ ?_ (by decide) (by unfold maxLen; omega) (by omega) hbase _ rfl ?_
  · intro j u hj
    rw [Addr.add_lit, Nat.zero_add]
    match j, hj with
    | 0, hj => simp at hj; subst hj; exact hd
    | 1, hj => simp at hj; subst hj; exact hd2
  · intro u hu
    simp at hu
    rcases hu with rfl | rfl <;> rfl
  · intro g cap w' h1 h2 h3 h4
    refine h g cap w' ?_ h2 h3 h4
    unfold Os
    rw [List.length_append, List.map_append]
    exact h1
/-- the same, in a region that draws. -/
theorem step_str2 {ops : Array Oper} {o : Oper} {a : Act} {K : Act → World → Prop} {Q : Exit → Act → World → Prop} {E : Prop} (w : World) (hgd : o.guard = none) (s x : Operand)
    (ho : o.op = .call { callee := .builtin .append, args := #[s, x], argTypes := #[151, 151] }) (base : Nat) (v : Value) (bs : List ByteArray) (hs : a.eval s = v) (hown : Os w base v bs)
    (g0 : Nat) (b c : ByteArray) (hx : a.eval x = .slice (some ⟨g0, 0, none⟩) 2 2) (hd : w.cell? ⟨g0, 0, none⟩ = some (.string b)) (hd2 : w.cell? ⟨g0, 1, none⟩ = some (.string c)) (hl : bs.length ≤ 2000000) (hbase : base ≤ w.heap.size)
    (h : ∀ g cap w', Os w' base (.slice (some ⟨g, 0, none⟩) (bs.length + 2) cap) (bs ++ [b, c]) → w.grownBy w' v.ownBlock → (v.ownBlock = some g ∨ g = w.heap.size) → g < w'.heap.size → K (a.put o.dst (.slice (some ⟨g, 0, none⟩) (bs.length + 2) cap)) w') :
    if Region.wanted o (yielded ops a.tmps) = true then Oper.wp Tryd.prog o a w K Q else E := by
  obtain ⟨i0, hi, hz0, hz1, hz2⟩ := info_parts info_str
  refine step_append_lies w hgd s x 151 ho base 9 i0 (.string ⟨#[]⟩) 1 16 Tryd.underlying151 hi hz0 hz1 hz2 rfl (by decide) v bs.length _ hs hown ⟨g0, 0, none⟩ 2 2 [.string b, .string c] hx rfl ?_ ?_ (by decide) (by unfold maxLen; omega) (by omega) hbase _ rfl ?_
  · intro j u hj
    rw [Addr.add_lit, Nat.zero_add]
    match j, hj with
    | 0, hj => simp at hj; subst hj; exact hd
    | 1, hj => simp at hj; subst hj; exact hd2
  · intro u hu
    simp at hu
    rcases hu with rfl | rfl <;> rfl
  · intro g cap w' h1 h2 h3 h4
    refine h g cap w' ?_ h2 h3 h4
    unfold Os
    rw [List.length_append, List.map_append]
    exact h1
/-- a list of one. -/
theorem Os.one {w : World} {base z : Nat} (b : ByteArray) (hb : base ≤ w.heap.size) (hz : w.heap.size = z) : Os (w.alloc (.cells #[.string b] 9)) base (.slice (some ⟨z, 0, none⟩) 1 1) [b] := by
  subst hz
  exact ⟨rfl, .inr ⟨_, _, _, rfl, hb, heap_alloc_new w _, Nat.le_refl _, by unfold maxLen; decide, rfl, rfl⟩⟩
theorem Os.len {w : World} {base : Nat} {v : Value} {bs : List ByteArray} (h : Os w base v bs) : ∃ a c, v = .slice a bs.length c := by
  obtain ⟨a, c, h1, -⟩ := h.cells
  exact ⟨a, c, h1⟩
end Go.Proofs.YtelbdcljdfadbaaDoor

namespace Go.Proofs.YtelbdcljdfadbaaDoor
open Go.RowKit
set_option linter.unusedVariables false

/-- the table of powers of ten is laid. -/
def Pw (w : World) : Prop := Lib.TabIs Tryd.prog w "internal/strconv.uint64pow10" .u64 Lib.pow10Tab
theorem pw_glob : Tryd.prog.globalNamed "internal/strconv.uint64pow10" = some 4 := by kernel_rfl
theorem var_at {P : Program} {W : World} {n : String} {cs : Array Value} {g : Nat} (hg : P.globalNamed n = some g) (h : W.var? P n = some cs) : ∃ t f, W.heap[g]? = some (.cells cs t f) := by
  unfold World.var? at h
  rw [hg] at h
  simp only [Option.bind_some] at h
  split at h
  · rename_i c t f e
    injection h with h
    subst h
    exact ⟨t, f, e⟩
  · cases h
theorem Pw.below {w w' : World} (h : Pw w) (hb : Below w.heap.size w w') : Pw w' := by
  obtain ⟨t, f, e⟩ := var_at pw_glob h
  have e2 := hb.block _ (lt_of_block e)
  unfold Pw Lib.TabIs World.var? at *
  rw [pw_glob] at h ⊢
  simp only [Option.bind_some] at h ⊢
  rw [e2]
  exact h
theorem dig_dec (n : Nat) : Lib.decDigits n = Tx.dig n := by
  induction n using Nat.strongRecOn with
  | ind n ih =>
    by_cases h : n < 10
    · rw [Lib.decDigits, dif_pos h, Tx.dig_small h]
    · rw [Lib.decDigits, dif_neg h, Tx.dig_big h, ih (n / 10) (by omega)]
theorem join_tx : ∀ (ws : List (List UInt8)), Lib.join ws [32] = Tx.join 32 ws
  | [] => rfl
  | [w] => by rw [Lib.join_one]; rfl
  | w :: v :: ws => by
    have := join_tx (v :: ws)
    rw [Tx.join_cons (by simp), ← this, Lib.join_cons, Lib.join_cons]
    simp [Lib.joinTail]
theorem itoa_any (n : Nat) (hn : n ≤ 1000000) (w : World) (hw : Pw w) :
    Calls Tryd.prog 88 #[.int .i64 (n : Nat)] w fun e w' => e = .returned (.string ⟨(Tx.dig n).toArray⟩) ∧ Below w.heap.size w w' := by
  refine (Tryd.strconv_Itoa (n : Int) (by omega) (by omega) w hw).mono ?_
  rintro e w' ⟨rfl, k, os, rfl⟩
  rw [Lib.itoa_nonneg, dig_dec]
  exact ⟨rfl, rfl, rfl, rfl, by simp [Sort.grow], fun i hi => by
    show (w.heap ++ os)[i]? = _
    rw [Array.getElem?_append, if_pos hi]⟩
end Go.Proofs.YtelbdcljdfadbaaDoor

namespace Go.Proofs.YtelbdcljdfadbaaDoor
set_option linter.unusedVariables false

def bytesOf (l : List UInt8) : ByteArray := ⟨l.toArray⟩
theorem bytesOf_list (l : List UInt8) : (bytesOf l).data.toList = l := rfl
theorem bytesOf_cat (a b : List UInt8) : bytesOf a ++ (⟨b.toArray⟩ : ByteArray) = bytesOf (a ++ b) := by
  apply WideShapes.bytes_inj
  rw [bytesOf_list]
  simp [bytesOf]
end Go.Proofs.YtelbdcljdfadbaaDoor

namespace Go.Proofs.YtelbdcljdfadbaaDoor
open Go.RowKit
set_option linter.unusedVariables false

theorem bld_below {T e : TypeId} {B b : Nat} {p : Value} {bs : List Value} {w w' : World} (h : Lib.BuilderAt T e B b p bs w) (hb : Below w.heap.size w w') : Lib.BuilderAt T e B b p bs w' := by
  obtain ⟨h1, v, h2, h3, h4⟩ := h
  refine ⟨h1, v, ?_, World.ownsRow.kept h3 (row := none) ⟨hb.os, hb.tape, hb.output, hb.size, fun k hk _ => hb.block k hk⟩ (by cases v.ownBlock <;> simp), h4⟩
  rw [hb.block b (lt_of_block h2)]
  exact h2
theorem isb_below {T e : TypeId} {B b : Nat} {bs : List Value} {w w' : World} (h : Lib.IsBuilder T e B b bs w) (hb : Below w.heap.size w w') : Lib.IsBuilder T e B b bs w' := by
  rcases h with h | h
  · exact .inl (bld_below h hb)
  · exact .inr (bld_below h hb)
theorem wstr_any (B b : Nat) (l : List UInt8) (s : ByteArray) (w : World) (h : Lib.IsBuilder 110 5 B b (Lib.byteCells l) w) (hlen : l.length + s.size ≤ 1000000) (hB : B ≤ w.heap.size) :
    Calls Tryd.prog 55 #[.pointer (some ⟨b, 0, none⟩), .string s] w fun e w' => e = .returned (.tuple #[.int .i64 s.size, .nilIface]) ∧ Lib.IsBuilder 110 5 B b (Lib.byteCells (l ++ s.data.toList)) w' ∧ Below B w w' := by
  refine (Any.Builder_WriteString { Tryd.lays156 with } Tryd.Builder_Extra_156 B b (Lib.byteCells l) s w h (by simp [Lib.byteCells]; omega) hB).mono ?_
  rintro e w' ⟨rfl, h1, h2⟩
  refine ⟨rfl, .inr ?_, h2⟩
  have : Lib.byteCells (l ++ s.data.toList) = Lib.byteCells l ++ Lib.strCells s := by simp [Lib.byteCells, Lib.strCells]
  rw [this]
  exact h1

end Go.Proofs.YtelbdcljdfadbaaDoor

namespace Go.Proofs.YtelbdcljdfadbaaDoor

/-- v tells the fault n. -/
def Er (v : Value) (n : Int) : Prop := (n = 0 ∧ v = .nilIface) ∨ (n ≠ 0 ∧ v = .iface 86 (.int .i64 n))
theorem Er.nil : Er .nilIface 0 := .inl ⟨rfl, rfl⟩
theorem Er.no {n : Int} (h : n ≠ 0) : Er (.iface 86 (.int .i64 n)) n := .inr ⟨h, rfl⟩
end Go.Proofs.YtelbdcljdfadbaaDoor

namespace Go.Proofs.YtelbdcljdfadbaaDoor
open Go.RowKit
set_option linter.unusedVariables false

set_option maxHeartbeats 400000 in
theorem owin_any (x b : Int) (w : World) :
    Calls Tryd.prog 90 #[.int .i64 x, .int .i64 b] w fun e w' => e = .returned (.bool (decide (0 ≤ x ∧ x ≤ b))) ∧ w' = w := by
  by_cases h1 : 0 ≤ x
  · by_cases h2 : x ≤ b
    · go_enter Tryd.func90, Tryd.ntmps90
      go_wp2
      go_ret
      exact ⟨by simp [h1, h2], rfl⟩
    · go_enter Tryd.func90, Tryd.ntmps90
      go_wp2
      go_ret
      exact ⟨by simp; omega, rfl⟩
  · go_enter Tryd.func90, Tryd.ntmps90
    go_wp2
    go_ret
    exact ⟨by simp; omega, rfl⟩
theorem owin_is (x b : Int) (r : Bool) (h : decide (0 ≤ x ∧ x ≤ b) = r) : Hid (∀ w, Calls Tryd.prog 90 #[.int .i64 x, .int .i64 b] w fun e w' => e = .returned (.bool r) ∧ w' = w) :=
  fun w => (owin_any x b w).mono fun e w' ⟨h', hw⟩ => ⟨by rw [h', h], hw⟩

def OrdSays (o : OrV) (w : World) (e : Ending) (w' : World) : Prop := ∃ v, e = .returned v ∧ Er v (Od.fault o) ∧ Below w.heap.size w w'
set_option maxRecDepth 100000 in
set_option maxHeartbeats 4000000 in
theorem checkOrder_any (o : OrV) (w : World) : Calls Tryd.prog 59 #[o.val] w (OrdSays o w) := by
  obtain ⟨p, u, n, a⟩ := o
  have BB : Hid (Below w.heap.size w (w.alloc (Obj.cells #[.int .i64 p, .int .i64 u, .int .i64 n, .int .i64 a] 63))) := (Below.refl _ _).alloc (Nat.le_refl _) _
  have bad1 : Od.bad ⟨p, u, n, a⟩ → ∀ w', Hid (Below w.heap.size w w') → OrdSays ⟨p, u, n, a⟩ w (.returned (.iface 86 (.int .i64 1))) w' := fun hb w' hB => ⟨_, rfl, by rw [Od.fault_bad hb]; exact Er.no (by decide), hB⟩
  have B1 : Hid (Od.bad ⟨p, u, n, a⟩ → ∀ w', Hid (Below w.heap.size w w') → OrdSays ⟨p, u, n, a⟩ w (.returned (.iface 86 (.int .i64 1))) w') := bad1
  clear bad1
  unfold OrV.val
  simp only
  by_cases h1 : 0 ≤ p ∧ p ≤ 3
  · have W1 := owin_is p 3 true (decide_eq_true h1)
    by_cases h2 : 0 ≤ u ∧ u ≤ 1000000
    · have W2 := owin_is u 1000000 true (decide_eq_true h2)
      by_cases h3 : 0 ≤ a ∧ a ≤ 1000000
      · have W3 := owin_is a 1000000 true (decide_eq_true h3)
        by_cases h4 : 0 ≤ n ∧ n ≤ 3
        · have W4 := owin_is n 3 true (decide_eq_true h4)
          by_cases h5 : n = 0
          · subst h5
            by_cases h6 : a = 0
            · subst h6
              go_enter Tryd.func59, Tryd.ntmps59
              go_wp2_with fail
              refine (W1.out _).mono ?_
              rintro e w' ⟨rfl, rfl⟩
              go_wp2_with fail
              refine (W2.out _).mono ?_
              rintro e w' ⟨rfl, rfl⟩
              go_wp2_with fail
              refine (W3.out _).mono ?_
              rintro e w' ⟨rfl, rfl⟩
              go_wp2_with fail
              refine (W4.out _).mono ?_
              rintro e w' ⟨rfl, rfl⟩
              go_wp2
              go_ret
              exact ⟨_, rfl, by rw [Od.fault_ok (by unfold Od.bad; simp only; omega)]; exact Er.nil, BB⟩
            · have h6b : (a == 0) = false := beq_eq_false_iff_ne.2 h6
              go_enter Tryd.func59, Tryd.ntmps59
              go_wp2_with fail
              refine (W1.out _).mono ?_
              rintro e w' ⟨rfl, rfl⟩
              go_wp2_with fail
              refine (W2.out _).mono ?_
              rintro e w' ⟨rfl, rfl⟩
              go_wp2_with fail
              refine (W3.out _).mono ?_
              rintro e w' ⟨rfl, rfl⟩
              go_wp2_with fail
              refine (W4.out _).mono ?_
              rintro e w' ⟨rfl, rfl⟩
              go_wp2
              go_ret
              exact B1.out (.inr (.inr (.inr (.inr (.inr (.inr (.inr (.inr ⟨rfl, h6⟩)))))))) _ BB
          · have h5b : (n == 0) = false := beq_eq_false_iff_ne.2 h5
            go_enter Tryd.func59, Tryd.ntmps59
            go_wp2_with fail
            refine (W1.out _).mono ?_
            rintro e w' ⟨rfl, rfl⟩
            go_wp2_with fail
            refine (W2.out _).mono ?_
            rintro e w' ⟨rfl, rfl⟩
            go_wp2_with fail
            refine (W3.out _).mono ?_
            rintro e w' ⟨rfl, rfl⟩
            go_wp2_with fail
            refine (W4.out _).mono ?_
            rintro e w' ⟨rfl, rfl⟩
            go_wp2
            go_ret
            exact ⟨_, rfl, by rw [Od.fault_ok (by unfold Od.bad; simp only; omega)]; exact Er.nil, BB⟩
        · have W4 := owin_is n 3 false (decide_eq_false h4)
          go_enter Tryd.func59, Tryd.ntmps59
          go_wp2_with fail
          refine (W1.out _).mono ?_
          rintro e w' ⟨rfl, rfl⟩
          go_wp2_with fail
          refine (W2.out _).mono ?_
          rintro e w' ⟨rfl, rfl⟩
          go_wp2_with fail
          refine (W3.out _).mono ?_
          rintro e w' ⟨rfl, rfl⟩
          go_wp2_with fail
          refine (W4.out _).mono ?_
          rintro e w' ⟨rfl, rfl⟩
          go_wp2
          go_ret
          exact B1.out (by unfold Od.bad; simp only; omega) _ BB
      · have W3 := owin_is a 1000000 false (decide_eq_false h3)
        go_enter Tryd.func59, Tryd.ntmps59
        go_wp2_with fail
        refine (W1.out _).mono ?_
        rintro e w' ⟨rfl, rfl⟩
        go_wp2_with fail
        refine (W2.out _).mono ?_
        rintro e w' ⟨rfl, rfl⟩
        go_wp2_with fail
        refine (W3.out _).mono ?_
        rintro e w' ⟨rfl, rfl⟩
        go_wp2
        go_ret
        exact B1.out (by unfold Od.bad; simp only; omega) _ BB
    · have W2 := owin_is u 1000000 false (decide_eq_false h2)
      go_enter Tryd.func59, Tryd.ntmps59
      go_wp2_with fail
      refine (W1.out _).mono ?_
      rintro e w' ⟨rfl, rfl⟩
      go_wp2_with fail
      refine (W2.out _).mono ?_
      rintro e w' ⟨rfl, rfl⟩
      go_wp2
      go_ret
      exact B1.out (by unfold Od.bad; simp only; omega) _ BB
  · have W1 := owin_is p 3 false (decide_eq_false h1)
    go_enter Tryd.func59, Tryd.ntmps59
    go_wp2_with fail
    refine (W1.out _).mono ?_
    rintro e w' ⟨rfl, rfl⟩
    go_wp2
    go_ret
    exact B1.out (by unfold Od.bad; simp only; omega) _ BB
end Go.Proofs.YtelbdcljdfadbaaDoor

namespace Go.Proofs.YtelbdcljdfadbaaDoor
open Go.RowKit
set_option linter.unusedVariables false

/-- orders.names is laid. -/
structure Nm (w : World) : Prop where
  c0 : w.cell? ⟨0, 0, none⟩ = some (.string ⟨#[115, 116, 111, 112]⟩)
  c1 : w.cell? ⟨0, 1, none⟩ = some (.string ⟨#[109, 97, 114, 99, 104]⟩)
  c2 : w.cell? ⟨0, 2, none⟩ = some (.string ⟨#[103, 97, 116, 104, 101, 114]⟩)
  c3 : w.cell? ⟨0, 3, none⟩ = some (.string ⟨#[116, 114, 97, 105, 110]⟩)
theorem Nm.lt {w : World} (h : Nm w) : 0 < w.heap.size := cell_lt h.c0
theorem Nm.below {w w' : World} {B : Nat} (h : Nm w) (hb : Below B w w') (hB : w.heap.size ≤ B) : Nm w' := by
  have l := h.lt
  refine ⟨?_, ?_, ?_, ?_⟩
  · rw [hb.cell (p := ⟨0, 0, none⟩) (Nat.lt_of_lt_of_le l hB)]; exact h.c0
  · rw [hb.cell (p := ⟨0, 1, none⟩) (Nat.lt_of_lt_of_le l hB)]; exact h.c1
  · rw [hb.cell (p := ⟨0, 2, none⟩) (Nat.lt_of_lt_of_le l hB)]; exact h.c2
  · rw [hb.cell (p := ⟨0, 3, none⟩) (Nat.lt_of_lt_of_le l hB)]; exact h.c3

def W0 : DataW Unit := .map []
def W1 : DataW Unit := W0.put (.string Od.nStop) (.lit (.int .i64 0))
def W2 : DataW Unit := W1.put (.string Od.nMarch) (.lit (.int .i64 1))
def W3 : DataW Unit := W2.put (.string Od.nGather) (.lit (.int .i64 2))
def W4 : DataW Unit := W3.put (.string Od.nTrain) (.lit (.int .i64 3))
/-- block b is the map of the words for What. -/
def Wm (w : World) (b : Nat) (n : Nat) (D : DataW Unit) : Prop := w.ownsMap Tryd.prog 9 (plainElem Tryd.prog 3) b n D
theorem w_key {l : List UInt8} : WideAt.IsKeyLit (.string l) := by
  first | exact trivial | (unfold WideAt.IsKeyLit; trivial) | simp [WideAt.IsKeyLit]
theorem str_ne {a b : List UInt8} (h : a ≠ b) : (Lit.string a) ≠ .string b := fun e => h (by injection e)

theorem w4_has (l : List UInt8) : Maps.has W4 (.string l) = (Od.unname l).isSome := by
  have m0 : Maps.IsMap W0 := Maps.isMap_empty
  have m1 : Maps.IsMap W1 := m0.put _ _
  have m2 : Maps.IsMap W2 := m1.put _ _
  have m3 : Maps.IsMap W3 := m2.put _ _
  unfold Od.unname
  by_cases h3 : l = Od.nTrain
  · subst h3
    unfold W4
    rw [Maps.has_put_same m3 w_key]
    rfl
  · unfold W4
    rw [Maps.has_put_other (str_ne h3)]
    by_cases h2 : l = Od.nGather
    · subst h2
      unfold W3
      rw [Maps.has_put_same m2 w_key]
      rfl
    · unfold W3
      rw [Maps.has_put_other (str_ne h2)]
      by_cases h1 : l = Od.nMarch
      · subst h1
        unfold W2
        rw [Maps.has_put_same m1 w_key]
        rfl
      · unfold W2
        rw [Maps.has_put_other (str_ne h1)]
        by_cases h0 : l = Od.nStop
        · subst h0
          unfold W1
          rw [Maps.has_put_same m0 w_key]
          rfl
        · unfold W1
          rw [Maps.has_put_other (str_ne h0), if_neg h0, if_neg h1, if_neg h2, if_neg h3]
          rfl
theorem w4_at {l : List UInt8} {n : Int} (h : Od.unname l = some n) (z : DataW Unit) : W4.atKey (.string l) z = .lit (.int .i64 n) := by
  have m0 : Maps.IsMap W0 := Maps.isMap_empty
  have m1 : Maps.IsMap W1 := m0.put _ _
  have m2 : Maps.IsMap W2 := m1.put _ _
  have m3 : Maps.IsMap W3 := m2.put _ _
  unfold Od.unname at h
  by_cases h0 : l = Od.nStop
  · subst h0
    simp at h
    subst h
    unfold W4 W3 W2 W1
    rw [Maps.atKey_put_other (str_ne (by decide)), Maps.atKey_put_other (str_ne (by decide)), Maps.atKey_put_other (str_ne (by decide)), Maps.atKey_put_same m0 w_key]
  · rw [if_neg h0] at h
    by_cases h1 : l = Od.nMarch
    · subst h1
      simp at h
      subst h
      unfold W4 W3 W2
      rw [Maps.atKey_put_other (str_ne (by decide)), Maps.atKey_put_other (str_ne (by decide)), Maps.atKey_put_same m1 w_key]
    · rw [if_neg h1] at h
      by_cases h2 : l = Od.nGather
      · subst h2
        simp at h
        subst h
        unfold W4 W3
        rw [Maps.atKey_put_other (str_ne (by decide)), Maps.atKey_put_same m2 w_key]
      · rw [if_neg h2] at h
        by_cases h3 : l = Od.nTrain
        · subst h3
          simp at h
          subst h
          unfold W4
          rw [Maps.atKey_put_same m3 w_key]
        · rw [if_neg h3] at h
          cases h

theorem elem_int (n : Int) (h : (Lit.int .i64 n).wf = true) : plainElem (H := Unit) Tryd.prog 3 (.int .i64 n) = some (.lit (.int .i64 n), []) := plainElem_int Tryd.underlying3 h

theorem ix_name0 (w : World) : (Instr.index 143 (.agg #[.string ⟨#[115, 116, 111, 112]⟩, .string ⟨#[109, 97, 114, 99, 104]⟩, .string ⟨#[103, 97, 116, 104, 101, 114]⟩, .string ⟨#[116, 114, 97, 105, 110]⟩]) (.int .i64 0)).run Tryd.prog w = .ok (.string ⟨#[115, 116, 111, 112]⟩) w := by kernel_rfl
theorem ix_name1 (w : World) : (Instr.index 143 (.agg #[.string ⟨#[115, 116, 111, 112]⟩, .string ⟨#[109, 97, 114, 99, 104]⟩, .string ⟨#[103, 97, 116, 104, 101, 114]⟩, .string ⟨#[116, 114, 97, 105, 110]⟩]) (.int .i64 1)).run Tryd.prog w = .ok (.string ⟨#[109, 97, 114, 99, 104]⟩) w := by kernel_rfl
theorem ix_name2 (w : World) : (Instr.index 143 (.agg #[.string ⟨#[115, 116, 111, 112]⟩, .string ⟨#[109, 97, 114, 99, 104]⟩, .string ⟨#[103, 97, 116, 104, 101, 114]⟩, .string ⟨#[116, 114, 97, 105, 110]⟩]) (.int .i64 2)).run Tryd.prog w = .ok (.string ⟨#[103, 97, 116, 104, 101, 114]⟩) w := by kernel_rfl
theorem ix_name3 (w : World) : (Instr.index 143 (.agg #[.string ⟨#[115, 116, 111, 112]⟩, .string ⟨#[109, 97, 114, 99, 104]⟩, .string ⟨#[103, 97, 116, 104, 101, 114]⟩, .string ⟨#[116, 114, 97, 105, 110]⟩]) (.int .i64 3)).run Tryd.prog w = .ok (.string ⟨#[116, 114, 97, 105, 110]⟩) w := by kernel_rfl
set_option maxRecDepth 100000 in
set_option maxHeartbeats 4000000 in
theorem names_any (w : World) (hn : Nm w) :
    Calls Tryd.prog 48 #[] w fun e w' => ∃ b, e = .returned (.map (some b)) ∧ Wm w' b 4 W4 ∧ w.heap.size ≤ b ∧ Below w.heap.size w w' := by
  have hmm := @run_makeMap Tryd.prog
  have o0 : Wm (w.alloc (.map #[] 0)) w.heap.size 0 W0 := World.ownsMap_made _ _ _ _
  have b0 : Hid (Below w.heap.size w (w.alloc (.map #[] 0))) := (Below.refl _ _).alloc (Nat.le_refl _) _
  have n1 : Nm (w.alloc (.map #[] 0)) := hn.below b0.out (Nat.le_refl _)
  obtain ⟨c0, c1, c2, c3⟩ := n1
  have O0 : Hid (Wm (w.alloc (.map #[] 0)) w.heap.size 0 W0) := o0
  have i0 := ix_name0
  have i1 := ix_name1
  have i2 := ix_name2
  have i3 := ix_name3
  clear o0 hn
  go_enter Tryd.func48, Tryd.ntmps48
  go_wp2
  refine wp_loop_rounds 5 ?_
  obtain ⟨w1, r1, o1, g1⟩ : ∃ w', (Instr.mapUpdate 93 (.map (some w.heap.size)) (.string ⟨#[115, 116, 111, 112]⟩) (.int .i64 0)).run Tryd.prog (w.alloc (.map #[] 0)) = .ok () w' ∧ Wm w' w.heap.size 1 W1 ∧ (w.alloc (.map #[] 0)).grownBy w' (some w.heap.size) :=
    World.ownsMap.update O0.out (Maps.string_keyed Tryd.underlying9) Tryd.underlying93 (by decide) (WideMaps.keyOf_string_mk Tryd.underlying9 (by decide)) (elem_int 0 (by decide))
  have O1 : Hid (Wm w1 w.heap.size 1 W1) := o1
  have b1 : Hid (Below w.heap.size w w1) := b0.out.grown g1 b0.out.size (fun k hk => by cases hk; exact Nat.le_refl _)
  clear o1 g1
  rw [rounds_succ]
  go_wp2
  obtain ⟨w2, r2, o2, g2⟩ : ∃ w', (Instr.mapUpdate 93 (.map (some w.heap.size)) (.string ⟨#[109, 97, 114, 99, 104]⟩) (.int .i64 1)).run Tryd.prog w1 = .ok () w' ∧ Wm w' w.heap.size 2 W2 ∧ w1.grownBy w' (some w.heap.size) :=
    World.ownsMap.update O1.out (Maps.string_keyed Tryd.underlying9) Tryd.underlying93 (by decide) (WideMaps.keyOf_string_mk Tryd.underlying9 (by decide)) (elem_int 1 (by decide))
  have O2 : Hid (Wm w2 w.heap.size 2 W2) := o2
  have b2 : Hid (Below w.heap.size w w2) := b1.out.grown g2 b1.out.size (fun k hk => by cases hk; exact Nat.le_refl _)
  clear o2 g2
  rw [rounds_succ]
  go_wp2
  obtain ⟨w3, r3, o3, g3⟩ : ∃ w', (Instr.mapUpdate 93 (.map (some w.heap.size)) (.string ⟨#[103, 97, 116, 104, 101, 114]⟩) (.int .i64 2)).run Tryd.prog w2 = .ok () w' ∧ Wm w' w.heap.size 3 W3 ∧ w2.grownBy w' (some w.heap.size) :=
    World.ownsMap.update O2.out (Maps.string_keyed Tryd.underlying9) Tryd.underlying93 (by decide) (WideMaps.keyOf_string_mk Tryd.underlying9 (by decide)) (elem_int 2 (by decide))
  have O3 : Hid (Wm w3 w.heap.size 3 W3) := o3
  have b3 : Hid (Below w.heap.size w w3) := b2.out.grown g3 b2.out.size (fun k hk => by cases hk; exact Nat.le_refl _)
  clear o3 g3
  rw [rounds_succ]
  go_wp2
  obtain ⟨w4, r4, o4, g4⟩ : ∃ w', (Instr.mapUpdate 93 (.map (some w.heap.size)) (.string ⟨#[116, 114, 97, 105, 110]⟩) (.int .i64 3)).run Tryd.prog w3 = .ok () w' ∧ Wm w' w.heap.size 4 W4 ∧ w3.grownBy w' (some w.heap.size) :=
    World.ownsMap.update O3.out (Maps.string_keyed Tryd.underlying9) Tryd.underlying93 (by decide) (WideMaps.keyOf_string_mk Tryd.underlying9 (by decide)) (elem_int 3 (by decide))
  have O4 : Hid (Wm w4 w.heap.size 4 W4) := o4
  have b4 : Hid (Below w.heap.size w w4) := b3.out.grown g4 b3.out.size (fun k hk => by cases hk; exact Nat.le_refl _)
  clear o4 g4
  rw [rounds_succ]
  go_wp2
  rw [rounds_succ]
  go_wp2
  go_ret
  exact ⟨_, rfl, O4, Nat.le_refl _, b4⟩
end Go.Proofs.YtelbdcljdfadbaaDoor

namespace Go.Proofs.YtelbdcljdfadbaaDoor
open Go.RowKit
set_option linter.unusedVariables false

theorem Nm.at_ {w : World} (h : Nm w) : ∀ {n : Nat}, n < 4 → w.cell? ⟨0, n, none⟩ = some (.string (bytesOf (Od.name (n : Nat))))
  | 0, _ => h.c0
  | 1, _ => h.c1
  | 2, _ => h.c2
  | 3, _ => h.c3
  | n + 4, hn => by omega
/-- the words of an order, as texts. -/
def wordsO (o : OrV) : List ByteArray := [bytesOf (Tx.dig o.player.toNat), bytesOf (Tx.dig o.unit.toNat), bytesOf (Od.name o.what)] ++ (if o.what = 0 then [] else [bytesOf (Tx.dig o.arg.toNat)])
theorem wordsO_map (o : OrV) : (wordsO o).map (·.data.toList) = Od.words o := by
  unfold wordsO Od.words
  split <;> rfl
theorem oname_len (n : Int) : (Od.name n).length ≤ 6 := by
  unfold Od.name
  repeat' split
  all_goals decide
theorem oline_len {o : OrV} (h : ¬ Od.bad o) : (Od.oline o).length ≤ 40 := by
  have k := Od.ok_of h
  have h1 : (Tx.dig o.player.toNat).length ≤ 7 := Tx.dig_len (by decide) (by show o.player.toNat < 10000000; omega)
  have h2 : (Tx.dig o.unit.toNat).length ≤ 7 := Tx.dig_len (by decide) (by show o.unit.toNat < 10000000; omega)
  have h3 : (Tx.dig o.arg.toNat).length ≤ 7 := Tx.dig_len (by decide) (by show o.arg.toNat < 10000000; omega)
  have h4 := oname_len o.what
  unfold Od.oline Od.words
  split
  · simp only [Tx.join, List.length_append, List.length_cons]; omega
  · simp only [Tx.join, List.length_append, List.length_cons]; omega
theorem Os.three {w : World} {base z : Nat} (a b c : ByteArray) (hb : base ≤ w.heap.size) (hz : w.heap.size = z) : Os (w.alloc (.cells #[.string a, .string b, .string c] 9)) base (.slice (some ⟨z, 0, none⟩) 3 3) [a, b, c] := by
  subst hz
  exact ⟨rfl, .inr ⟨_, _, _, rfl, hb, heap_alloc_new w _, Nat.le_refl _, by unfold maxLen; decide, rfl, rfl⟩⟩
/-- a list's texts, joined. -/
theorem join_os {w : World} {base : Nat} {v : Value} {bs : List ByteArray} (h : Os w base v bs) (hn : bs ≠ []) (hl : bs.length ≤ 100) (hj : (Tx.join 32 (bs.map (·.data.toList))).length ≤ 1000) :
    Calls Tryd.prog 89 #[v, .string ⟨#[32]⟩] w fun e w' => e = .returned (.string (bytesOf (Tx.join 32 (bs.map (·.data.toList))))) ∧ Below w.heap.size w w' := by
  obtain ⟨a, c, rfl, c1, c2, hcs⟩ := h.cells
  obtain ⟨g, rfl, hg, hc⟩ := hcs hn
  obtain ⟨b0, hb0⟩ : ∃ b, bs[0]? = some b := ⟨_, List.getElem?_eq_getElem (List.length_pos_iff.2 hn)⟩
  have lg : g < w.heap.size := cell_lt (hc 0 b0 hb0)
  have JN := Tryd.strings_Join g 0 c bs ⟨#[32]⟩ w (fun j x hj => by rw [Nat.zero_add]; exact hc j x hj) lg (by omega) c1 (by
    rw [show (⟨#[32]⟩ : ByteArray).data.toList = [32] from rfl, join_tx]
    omega)
  rw [show (⟨#[32]⟩ : ByteArray).data.toList = [32] from rfl, join_tx] at JN
  exact JN
set_option maxRecDepth 100000 in
set_option maxHeartbeats 8000000 in
theorem owrite_any (o : OrV) (w : World) (hm : Nm w) (hw : Pw w) (hb : ¬ Od.bad o) :
    Calls Tryd.prog 56 #[o.val] w fun e w' => e = .returned (.string (bytesOf (Od.oline o ++ [10]))) ∧ Below w.heap.size w w' := by
  have OK := Od.ok_of hb
  have OL := oline_len hb
  have WM : Hid (Tx.join 32 ((wordsO o).map (·.data.toList)) = Od.oline o) := by unfold Hid; rw [wordsO_map]; rfl
  have LEN : Hid ((Od.oline o).length ≤ 40) := OL
  generalize Od.oline o = OLN at *
  have NP : Hid (Nm w ∧ Pw w) := ⟨hm, hw⟩
  obtain ⟨p, hp⟩ : ∃ p : Nat, o.player = p := ⟨o.player.toNat, by omega⟩
  obtain ⟨u, hu⟩ : ∃ p : Nat, o.unit = p := ⟨o.unit.toNat, by omega⟩
  obtain ⟨n, hn⟩ : ∃ p : Nat, o.what = p := ⟨o.what.toNat, by omega⟩
  obtain ⟨a, ha⟩ : ∃ p : Nat, o.arg = p := ⟨o.arg.toNat, by omega⟩
  obtain ⟨op, ou, on, oa⟩ := o
  simp only at hp hu hn ha OK
  subst hp hu hn ha
  have WO : Hid (wordsO ⟨(p : Nat), (u : Nat), (n : Nat), (a : Nat)⟩ = [bytesOf (Tx.dig p), bytesOf (Tx.dig u), bytesOf (Od.name (n : Nat))] ++ (if ((n : Nat) : Int) = 0 then [] else [bytesOf (Tx.dig a)])) := rfl
  have J0 : Hid (n = 0 → Tx.join 32 ([bytesOf (Tx.dig p), bytesOf (Tx.dig u), bytesOf (Od.name (n : Nat))].map (·.data.toList)) = OLN) := fun h => by
    have j := WM.out
    rw [WO.out, if_pos (by omega), List.append_nil] at j
    exact j
  have J1 : Hid (¬ n = 0 → Tx.join 32 ([bytesOf (Tx.dig p), bytesOf (Tx.dig u), bytesOf (Od.name (n : Nat)), bytesOf (Tx.dig a)].map (·.data.toList)) = OLN) := fun h => by
    have j := WM.out
    rw [WO.out, if_neg (by omega)] at j
    exact j
  clear WM WO
  have LE : Hid (p ≤ 1000000 ∧ u ≤ 1000000 ∧ a ≤ 1000000 ∧ n < 4) := ⟨by omega, by omega, by omega, by omega⟩
  have n4 : ((n : Nat) : Int) < 4 := by omega
  unfold OrV.val
  simp only
  clear hm hw hb OK OL
  go_enter Tryd.func56, Tryd.ntmps56
  go_upto_region 1 with fail
  have B1 : Hid (Below w.heap.size w (w.alloc (Obj.cells #[.int .i64 (p : Nat), .int .i64 (u : Nat), .int .i64 (n : Nat), .int .i64 (a : Nat)] 63))) := (Below.refl _ _).alloc (Nat.le_refl _) _
  have X1 : Hid (Orc (w.alloc (Obj.cells #[.int .i64 (p : Nat), .int .i64 (u : Nat), .int .i64 (n : Nat), .int .i64 (a : Nat)] 63)) ⟨w.heap.size, 0, none⟩ ⟨(p : Nat), (u : Nat), (n : Nat), (a : Nat)⟩) := Orc.mk' ⟨(p : Nat), (u : Nat), (n : Nat), (a : Nat)⟩ rfl
  generalize w.alloc (Obj.cells #[.int .i64 (p : Nat), .int .i64 (u : Nat), .int .i64 (n : Nat), .int .i64 (a : Nat)] 63) = w1 at *
  have N1 : Hid (Nm w1 ∧ Pw w1) := ⟨NP.out.1.below B1.out (Nat.le_refl _), NP.out.2.below B1.out⟩
  have FC : Hid (∀ W, Below w1.heap.size w1 W → W.cell? ⟨w.heap.size, 0, none⟩ = some (.int .i64 (p : Nat)) ∧ W.cell? ⟨w.heap.size, 1, none⟩ = some (.int .i64 (u : Nat)) ∧ W.cell? ⟨w.heap.size, 2, none⟩ = some (.int .i64 (n : Nat)) ∧ W.cell? ⟨0, n, none⟩ = some (.string (bytesOf (Od.name (n : Nat))))) := fun W hW => by
    obtain ⟨x0, x1, x2, x3⟩ := X1.out.below hW X1.out.lt
    simp only [Nat.zero_add] at x1 x2 x3
    exact ⟨x0, x1, x2, (N1.out.1.below hW (Nat.le_refl _)).at_ LE.out.2.2.2⟩
  have IT : Hid (∀ q : Nat, q ≤ 1000000 → ∀ W, Below w1.heap.size w1 W → Calls Tryd.prog 88 #[.int .i64 (q : Nat)] W fun e w' => e = .returned (.string (bytesOf (Tx.dig q))) ∧ Below w1.heap.size w1 w') := fun q hq W hW => (itoa_any q hq W (N1.out.2.below hW)).mono fun e w' ⟨h1, h2⟩ => ⟨h1, hW.trans (h2.mono hW.size)⟩
  refine wp_region_class 10 (fun W => Below w1.heap.size w1 W) (by kernel_rfl) (by kernel_rfl) (Below.refl _ _).drew ?_
  simp only [List.take_succ_cons, List.take_zero, List.drop_succ_cons, List.drop_zero]
  refine head_step (.pointer (some ⟨w.heap.size, 0, none⟩)) (by go_simp) (fun W hW => by go_simp) ?_
  go_simp
  refine head_step (.int .i64 (p : Nat)) (by go_simp) (fun W hW => by obtain ⟨x0, x1, x2, x3⟩ := FC.out W hW; go_simp) ?_
  go_simp
  refine head_call (.string (bytesOf (Tx.dig p))) 88 #[.int .i64 (p : Nat)] (by go_simp) (fun W hW => by go_simp) (fun W hW => IT.out p LE.out.1 W hW) ?_
  go_simp
  refine head_step (.pointer (some ⟨w.heap.size, 1, none⟩)) (by go_simp) (fun W hW => by go_simp) ?_
  go_simp
  refine head_step (.int .i64 (u : Nat)) (by go_simp) (fun W hW => by obtain ⟨x0, x1, x2, x3⟩ := FC.out W hW; go_simp) ?_
  go_simp
  refine head_call (.string (bytesOf (Tx.dig u))) 88 #[.int .i64 (u : Nat)] (by go_simp) (fun W hW => by go_simp) (fun W hW => IT.out u LE.out.2.1 W hW) ?_
  go_simp
  refine head_step (.pointer (some ⟨w.heap.size, 2, none⟩)) (by go_simp) (fun W hW => by go_simp) ?_
  go_simp
  refine head_step (.int .i64 (n : Nat)) (by go_simp) (fun W hW => by obtain ⟨x0, x1, x2, x3⟩ := FC.out W hW; go_simp) ?_
  go_simp
  refine head_step (.pointer (some ⟨0, n, none⟩)) (by go_simp) (fun W hW => by go_simp) ?_
  go_simp
  refine head_step (.string (bytesOf (Od.name (n : Nat)))) (by go_simp) (fun W hW => by obtain ⟨x0, x1, x2, x3⟩ := FC.out W hW; go_simp) ?_
  go_simp
  intro W2 hW2
  have D2 : Hid (Below w1.heap.size w1 W2) := hW2
  clear hW2 FC
  generalize bytesOf (Tx.dig p) = bp at *
  generalize bytesOf (Tx.dig u) = bu at *
  generalize bytesOf (Od.name (n : Nat)) = bn at *
  go_upto_region 2 with fail
  have O3 : Hid (Os (W2.alloc (Obj.cells #[.string bp, .string bu, .string bn] 9)) w1.heap.size (.slice (some ⟨W2.heap.size, 0, none⟩) 3 3) [bp, bu, bn]) := Os.three bp bu bn D2.out.size rfl
  have D3 : Hid (Below w1.heap.size w1 (W2.alloc (Obj.cells #[.string bp, .string bu, .string bn] 9))) := D2.out.alloc D2.out.size _
  obtain ⟨z2, hz2⟩ : ∃ z, W2.heap.size = z := ⟨_, rfl⟩
  rw [hz2] at O3 ⊢
  clear hz2
  generalize W2.alloc (Obj.cells #[.string bp, .string bu, .string bn] 9) = w3 at *
  have B3 : Hid (Below w.heap.size w w3) := B1.out.trans (D3.out.mono B1.out.size)
  have X3 : Hid (Orc w3 ⟨w.heap.size, 0, none⟩ ⟨(p : Nat), (u : Nat), (n : Nat), (a : Nat)⟩) := X1.out.below D3.out X1.out.lt
  obtain ⟨x0, x1, x2, x3⟩ := X3.out
  simp only [Nat.zero_add] at x1 x2 x3
  by_cases h0 : n = 0
  · subst h0
    have JW := J0.out rfl
    have JC := join_os O3.out (by simp) (by simp) (by rw [JW]; have := LEN.out; omega)
    rw [JW] at JC
    have JC' : Hid (Calls Tryd.prog 89 #[.slice (some ⟨z2, 0, none⟩) 3 3, .string ⟨#[32]⟩] w3 fun e w' => e = .returned (.string (bytesOf OLN)) ∧ Below w3.heap.size w3 w') := JC
    clear JC JW
    go_wp2_with fail
    refine JC'.out.mono ?_
    rintro e w4 ⟨rfl, b4⟩
    have B4 : Hid (Below w.heap.size w w4) := B3.out.trans (b4.mono B3.out.size)
    have hs9 : (bytesOf OLN).size ≤ 40 := LEN.out
    have hs8 : ¬ 9223372036854775807 < (bytesOf OLN).size + 1 := by omega
    clear b4 JC' x0 x1 x2 x3
    go_wp2
    go_ret
    refine ⟨?_, B4.out⟩
    show Ending.returned (.string (bytesOf OLN ++ ⟨#[10]⟩)) = _
    rw [bytesOf_cat OLN [10]]
  · have h0i : ¬ ((n : Nat) : Int) = 0 := by omega
    have h0b : (((n : Nat) : Int) == 0) = false := beq_eq_false_iff_ne.2 h0i
    have ITA : Hid (Calls Tryd.prog 88 #[.int .i64 (a : Nat)] w3 fun e w' => e = .returned (.string (bytesOf (Tx.dig a))) ∧ Below w3.heap.size w3 w') := itoa_any a LE.out.2.2.1 w3 (N1.out.2.below D3.out)
    have JW' : Hid (Tx.join 32 ([bp, bu, bn, bytesOf (Tx.dig a)].map (·.data.toList)) = OLN) := J1.out h0
    clear h0i J0 J1
    generalize bytesOf (Tx.dig a) = ba at *
    go_wp2_with fail
    refine ITA.out.mono ?_
    rintro e w4 ⟨rfl, b4⟩
    have O4 : Hid (Os w4 w1.heap.size (.slice (some ⟨z2, 0, none⟩) 3 3) [bp, bu, bn]) := O3.out.below b4
    have D4 : Hid (Below w1.heap.size w1 w4) := D3.out.trans (b4.mono D3.out.size)
    have hs4 : w1.heap.size ≤ w4.heap.size := D4.out.size
    clear b4 ITA x0 x1 x2 x3
    go_wp2_with (at_builtin; refine app_str _ rfl _ _ rfl w1.heap.size _ [bp, bu, bn] rfl (O4.out.alloc _) ⟨w4.heap.size, 0, none⟩ ba rfl (by simp) (by simp) (by simp; omega) ?_)
    intro g cap w6 o6 g6 a6 l6
    have B6 : Hid (Below w.heap.size w w6) := B1.out.trans (((D4.out.alloc D4.out.size _).grown g6 (by simp; omega) (fun k hk => (O4.out.block k hk).1)).mono B1.out.size)
    have JC := join_os (bs := [bp, bu, bn, ba]) o6 (by simp) (by simp) (by rw [JW'.out]; have := LEN.out; omega)
    rw [JW'.out] at JC
    have JC' : Hid (Calls Tryd.prog 89 #[.slice (some ⟨g, 0, none⟩) 4 cap, .string ⟨#[32]⟩] w6 fun e w' => e = .returned (.string (bytesOf OLN)) ∧ Below w6.heap.size w6 w') := JC
    clear JC o6 g6 a6 l6
    go_wp2_with fail
    refine JC'.out.mono ?_
    rintro e w7 ⟨rfl, b7⟩
    have B7 : Hid (Below w.heap.size w w7) := B6.out.trans (b7.mono B6.out.size)
    have hs9 : (bytesOf OLN).size ≤ 40 := LEN.out
    have hs8 : ¬ 9223372036854775807 < (bytesOf OLN).size + 1 := by omega
    clear b7 JC'
    go_wp2
    go_ret
    refine ⟨?_, B7.out⟩
    show Ending.returned (.string (bytesOf OLN ++ ⟨#[10]⟩)) = _
    rw [bytesOf_cat OLN [10]]
end Go.Proofs.YtelbdcljdfadbaaDoor

namespace Go.Proofs.YtelbdcljdfadbaaDoor
open Go.RowKit Go.Proofs.YtelbdcljdfadbaaDoor.So
set_option linter.unusedVariables false

theorem Um.mono {w : World} {b n n' : Nat} {f : Int → Int → Int} (h : Um w b n f) (hn : n ≤ n') : Um w b n' f := by
  obtain ⟨D, h1, h2⟩ := h
  exact ⟨D, h1.mono hn, h2⟩
def OcI (ks : List OrV) (w : World) (j : Value) (W' : World) : Prop := ∃ q : Nat, q ≤ ks.length ∧ j = .int .i64 (q : Nat) ∧ (∀ (i : Nat) o, i < q → ks[i]? = some o → ¬ Od.bad o) ∧ Below w.heap.size w W'
set_option maxRecDepth 100000 in
set_option maxHeartbeats 4000000 in
theorem ocheck_any (v : Value) (ks : List OrV) (w : World) (h : Orl w v ks) :
    Calls Tryd.prog 27 #[v] w fun e w' => ∃ u, e = .returned u ∧ Er u (Od.faults ks) ∧ Below w.heap.size w w' := by
  have K0 : Hid (Orl w v ks) := h
  obtain ⟨R, hR⟩ : ∃ R, Od.faults ks = R := ⟨_, rfl⟩
  have HR : Hid (Od.faults ks = R) := hR
  rw [hR]
  clear hR
  obtain ⟨a, c, rfl, c1, c2, -⟩ := h
  by_cases h8 : 60 < ks.length
  · have E : Hid (R = 4) := by unfold Hid; rw [← HR.out]; unfold Od.faults; rw [if_pos h8]
    have h8' : (60 : Int) < (ks.length : Int) := by omega
    go_enter Tryd.func27, Tryd.ntmps27
    go_wp2
    go_ret
    exact ⟨_, rfl, by rw [E.out]; exact Er.no (by decide), Below.refl _ _⟩
  · have h8' : ¬ (60 : Int) < (ks.length : Int) := by omega
    have LE : Hid (ks.length ≤ 60) := by unfold Hid; omega
    go_enter Tryd.func27, Tryd.ntmps27
    go_wp2_with fail
    go_loopw [12] (fun j W' => OcI ks w j W') (fun j _ => ks.length - (intOf j).toNat)
    case atStart => exact ⟨0, Nat.zero_le _, rfl, fun i o hi => by omega, Below.refl _ _⟩
    case round =>
      obtain ⟨q, hq, rfl, hg, hb⟩ := hrel
      have Gq : Hid (∀ (i : Nat) o, i < q → ks[i]? = some o → ¬ Od.bad o) := hg
      have B : Hid (Below w.heap.size w wr) := hb
      clear hg hb
      by_cases hql : q = ks.length
      · have E : Hid (R = 0) := by
          unfold Hid
          rw [← HR.out]
          refine Od.faults_of LE.out fun o ho => ?_
          obtain ⟨i, hi⟩ := List.mem_iff_getElem?.1 ho
          exact Gq.out i o (by rw [hql]; exact (List.getElem?_eq_some_iff.1 hi).1) hi
        subst hql
        go_wp2
        go_ret
        exact ⟨_, rfl, by rw [E.out]; exact Er.nil, B⟩
      · have hqk : q < ks.length := by omega
        obtain ⟨k, hk⟩ : ∃ k, ks[q]? = some k := ⟨_, List.getElem?_eq_getElem hqk⟩
        have HK : Hid (ks[q]? = some k) := hk
        have K1 := K0.out.below B.out
        have CK : Hid (∀ W : World, Calls Tryd.prog 59 #[k.val] W (OrdSays k W)) := fun W => checkOrder_any k W
        obtain ⟨F, hF⟩ : ∃ F, Od.fault k = F := ⟨_, rfl⟩
        have HF : Hid (Od.fault k = F) := hF
        clear hF
        obtain ⟨a', c', e, -, -, h3⟩ := K1
        injection e with e1 e2 e3
        subst e1 e3
        obtain ⟨x, rfl, hx1, hx⟩ := h3 (by rintro rfl; simp at hqk)
        have Yc := hx q k hk
        clear hx h3 e2 hk
        obtain ⟨q0, q1, q2, q3⟩ := Yc
        unfold OrV.val at CK
        go_upto_region 6 with fail
        have B1 : Hid (Below wr.heap.size wr (wr.alloc (Obj.cells #[.int .i64 k.player, .int .i64 k.unit, .int .i64 k.what, .int .i64 k.arg] 63))) := (Below.refl _ _).alloc (Nat.le_refl _) _
        have X1 := Orc.mk' (w := wr) k rfl
        clear q0 q1 q2 q3
        generalize wr.alloc (Obj.cells #[.int .i64 k.player, .int .i64 k.unit, .int .i64 k.what, .int .i64 k.arg] 63) = w1 at *
        obtain ⟨x0, x1, x2, x3⟩ := X1
        simp only [Nat.zero_add] at x1 x2 x3
        go_wp2_with fail
        refine Calls.mono (CK.out w1) ?_
        rintro e w2 ⟨u, rfl, hu, b2⟩
        rw [HF.out] at hu
        have B3 : Hid (Below w.heap.size w w2) := B.out.trans ((B1.out.trans (b2.mono B1.out.size)).mono B.out.size)
        clear b2 CK x0 x1 x2 x3 B1
        rcases hu with ⟨hF, rfl⟩ | ⟨hF, rfl⟩
        · have G2 : Hid (∀ (i : Nat) o, i < q + 1 → ks[i]? = some o → ¬ Od.bad o) := fun i o hi ho => by
            by_cases e : i = q
            · subst e
              rw [HK.out] at ho
              obtain rfl := Option.some.inj ho
              intro hbad
              have := HF.out
              rw [Od.fault_bad hbad] at this
              omega
            · exact Gq.out i o (by omega) ho
          go_wp2
          go_round
          case rel => exact ⟨q + 1, by omega, by go_num, G2, B3⟩
          case measure => simp [intOf]; omega
        · have E : Hid (R = F ∧ F ≠ 0) := by
            have hbad : Od.bad k := by
              rcases Classical.em (Od.bad k) with h | h
              · exact h
              · exact absurd (HF.out.symm.trans (Od.fault_ok h)) hF
            refine ⟨?_, hF⟩
            rw [← HR.out, ← HF.out, Od.fault_bad hbad]
            unfold Od.faults
            rw [if_neg (by have := LE.out; omega), if_pos (List.any_eq_true.2 ⟨k, List.mem_of_getElem? HK.out, decide_eq_true hbad⟩)]
          clear hF
          go_wp2
          go_ret
          exact ⟨_, rfl, by rw [E.out.1]; exact Er.no E.out.2, B3⟩
set_option maxHeartbeats 1000000 in
theorem unitOf_any (o : OrV) (w : World) : Calls Tryd.prog 52 #[o.val] w fun e w' => e = .returned (.agg #[.int .i64 o.player, .int .i64 o.unit]) ∧ Below w.heap.size w w' := by
  unfold OrV.val
  go_enter Tryd.func52, Tryd.ntmps52
  go_wp2
  refine bodyPost_ret (v := .agg #[.int .i64 o.player, .int .i64 o.unit]) (by simp [results, Tryd.results52, go_sem]) rfl ⟨rfl, ?_⟩
  exact ((Below.refl _ _).alloc (Nat.le_refl _) _).alloc (by simp) _
def LoI (ks : List OrV) (w : World) (j : Value) (W' : World) : Prop := ∃ q : Nat, q ≤ ks.length ∧ j = .int .i64 (q : Nat) ∧ Um W' w.heap.size q (lf ks q) ∧ Below w.heap.size w W'
set_option maxRecDepth 100000 in
set_option maxHeartbeats 4000000 in
theorem lastOnes_any (v : Value) (ks : List OrV) (w : World) (h : Orl w v ks) (hl : ks.length ≤ 60) (hb : ∀ o ∈ ks, ¬ Od.bad o) :
    Calls Tryd.prog 51 #[v] w fun e w' => ∃ b n, e = .returned (.map (some b)) ∧ Um w' b n (lf ks ks.length) ∧ w.heap.size ≤ b ∧ Below w.heap.size w w' := by
  have K0 : Hid (Orl w v ks) := h
  have HB : Hid (∀ o ∈ ks, ¬ Od.bad o) := hb
  have LE : Hid (ks.length ≤ 60) := hl
  obtain ⟨a, c, rfl, c1, c2, -⟩ := h
  have hmm := @run_makeMap Tryd.prog
  clear hb
  go_enter Tryd.func51, Tryd.ntmps51
  go_wp2_with fail
  go_loopw [9] (fun j W' => LoI ks w j W') (fun j _ => ks.length - (intOf j).toNat)
  case atStart => exact ⟨0, Nat.zero_le _, rfl, um_made w, (Below.refl _ _).alloc (Nat.le_refl _) _⟩
  case round =>
    obtain ⟨q, hq, rfl, hg, hb⟩ := hrel
    have Gq : Hid (Um wr w.heap.size q (lf ks q)) := hg
    have B : Hid (Below w.heap.size w wr) := hb
    clear hg hb
    by_cases hql : q = ks.length
    · subst hql
      go_wp2
      go_ret
      exact ⟨_, _, rfl, Gq, Nat.le_refl _, B⟩
    · have hqk : q < ks.length := by omega
      obtain ⟨k, hk⟩ : ∃ k, ks[q]? = some k := ⟨_, List.getElem?_eq_getElem hqk⟩
      have HK : Hid (ks[q]? = some k) := hk
      have OK := Od.ok_of (HB.out k (List.mem_of_getElem? hk))
      have WF : Hid ((Lit.int .i64 k.player).wf = true ∧ (Lit.int .i64 k.unit).wf = true ∧ (Lit.int .i64 ((q : Nat) : Int)).wf = true) := ⟨wf64 (by omega) (by omega), wf64 (by omega) (by omega), wf64 (by omega) (by omega)⟩
      have K1 := K0.out.below B.out
      obtain ⟨a', c', e, -, -, h3⟩ := K1
      injection e with e1 e2 e3
      subst e1 e3
      obtain ⟨x, rfl, hx1, hx⟩ := h3 (by rintro rfl; simp at hqk)
      have Yc := hx q k hk
      clear hx h3 e2 hk OK
      obtain ⟨q0, q1, q2, q3⟩ := Yc
      go_upto_region 5 with fail
      have B1 : Hid (Below wr.heap.size wr (wr.alloc (Obj.cells #[.int .i64 k.player, .int .i64 k.unit, .int .i64 k.what, .int .i64 k.arg] 63))) := (Below.refl _ _).alloc (Nat.le_refl _) _
      have X1 := Orc.mk' (w := wr) k rfl
      clear q0 q1 q2 q3
      generalize wr.alloc (Obj.cells #[.int .i64 k.player, .int .i64 k.unit, .int .i64 k.what, .int .i64 k.arg] 63) = w1 at *
      have G1 : Hid (Um w1 w.heap.size q (lf ks q)) := Gq.out.below B1.out
      have B2 : Hid (Below w.heap.size w w1) := B.out.trans (B1.out.mono B.out.size)
      obtain ⟨x0, x1, x2, x3⟩ := X1
      simp only [Nat.zero_add] at x1 x2 x3
      by_cases h3 : k.what = 3
      · have NX : Hid (Um w1 w.heap.size (q + 1) (lf ks (q + 1))) := by unfold Hid; rw [lf_train HK.out h3]; exact G1.out.mono (by omega)
        go_wp2
        go_round
        case rel => exact ⟨q + 1, by omega, by go_num, NX, B2⟩
        case measure => simp [intOf]; omega
      · have h3b : (k.what == 3) = false := beq_eq_false_iff_ne.2 h3
        go_wp2_with fail
        refine Calls.mono (unitOf_any k w1) ?_
        rintro e w2 ⟨rfl, b2⟩
        have B3 : Hid (Below w.heap.size w w2) := B2.out.trans (b2.mono B2.out.size)
        have G2 : Hid (Um w2 w.heap.size q (lf ks q)) := G1.out.below b2
        obtain ⟨w3, r3, o3, g3⟩ := G2.out.put (by have := LE.out; unfold maxLen; omega) WF.out.1 WF.out.2.1 WF.out.2.2
        have NX : Hid (Um w3 w.heap.size (q + 1) (lf ks (q + 1))) := by unfold Hid; rw [lf_other HK.out h3]; exact o3
        have B4 : Hid (Below w.heap.size w w3) := B3.out.grown g3 B3.out.size (fun k hk => by cases hk; exact Nat.le_refl _)
        clear b2 o3 g3 x0 x1 x2 x3
        go_wp2
        go_round
        case rel => exact ⟨q + 1, by omega, by go_num, NX, B4⟩
        case measure => simp [intOf]; omega
end Go.Proofs.YtelbdcljdfadbaaDoor

namespace Go.Proofs.YtelbdcljdfadbaaDoor
open Go.RowKit
set_option linter.unusedVariables false

theorem oprt_next {ks : List OrV} {n : Nat} {k : OrV} (h : ks[n]? = some k) : Od.prt (ks.take (n + 1)) = Od.prt (ks.take n) ++ (Od.oline k ++ [10]) := by
  obtain ⟨hi, e⟩ := List.getElem?_eq_some_iff.1 h
  unfold Od.prt
  rw [List.take_succ_eq_append_getElem hi, List.flatMap_append, e]
  simp
theorem oprt_len {ks : List OrV} (hk : ∀ k ∈ ks, ¬ Od.bad k) : ∀ n, n ≤ ks.length → (Od.prt (ks.take n)).length ≤ 41 * n
  | 0, _ => by simp [Od.prt]
  | n + 1, h => by
    obtain ⟨k, e⟩ : ∃ k, ks[n]? = some k := ⟨_, List.getElem?_eq_getElem (by omega)⟩
    have ih := oprt_len hk n (by omega)
    have h2 := oline_len (hk k (List.mem_of_getElem? e))
    rw [oprt_next e]
    simp only [List.length_append, List.length_cons, List.length_nil]
    omega
def OprI (ks : List OrV) (w1 : World) (j : Value) (W' : World) : Prop := ∃ n : Nat, n ≤ ks.length ∧ j = .int .i64 (n : Nat) ∧ Lib.IsBuilder 110 5 w1.heap.size w1.heap.size (Lib.byteCells (Od.prt (ks.take n))) W' ∧ Below w1.heap.size w1 W'
set_option maxRecDepth 100000 in
set_option maxHeartbeats 4000000 in
theorem oprint_any (v : Value) (ks : List OrV) (w : World) (h : Orl w v ks) (hm : Nm w) (hw : Pw w) :
    Calls Tryd.prog 24 #[v] w fun e w' => ∃ (s : ByteArray) (u : Value), e = .returned (.tuple #[.string s, u]) ∧ Below w.heap.size w w' ∧ Er u (Od.faults ks) ∧
      ((Od.faults ks ≠ 0 ∧ s = ⟨#[]⟩) ∨ (Od.faults ks = 0 ∧ s = bytesOf (Od.prt ks))) := by
  have K0 : Hid (Orl w v ks) := h
  have P0 : Hid (Nm w ∧ Pw w) := ⟨hm, hw⟩
  have KS : Hid (Od.faults ks = 0 → ks.length ≤ 60 ∧ ∀ k ∈ ks, ¬ Od.bad k) := fun h => Od.faults_ok h
  have CA : Hid (Calls Tryd.prog 27 #[v] w fun e w' => ∃ u, e = .returned u ∧ Er u (Od.faults ks) ∧ Below w.heap.size w w') := ocheck_any v ks w h
  generalize Od.faults ks = R at *
  clear hm hw
  obtain ⟨a, c, rfl, c1, c2, -⟩ := h
  go_enter Tryd.func24, Tryd.ntmps24
  go_wp2_with fail
  refine CA.out.mono ?_
  rintro e w1 ⟨u, rfl, hu, b1⟩
  have B1 : Hid (Below w.heap.size w w1) := b1
  clear CA b1
  rcases hu with ⟨h0, rfl⟩ | ⟨h0, rfl⟩
  · have H0 : Hid (R = 0) := h0
    have KS' : Hid (ks.length ≤ 60 ∧ ∀ k ∈ ks, ¬ Od.bad k) := KS.out h0
    have h8 := KS'.out.1
    have PL : Hid (∀ n, n ≤ ks.length → (Od.prt (ks.take n)).length ≤ 41 * n) := oprt_len KS'.out.2
    clear h0 KS
    have I1 : Hid (Lib.IsBuilder 110 5 w1.heap.size w1.heap.size (Lib.byteCells (Od.prt (ks.take 0))) (w1.alloc (.cells #[.pointer none, .slice none 0 0] 110))) := Lib.fresh_isBuilder _ _ w1
    have B2 : Hid (Below w1.heap.size w1 (w1.alloc (.cells #[.pointer none, .slice none 0 0] 110))) := (Below.refl _ _).alloc (Nat.le_refl _) _
    go_wp2_with fail
    go_loopw [15] (fun j W' => OprI ks w1 j W') (fun j _ => ks.length - (intOf j).toNat)
    case atStart => exact ⟨0, Nat.zero_le _, rfl, I1, B2⟩
    case round =>
      obtain ⟨n, hn, rfl, hi, hb⟩ := hrel
      have I : Hid (Lib.IsBuilder 110 5 w1.heap.size w1.heap.size (Lib.byteCells (Od.prt (ks.take n))) wr) := hi
      have Bb : Hid (Below w1.heap.size w1 wr) := hb
      have B : Hid (Below w.heap.size w wr) := B1.out.trans (hb.mono B1.out.size)
      clear hi hb
      by_cases hne : n = ks.length
      · subst hne
        have ST := Tryd.Builder_String_any w1.heap.size w1.heap.size _ wr I.out Bb.out.size
        rw [List.take_of_length_le (Nat.le_refl _)] at ST
        have ST' : Hid (Calls Tryd.prog 57 #[.pointer (some ⟨w1.heap.size, 0, none⟩)] wr fun e w' => e = .returned (.string (bytesOf (Od.prt ks))) ∧ Below w1.heap.size wr w') := ST
        clear ST
        go_wp2_with fail
        refine ST'.out.mono ?_
        rintro e w4 ⟨rfl, b4⟩
        have B4 : Hid (Below w.heap.size w w4) := B.out.trans (b4.mono B1.out.size)
        clear b4 ST'
        go_wp2
        go_ret2
        exact ⟨_, _, rfl, B4, by rw [H0.out]; exact Er.nil, .inr ⟨H0, rfl⟩⟩
      · have hnl : n < ks.length := by omega
        have hnl' : (n : Int) < (ks.length : Int) := by omega
        obtain ⟨k, hk⟩ : ∃ k, ks[n]? = some k := ⟨_, List.getElem?_eq_getElem hnl⟩
        have PN : Hid (Od.prt (ks.take (n + 1)) = Od.prt (ks.take n) ++ (Od.oline k ++ [10])) := oprt_next hk
        have kb := KS'.out.2 k (List.mem_of_getElem? hk)
        have WA : Hid (∀ W, Nm W → Pw W → Calls Tryd.prog 56 #[k.val] W fun e w' => e = .returned (.string (bytesOf (Od.oline k ++ [10]))) ∧ Below W.heap.size W w') := fun W h1 h2 => owrite_any k W h1 h2 kb
        have LL : Hid ((Od.prt (ks.take n)).length + (bytesOf (Od.oline k ++ [10])).size ≤ 1000000) := by
          have h1 := PL.out n hn
          have h2 := oline_len kb
          have h3 : (bytesOf (Od.oline k ++ [10])).size = (Od.oline k).length + 1 := by show (Od.oline k ++ [10]).length = _; simp
          unfold Hid
          omega
        have Kk := K0.out.below B.out
        obtain ⟨a', c', e, -, -, hkx⟩ := Kk
        injection e with e1 e2 e3
        subst e1 e3
        obtain ⟨xk, rfl, hxk1, hxk⟩ := hkx (by rintro rfl; simp at hnl)
        have KC := hxk n k hk
        clear hkx hxk hk e2 kb hxk1
        generalize Od.oline k ++ [10] = kl at *
        unfold OrV.val at WA
        obtain ⟨k0, k1, k2, k3⟩ := KC
        go_upto_region 8 with fail
        have b3 : Below wr.heap.size wr (wr.alloc (Obj.cells #[.int .i64 k.player, .int .i64 k.unit, .int .i64 k.what, .int .i64 k.arg] 63)) := (Below.refl _ _).alloc (Nat.le_refl _) _
        have X3 := Orc.mk' (w := wr) k rfl
        clear k0 k1 k2 k3
        generalize wr.alloc (Obj.cells #[.int .i64 k.player, .int .i64 k.unit, .int .i64 k.what, .int .i64 k.arg] 63) = w3 at *
        have B3 : Hid (Below w.heap.size w w3) := B.out.trans (b3.mono B.out.size)
        have Bb3 : Hid (Below w1.heap.size w1 w3) := Bb.out.trans (b3.mono Bb.out.size)
        have I3 : Hid (Lib.IsBuilder 110 5 w1.heap.size w1.heap.size (Lib.byteCells (Od.prt (ks.take n))) w3) := isb_below I.out b3
        obtain ⟨x0, x1, x2, x3⟩ := X3
        simp only [Nat.zero_add] at x1 x2 x3
        clear b3
        go_wp2_with fail
        refine (WA.out _ (P0.out.1.below B3.out (Nat.le_refl _)) (P0.out.2.below B3.out)).mono ?_
        rintro e w4 ⟨rfl, b4⟩
        have I4 : Hid (Lib.IsBuilder 110 5 w1.heap.size w1.heap.size (Lib.byteCells (Od.prt (ks.take n))) w4) := isb_below I3.out b4
        have Bb4 : Hid (Below w1.heap.size w1 w4) := Bb3.out.trans (b4.mono Bb3.out.size)
        clear b4 x0 x1 x2 x3
        go_wp2_with fail
        refine (wstr_any _ _ _ _ _ I4.out LL.out Bb4.out.size).mono ?_
        rintro e w5 ⟨rfl, i5, b5⟩
        have I5 : Hid (Lib.IsBuilder 110 5 w1.heap.size w1.heap.size (Lib.byteCells (Od.prt (ks.take (n + 1)))) w5) := by
          unfold Hid
          rw [PN.out]
          exact i5
        have Bb5 : Hid (Below w1.heap.size w1 w5) := Bb4.out.trans b5
        clear b5 i5
        go_wp2
        go_round
        case rel => exact ⟨n + 1, by omega, by go_num, I5, Bb5⟩
        case measure => simp [intOf]; omega
  · have H0 : Hid (R ≠ 0) := h0
    clear h0
    go_wp2
    go_ret2
    exact ⟨_, _, rfl, B1, Er.no H0, .inl ⟨H0, rfl⟩⟩
end Go.Proofs.YtelbdcljdfadbaaDoor

namespace Go.Proofs.YtelbdcljdfadbaaDoor
open Go.RowKit
set_option linter.unusedVariables false
set_option linter.unusedSimpArgs false

theorem ba_cat2 (a b : ByteArray) : (a ++ b).data.toList = a.data.toList ++ b.data.toList := by simp
theorem oline0 (p u a : Nat) : Od.oline ⟨(p : Nat), (u : Nat), 0, (a : Nat)⟩ = Tx.dig p ++ (32 :: (Tx.dig u ++ (32 :: Od.nStop))) := by
  simp [Od.oline, Od.words, Tx.join, Od.name]
theorem oline1 (p u a : Nat) : Od.oline ⟨(p : Nat), (u : Nat), 1, (a : Nat)⟩ = Tx.dig p ++ (32 :: (Tx.dig u ++ (32 :: (Od.nMarch ++ (32 :: Tx.dig a))))) := by
  simp [Od.oline, Od.words, Tx.join, Od.name]
theorem oline2 (p u a : Nat) : Od.oline ⟨(p : Nat), (u : Nat), 2, (a : Nat)⟩ = Tx.dig p ++ (32 :: (Tx.dig u ++ (32 :: (Od.nGather ++ (32 :: Tx.dig a))))) := by
  simp [Od.oline, Od.words, Tx.join, Od.name]
theorem oline3 (p u a : Nat) : Od.oline ⟨(p : Nat), (u : Nat), 3, (a : Nat)⟩ = Tx.dig p ++ (32 :: (Tx.dig u ++ (32 :: (Od.nTrain ++ (32 :: Tx.dig a))))) := by
  simp [Od.oline, Od.words, Tx.join, Od.name]
def RpI (ks : List OrV) (w : World) (sv iv : Value) (W' : World) : Prop := ∃ (n : Nat) (S : ByteArray), n ≤ ks.length ∧ iv = .int .i64 (n : Nat) ∧ sv = .string S ∧ S.data.toList = Od.prt (ks.take n) ∧ Below w.heap.size w W'
set_option maxRecDepth 100000 in
set_option maxHeartbeats 8000000 in
theorem ref_oprint (v : Value) (ks : List OrV) (w : World) (h : Orl w v ks) (h0 : Od.faults ks = 0) :
    Calls Tryd.prog 28 #[v] w fun e w' => e = .returned (.string (bytesOf (Od.prt ks))) ∧ Below w.heap.size w w' := by
  have K0 : Hid (Orl w v ks) := h
  have KS : Hid (∀ k ∈ ks, ¬ Od.bad k) := (Od.faults_ok h0).2
  have h8 := (Od.faults_ok h0).1
  have PL : Hid (∀ n, n ≤ ks.length → (Od.prt (ks.take n)).length ≤ 41 * n) := oprt_len KS.out
  clear h0
  obtain ⟨a, c, rfl, c1, c2, -⟩ := h
  go_enter Tryd.func28, Tryd.ntmps28
  go_wp2_with fail
  go_loopw [3, 4] (fun sv iv W' => RpI ks w sv iv W') (fun _ i _ => ks.length - (intOf i).toNat)
  case atStart => exact ⟨0, ⟨#[]⟩, Nat.zero_le _, rfl, rfl, rfl, Below.refl _ _⟩
  case round =>
    obtain ⟨n, S, hn, rfl, rfl, hS, hb⟩ := hrel
    have HS : Hid (S.data.toList = Od.prt (ks.take n)) := hS
    have B : Hid (Below w.heap.size w wr) := hb
    have hs : S.size ≤ 2460 := by
      have h1 := PL.out n hn
      rw [← hS] at h1
      have h2 : S.data.toList.length = S.size := rfl
      omega
    clear hS hb
    by_cases hne : n = ks.length
    · subst hne
      go_wp2
      go_ret
      refine ⟨?_, B⟩
      have := HS.out
      rw [List.take_of_length_le (Nat.le_refl _)] at this
      have e : S = bytesOf (Od.prt ks) := WideShapes.bytes_inj (by rw [this]; rfl)
      rw [← e]
      rfl
    · have hnl : n < ks.length := by omega
      have hnl' : (n : Int) < (ks.length : Int) := by omega
      obtain ⟨k, hk⟩ : ∃ k, ks[n]? = some k := ⟨_, List.getElem?_eq_getElem hnl⟩
      have PN : Hid (Od.prt (ks.take (n + 1)) = Od.prt (ks.take n) ++ (Od.oline k ++ [10])) := oprt_next hk
      have OK := Od.ok_of (KS.out k (List.mem_of_getElem? hk))
      obtain ⟨a', c', e, -, -, hkx⟩ := K0.out.below B.out
      injection e with e1 e2 e3
      subst e1 e3
      obtain ⟨xk, rfl, hxk1, hxk⟩ := hkx (by rintro rfl; simp at hnl)
      have KC : Hid (∀ W, Below wr.heap.size wr W → Orc W (xk.add (n * 4)) k) := fun W hW => (hxk n k hk).below hW (by rw [add_block]; exact hxk1)
      clear hkx hxk hk e2 hxk1
      obtain ⟨p, hp⟩ : ∃ p : Nat, k.player = p := ⟨k.player.toNat, by omega⟩
      obtain ⟨u, hu⟩ : ∃ p : Nat, k.unit = p := ⟨k.unit.toNat, by omega⟩
      obtain ⟨r, hr⟩ : ∃ p : Nat, k.arg = p := ⟨k.arg.toNat, by omega⟩
      obtain ⟨op, ou, on, oa⟩ := k
      simp only at hp hu hr OK
      subst hp hu hr
      have D1 : Hid (∀ q : Nat, q ≤ 1000000 → ∀ W, Calls Tryd.prog 60 #[.int .i64 (q : Nat)] W fun e w' => e = .returned (.string (bytesOf (Tx.dig q))) ∧ Below W.heap.size W w') := fun q hq W => ref_digits q W (by omega)
      have dl : ∀ q : Nat, q ≤ 1000000 → (bytesOf (Tx.dig q)).size ≤ 7 := fun q hq => Tx.dig_len (by decide) (by show q < 10000000; omega)
      have d1 := dl p (by omega)
      have d2 := dl u (by omega)
      have d3 := dl r (by omega)
      have L1 : Hid ((bytesOf (Tx.dig p)).data.toList = Tx.dig p ∧ (bytesOf (Tx.dig u)).data.toList = Tx.dig u ∧ (bytesOf (Tx.dig r)).data.toList = Tx.dig r) := ⟨rfl, rfl, rfl⟩
      have C1 : Hid (Calls Tryd.prog 60 #[.int .i64 (p : Nat)] wr fun e w' => e = .returned (.string (bytesOf (Tx.dig p))) ∧ Below wr.heap.size wr w') := D1.out p (by omega) wr
      have C2 : Hid (∀ W, Calls Tryd.prog 60 #[.int .i64 (u : Nat)] W fun e w' => e = .returned (.string (bytesOf (Tx.dig u))) ∧ Below W.heap.size W w') := D1.out u (by omega)
      have C3 : Hid (∀ W, Calls Tryd.prog 60 #[.int .i64 (r : Nat)] W fun e w' => e = .returned (.string (bytesOf (Tx.dig r))) ∧ Below W.heap.size W w') := D1.out r (by omega)
      have WH : on = 0 ∨ on = 1 ∨ on = 2 ∨ on = 3 := by omega
      have O0 := oline0 p u r
      have O1 := oline1 p u r
      have O2 := oline2 p u r
      have O3 := oline3 p u r
      have OO : Hid (Od.oline ⟨(p : Nat), (u : Nat), 0, (r : Nat)⟩ = Tx.dig p ++ (32 :: (Tx.dig u ++ (32 :: Od.nStop))) ∧ Od.oline ⟨(p : Nat), (u : Nat), 1, (r : Nat)⟩ = Tx.dig p ++ (32 :: (Tx.dig u ++ (32 :: (Od.nMarch ++ (32 :: Tx.dig r))))) ∧ Od.oline ⟨(p : Nat), (u : Nat), 2, (r : Nat)⟩ = Tx.dig p ++ (32 :: (Tx.dig u ++ (32 :: (Od.nGather ++ (32 :: Tx.dig r))))) ∧ Od.oline ⟨(p : Nat), (u : Nat), 3, (r : Nat)⟩ = Tx.dig p ++ (32 :: (Tx.dig u ++ (32 :: (Od.nTrain ++ (32 :: Tx.dig r)))))) := ⟨O0, O1, O2, O3⟩
      clear O0 O1 O2 O3 OK dl D1
      generalize bytesOf (Tx.dig p) = dp at *
      generalize bytesOf (Tx.dig u) = du at *
      generalize bytesOf (Tx.dig r) = dr at *
      obtain ⟨k0, k1, k2, k3⟩ := KC.out wr (Below.refl _ _)
      simp only at k0 k1 k2 k3
      go_wp2_with fail
      refine C1.out.mono ?_
      rintro e w2 ⟨rfl, b2⟩
      have B2 : Hid (Below wr.heap.size wr w2) := b2
      clear k0 k1 k2 k3 b2
      obtain ⟨k0, k1, k2, k3⟩ := KC.out w2 B2.out
      simp only at k0 k1 k2 k3
      go_wp2_with fail
      refine (C2.out w2).mono ?_
      rintro e w3 ⟨rfl, b3⟩
      have B3 : Hid (Below wr.heap.size wr w3) := B2.out.trans (b3.mono B2.out.size)
      clear k0 k1 k2 k3 b3
      obtain ⟨k0, k1, k2, k3⟩ := KC.out w3 B3.out
      simp only at k0 k1 k2 k3
      go_wp2_with fail
      refine (C3.out w3).mono ?_
      rintro e w4 ⟨rfl, b4⟩
      have B4 : Hid (Below wr.heap.size wr w4) := B3.out.trans (b4.mono B3.out.size)
      have B5 : Hid (Below w.heap.size w w4) := B.out.trans (B4.out.mono B.out.size)
      clear k0 k1 k2 k3 b4
      obtain ⟨k0, k1, k2, k3⟩ := KC.out w4 B4.out
      simp only at k0 k1 k2 k3
      rcases WH with rfl | rfl | rfl | rfl
      · have FN : Hid (((((S ++ dp) ++ (⟨#[32]⟩ : ByteArray)) ++ du) ++ (⟨#[32, 115, 116, 111, 112, 10]⟩ : ByteArray)).data.toList = Od.prt (ks.take (n + 1))) := by
          unfold Hid
          rw [PN.out, OO.out.1, ← HS.out]
          simp only [ba_cat2, L1.out.1, L1.out.2.1, L1.out.2.2]
          simp [Od.nStop, Od.nMarch, Od.nGather, Od.nTrain]
        go_wp2
        go_round
        case rel => exact ⟨n + 1, _, by omega, by go_num, rfl, FN.out, B5.out⟩
        case measure => simp [intOf]; omega
      · have FN : Hid (((((((S ++ dp) ++ (⟨#[32]⟩ : ByteArray)) ++ du) ++ (⟨#[32, 109, 97, 114, 99, 104, 32]⟩ : ByteArray)) ++ dr) ++ (⟨#[10]⟩ : ByteArray)).data.toList = Od.prt (ks.take (n + 1))) := by
          unfold Hid
          rw [PN.out, OO.out.2.1, ← HS.out]
          simp only [ba_cat2, L1.out.1, L1.out.2.1, L1.out.2.2]
          simp [Od.nStop, Od.nMarch, Od.nGather, Od.nTrain]
        go_wp2
        go_round
        case rel => exact ⟨n + 1, _, by omega, by go_num, rfl, FN.out, B5.out⟩
        case measure => simp [intOf]; omega
      · have FN : Hid (((((((S ++ dp) ++ (⟨#[32]⟩ : ByteArray)) ++ du) ++ (⟨#[32, 103, 97, 116, 104, 101, 114, 32]⟩ : ByteArray)) ++ dr) ++ (⟨#[10]⟩ : ByteArray)).data.toList = Od.prt (ks.take (n + 1))) := by
          unfold Hid
          rw [PN.out, OO.out.2.2.1, ← HS.out]
          simp only [ba_cat2, L1.out.1, L1.out.2.1, L1.out.2.2]
          simp [Od.nStop, Od.nMarch, Od.nGather, Od.nTrain]
        go_wp2
        go_round
        case rel => exact ⟨n + 1, _, by omega, by go_num, rfl, FN.out, B5.out⟩
        case measure => simp [intOf]; omega
      · have FN : Hid (((((((S ++ dp) ++ (⟨#[32]⟩ : ByteArray)) ++ du) ++ (⟨#[32, 116, 114, 97, 105, 110, 32]⟩ : ByteArray)) ++ dr) ++ (⟨#[10]⟩ : ByteArray)).data.toList = Od.prt (ks.take (n + 1))) := by
          unfold Hid
          rw [PN.out, OO.out.2.2.2, ← HS.out]
          simp only [ba_cat2, L1.out.1, L1.out.2.1, L1.out.2.2]
          simp [Od.nStop, Od.nMarch, Od.nGather, Od.nTrain]
        go_wp2
        go_round
        case rel => exact ⟨n + 1, _, by omega, by go_num, rfl, FN.out, B5.out⟩
        case measure => simp [intOf]; omega
end Go.Proofs.YtelbdcljdfadbaaDoor

namespace Go.Proofs.YtelbdcljdfadbaaDoor
open Go.RowKit Go.Proofs.YtelbdcljdfadbaaDoor.So
set_option linter.unusedVariables false

theorem swap_far {α : Type} : ∀ (U V Z : List α) (x y : α), ((U ++ x :: (V ++ y :: Z)).set U.length y).set (U.length + 1 + V.length) x = U ++ y :: (V ++ x :: Z)
  | [], V, Z, x, y => by
    have : ∀ (V : List α), (V ++ y :: Z).set V.length x = V ++ x :: Z := fun V => by simp
    simp only [List.nil_append, List.length_nil, List.set_cons_zero, Nat.zero_add]
    rw [Nat.add_comm, List.set_cons_succ, this]
  | u :: U, V, Z, x, y => by
    have h := swap_far U V Z x y
    have e : (u :: U).length + 1 + V.length = (U.length + 1 + V.length) + 1 := by simp; omega
    rw [e]
    simp only [List.cons_append, List.length_cons, List.set_cons_succ]
    rw [h]
theorem at_far {α : Type} (U V Z : List α) (x y : α) : (U ++ x :: (V ++ y :: Z))[U.length]? = some x ∧ (U ++ x :: (V ++ y :: Z))[U.length + 1 + V.length]? = some y := by
  refine ⟨by simp, ?_⟩
  rw [List.getElem?_append_right (by omega)]
  have : U.length + 1 + V.length - U.length = V.length + 1 := by omega
  rw [this]
  simp
/-- between two rounds of swapRange's loop. -/
def SwI (P X M Y Q : List OrV) (g : Nat) (rest : List Value) (w : World) (n : Nat) (iv : Value) (W : World) : Prop := ∃ (X1 X2 Y1 Y2 : List OrV), iv = .int .i64 (X1.length : Nat) ∧ X1 ++ X2 = X ∧ Y1 ++ Y2 = Y ∧ X1.length = Y1.length ∧ X1.length ≤ n ∧ Rb W g (P ++ Y1 ++ (X2 ++ (M ++ X1) ++ (Y2 ++ Q))) rest ∧ Kp g w W
set_option maxRecDepth 100000 in
set_option maxHeartbeats 8000000 in
theorem swaps_any (P X M Y Q : List OrV) (fv : Value) (g cap L a b n : Nat) (rest : List Value) (w : World) (hr : Rb w g (P ++ X ++ M ++ Y ++ Q) rest) (hL : (P ++ X ++ M ++ Y ++ Q).length = L) (hn : L ≤ 1000) (hX : X.length = n) (hY : Y.length = n) (ha : P.length = a) (hb : (P ++ X ++ M).length = b) :
    Calls Tryd.prog 168 #[.slice (some ⟨g, 0, none⟩) L cap, .int .i64 (a : Nat), .int .i64 (b : Nat), .int .i64 (n : Nat), fv] w
      (fun e w' => e = .returned (.tuple #[]) ∧ Rb w' g (P ++ Y ++ M ++ X ++ Q) rest ∧ Kp g w w') := by
  have R0 : Hid (Rb w g (P ++ X ++ M ++ Y ++ Q) rest) := hr
  have HL : Hid ((P ++ X ++ M ++ Y ++ Q).length = L) := hL
  have HX : Hid (X.length = n) := hX
  have HY : Hid (Y.length = n) := hY
  have Ha : Hid (P.length = a) := ha
  have Hb : Hid (a + n + M.length = b) := by unfold Hid; rw [← hb, ← ha, ← hX]; simp; omega
  have HL2 : Hid (b + n ≤ L) := by unfold Hid; rw [← hL, ← hb, ← hY]; simp; omega
  clear hr hL hX hY ha hb
  have HA2 : Hid (a + n ≤ b) := by unfold Hid; have := Hb.out; omega
  go_enter Tryd.func168, Tryd.ntmps168
  go_wp2
  go_loopw [10] (fun iv W => SwI P X M Y Q g rest w n iv W) (fun iv _ => n - (intOf iv).toNat)
  case atStart =>
    refine ⟨[], X, [], Y, rfl, rfl, rfl, rfl, by simp, ?_, Kp.refl _ _⟩
    have := R0.out
    simpa using this
  case round =>
    obtain ⟨X1, X2, Y1, Y2, rfl, hx, hy, hxy, hle, hrb, hk⟩ := hrel
    have RB : Hid (Rb wr g (P ++ Y1 ++ (X2 ++ (M ++ X1) ++ (Y2 ++ Q))) rest) := hrb
    have K1 : Hid (Kp g w wr) := hk
    have H1 : Hid (X1 ++ X2 = X ∧ Y1 ++ Y2 = Y ∧ X1.length = Y1.length) := ⟨hx, hy, hxy⟩
    have l1 : X1.length + X2.length = n := by have := congrArg List.length hx; simp at this; rw [this]; exact HX.out
    have l2 : Y1.length + Y2.length = n := by have := congrArg List.length hy; simp at this; rw [this]; exact HY.out
    obtain ⟨i, hi⟩ : ∃ i, X1.length = i := ⟨_, rfl⟩
    have Hi : Hid (X1.length = i) := hi
    rw [hi] at l1 hxy hle
    rw [hi]
    clear hrb hk hx hy hi
    by_cases he : i = n
    · have hlt : ¬ ((i : Nat) : Int) < ((n : Nat) : Int) := by omega
      have FIN : Hid (Rb wr g (P ++ (Y ++ (M ++ (X ++ Q)))) rest) := by
        unfold Hid
        have e1 : X2 = [] := List.length_eq_zero_iff.1 (by omega)
        have e2 : Y2 = [] := List.length_eq_zero_iff.1 (by omega)
        obtain ⟨q1, q2, q3⟩ := H1.out
        have := RB.out
        rw [e1] at q1 this
        rw [e2] at q2 this
        simp only [List.append_nil] at q1 q2
        rw [q1, q2] at this
        simpa using this
      clear l1 l2 hxy he
      go_wp2
      go_end0
      exact ⟨rfl, FIN.out, K1.out⟩
    · have hlt : ((i : Nat) : Int) < ((n : Nat) : Int) := by omega
      obtain ⟨x, X3, hx3⟩ : ∃ x X3, X2 = x :: X3 := by
        cases X2 with
        | nil => simp at l1; omega
        | cons x X3 => exact ⟨x, X3, rfl⟩
      obtain ⟨y, Y3, hy3⟩ : ∃ y Y3, Y2 = y :: Y3 := by
        cases Y2 with
        | nil => simp at l2; omega
        | cons y Y3 => exact ⟨y, Y3, rfl⟩
      subst hx3 hy3
      have l3 : i + X3.length + 1 = n := by simp at l1; omega
      obtain ⟨p, hp⟩ : ∃ p, a + i = p := ⟨_, rfl⟩
      obtain ⟨r, hr⟩ : ∃ r, b + i = r := ⟨_, rfl⟩
      have hpr : p < r := by have := HA2.out; omega
      have hrL : r < L := by have := HL2.out; omega
      have ep : (P ++ Y1).length = p := by rw [← hp, List.length_append, Ha.out, hxy]
      have er : (P ++ Y1).length + 1 + (X3 ++ (M ++ X1)).length = r := by
        have h1 := Hb.out
        have h2 := Hi.out
        rw [ep]
        simp
        omega
      have EL : Hid (P ++ Y1 ++ (x :: X3 ++ (M ++ X1) ++ (y :: Y3 ++ Q)) = (P ++ Y1) ++ x :: ((X3 ++ (M ++ X1)) ++ y :: (Y3 ++ Q))) := by unfold Hid; simp
      have RC : Hid (Rb wr g ((P ++ Y1) ++ x :: ((X3 ++ (M ++ X1)) ++ y :: (Y3 ++ Q))) rest) := by unfold Hid; rw [← EL.out]; exact RB.out
      have AF := at_far (P ++ Y1) (X3 ++ (M ++ X1)) (Y3 ++ Q) x y
      rw [er, ep] at AF
      obtain ⟨x0, x1, x2, x3⟩ := RC.out.cells AF.1
      obtain ⟨y0, y1, y2, y3⟩ := RC.out.cells AF.2
      have SW := swap_far (P ++ Y1) (X3 ++ (M ++ X1)) (Y3 ++ Q) x y
      rw [er, ep] at SW
      have HSW : Hid (_ = _) := SW
      have f0 := RC.out.thaw (p * 4)
      have f1 := RC.out.thaw (p * 4 + 1)
      have f2 := RC.out.thaw (p * 4 + 2)
      have f3 := RC.out.thaw (p * 4 + 3)
      have f4 := RC.out.thaw (r * 4)
      have f5 := RC.out.thaw (r * 4 + 1)
      have f6 := RC.out.thaw (r * 4 + 2)
      have f7 := RC.out.thaw (r * 4 + 3)
      have sp : ((a : Nat) : Int) + (i : Int) = p := by omega
      have sr : ((b : Nat) : Int) + (i : Int) = r := by omega
      have pw : IntKind.i64.wrap ((p : Nat) : Int) = p := by rw [IntKind.wrap_i64]; omega
      have rw' : IntKind.i64.wrap ((r : Nat) : Int) = r := by rw [IntKind.wrap_i64]; omega
      have hpL : ((p : Nat) : Int) < (L : Int) := by omega
      have hrL' : ((r : Nat) : Int) < (L : Int) := by omega
      have n1 : ¬ p * 4 = r * 4 := by omega
      have LL : Hid (((P ++ Y1) ++ x :: ((X3 ++ (M ++ X1)) ++ y :: (Y3 ++ Q))).length = L) := by
        have h1 := HL.out
        have h2 := congrArg List.length H1.out.1
        have h3 := congrArg List.length H1.out.2.1
        unfold Hid
        simp at h1 h2 h3 ⊢
        omega
      have HP : Hid (p < r ∧ r < L) := ⟨hpr, hrL⟩
      have HM : Hid (i + 1 ≤ n ∧ i < n ∧ i = Y1.length) := ⟨by omega, by omega, hxy⟩
      clear SW AF EL ep er l1 l2 l3 hxy RB hp hr
      go_wp2_with fail
      go_region
      have rr := (RC.out.put (i := p) (by rw [LL.out]; have := HP.out; omega) y).put (i := r) (by rw [List.length_set, LL.out]; exact HP.out.2) x
      rw [HSW.out] at rr
      have RR : Hid (Rb _ g ((P ++ Y1) ++ y :: ((X3 ++ (M ++ X1)) ++ x :: (Y3 ++ Q))) rest) := rr
      have KR : Hid (Kp g w _) := (((((((K1.out.trans (Kp.set wr (p * 4) (.int .i64 y.player))).trans (Kp.set _ (p * 4 + 1) (.int .i64 y.unit))).trans (Kp.set _ (p * 4 + 2) (.int .i64 y.what))).trans (Kp.set _ (p * 4 + 3) (.int .i64 y.arg))).trans (Kp.set _ (r * 4) (.int .i64 x.player))).trans (Kp.set _ (r * 4 + 1) (.int .i64 x.unit))).trans (Kp.set _ (r * 4 + 2) (.int .i64 x.what))).trans (Kp.set _ (r * 4 + 3) (.int .i64 x.arg))
      clear rr
      go_wp2
      go_roundw
      case rel =>
        have h1 := H1.out
        have h2 := Hi.out
        have h3 := HM.out
        refine ⟨X1 ++ [x], X3, Y1 ++ [y], Y3, by simp [h2], by rw [← h1.1]; simp, by rw [← h1.2.1]; simp, by simp; omega, by simp; omega, ?_, KR.out.trans (Kp.of (Below.refl _ _).drew)⟩
        have h4 := RR.out.below (Below.refl _ _).drew RR.out.lt
        have e : P ++ (Y1 ++ [y]) ++ (X3 ++ (M ++ (X1 ++ [x])) ++ (Y3 ++ Q)) = (P ++ Y1) ++ y :: ((X3 ++ (M ++ X1)) ++ x :: (Y3 ++ Q)) := by simp
        rw [e]
        exact h4
      case measure => have := HM.out; simp [intOf]; omega
end Go.Proofs.YtelbdcljdfadbaaDoor

namespace Go.Proofs.YtelbdcljdfadbaaDoor
open Go.RowKit Go.Proofs.YtelbdcljdfadbaaDoor.So
set_option linter.unusedVariables false

/-- between two rounds of rotate's loop. -/
def RoI (P u v Q : List OrV) (g : Nat) (rest : List Value) (w : World) (iv jv : Value) (W : World) : Prop := ∃ (F u' v' E : List OrV), iv = .int .i64 (u'.length : Nat) ∧ jv = .int .i64 (v'.length : Nat) ∧ u' ≠ [] ∧ v' ≠ [] ∧ F ++ (v' ++ u') ++ E = v ++ u ∧ F.length + u'.length = u.length ∧ Rb W g (P ++ F ++ u' ++ v' ++ (E ++ Q)) rest ∧ Kp g w W
set_option maxRecDepth 100000 in
set_option maxHeartbeats 8000000 in
theorem rotate_any (P u v Q : List OrV) (fv : Value) (g cap L a m b : Nat) (rest : List Value) (w : World) (hr : Rb w g (P ++ u ++ v ++ Q) rest) (hL : (P ++ u ++ v ++ Q).length = L) (hn : L ≤ 1000) (hu : u ≠ []) (hv : v ≠ []) (ha : P.length = a) (hm : a + u.length = m) (hb : m + v.length = b) :
    Calls Tryd.prog 146 #[.slice (some ⟨g, 0, none⟩) L cap, .int .i64 (a : Nat), .int .i64 (m : Nat), .int .i64 (b : Nat), fv] w
      (fun e w' => e = .returned (.tuple #[]) ∧ Rb w' g (P ++ v ++ u ++ Q) rest ∧ Kp g w w') := by
  have R0 : Hid (Rb w g (P ++ u ++ v ++ Q) rest) := hr
  have HL : Hid (a + u.length + v.length + Q.length = L) := by unfold Hid; rw [← hL, ← ha]; simp; omega
  have Ha : Hid (P.length = a) := ha
  have Hm : Hid (a + u.length = m) := hm
  have Hb : Hid (m + v.length = b) := hb
  have Hne : Hid (u ≠ [] ∧ v ≠ []) := ⟨hu, hv⟩
  have hbL : b ≤ L := by have := HL.out; omega
  have smi : ((m : Nat) : Int) - (a : Int) = (u.length : Nat) := by omega
  have sbm : ((b : Nat) : Int) - (m : Int) = (v.length : Nat) := by omega
  have wmi : IntKind.i64.wrap ((u.length : Nat) : Int) = (u.length : Nat) := by rw [IntKind.wrap_i64]; omega
  have wbm : IntKind.i64.wrap ((v.length : Nat) : Int) = (v.length : Nat) := by rw [IntKind.wrap_i64]; omega
  clear hr hL hu hv ha hm hb
  go_enter Tryd.func146, Tryd.ntmps146
  go_wp2
  go_loopw [10, 11] (fun iv jv W => RoI P u v Q g rest w iv jv W) (fun iv jv _ => (intOf iv).toNat + (intOf jv).toNat)
  case atStart =>
    refine ⟨[], u, v, [], rfl, rfl, Hne.out.1, Hne.out.2, by simp, by simp, ?_, Kp.refl _ _⟩
    have := R0.out
    simpa using this
  case round =>
    obtain ⟨F, u', v', E, rfl, rfl, hu, hv, hF, hlen, hrb, hk⟩ := hrel
    have RB : Hid (Rb wr g (P ++ F ++ u' ++ v' ++ (E ++ Q)) rest) := hrb
    have K1 : Hid (Kp g w wr) := hk
    have HF : Hid (F ++ (v' ++ u') ++ E = v ++ u) := hF
    have HFl : Hid (F.length + u'.length = u.length) := hlen
    have hlF : F.length + v'.length + u'.length + E.length = v.length + u.length := by have := congrArg List.length hF; simp at this; omega
    obtain ⟨i, hi⟩ : ∃ i, u'.length = i := ⟨_, rfl⟩
    obtain ⟨j, hj⟩ : ∃ j, v'.length = j := ⟨_, rfl⟩
    have Hi : Hid (u'.length = i) := hi
    have Hj : Hid (v'.length = j) := hj
    have i1 : 1 ≤ i := by rw [← hi]; exact List.length_pos_iff.2 hu
    have j1 : 1 ≤ j := by rw [← hj]; exact List.length_pos_iff.2 hv
    obtain ⟨c, hc⟩ : ∃ c, a + F.length = c := ⟨_, rfl⟩
    have Hc : Hid ((P ++ F).length = c) := by unfold Hid; rw [← hc, List.length_append, Ha.out]
    have hci : c + i = m := by have := Hm.out; omega
    have hjb : m + j ≤ b := by have := Hm.out; have := Hb.out; omega
    have HLL : Hid ((P ++ F ++ u' ++ v' ++ (E ++ Q)).length = L) := by
      have h1 := HL.out
      have h2 := Ha.out
      unfold Hid
      simp
      omega
    rw [hi, hj]
    have smc : ((m : Nat) : Int) - (i : Int) = (c : Nat) := by omega
    have wc : IntKind.i64.wrap ((c : Nat) : Int) = (c : Nat) := by rw [IntKind.wrap_i64]; omega
    clear hrb hk hF hlen hlF hu hv hc smi sbm wmi wbm
    by_cases he : i = j
    · subst he
      have CL := swaps_any (P ++ F) u' [] v' (E ++ Q) fv g cap L c m i rest wr (by simpa using RB.out) (by simpa using HLL.out) hn Hi.out Hj.out Hc.out (by have := Hc.out; have := Hi.out; simp at *; omega)
      have hne : ¬ ((i : Nat) : Int) ≠ (i : Int) := by simp
      clear hi hj
      go_wp2_with fail
      refine Calls.mono CL ?_
      rintro e w1 ⟨rfl, hr1, hk1⟩
      have R1 : Hid (Rb w1 g (P ++ F ++ v' ++ [] ++ u' ++ (E ++ Q)) rest) := hr1
      have K2 : Hid (Kp g wr w1) := hk1
      clear hr1 hk1
      go_wp2
      go_end0
      refine ⟨rfl, ?_, K1.out.trans K2.out⟩
      have h := R1.out
      have e : P ++ F ++ v' ++ [] ++ u' ++ (E ++ Q) = P ++ (v ++ u) ++ Q := by rw [← HF.out]; simp
      rw [e] at h
      simpa using h
    · by_cases hgt : j < i
      · obtain ⟨x, y, hxy, hx⟩ : ∃ x y, u' = x ++ y ∧ x.length = j := ⟨u'.take j, u'.drop j, (List.take_append_drop _ _).symm, by rw [List.length_take]; omega⟩
        have hy : y.length = i - j := by have := congrArg List.length hxy; simp at this; omega
        subst hxy
        have CL := swaps_any (P ++ F) x y v' (E ++ Q) fv g cap L c m j rest wr (by simpa using RB.out) (by have := HLL.out; simp at this ⊢; omega) hn hx Hj.out Hc.out (by have := Hc.out; have := Hi.out; simp at *; omega)
        have HXY : Hid (x.length = j ∧ y.length = i - j) := ⟨hx, hy⟩
        have hne : ¬ ((i : Nat) : Int) = (j : Int) := by omega
        have hgi : ((j : Nat) : Int) < (i : Int) := by omega
        obtain ⟨d, hd⟩ : ∃ d, i - j = d := ⟨_, rfl⟩
        have Hd : Hid (1 ≤ d ∧ d + j = i ∧ y.length = d) := ⟨by omega, by omega, by omega⟩
        have sij : ((i : Nat) : Int) - (j : Int) = (d : Nat) := by omega
        have wd : IntKind.i64.wrap ((d : Nat) : Int) = (d : Nat) := by rw [IntKind.wrap_i64]; omega
        clear hi hj hx hy hd
        go_wp2_with fail
        refine Calls.mono CL ?_
        rintro e w1 ⟨rfl, hr1, hk1⟩
        have R1 : Hid (Rb w1 g (P ++ F ++ v' ++ y ++ x ++ (E ++ Q)) rest) := hr1
        have K2 : Hid (Kp g wr w1) := hk1
        clear hr1 hk1
        go_wp2
        go_roundw
        case rel =>
          obtain ⟨d1, d2, d3⟩ := Hd.out
          obtain ⟨e1, e2⟩ := HXY.out
          have e3 := Hj.out
          have e4 := HFl.out
          refine ⟨F ++ v', y, x, E, by rw [d3], by rw [e1], by intro h; rw [h] at d3; simp at d3; omega, by intro h; rw [h] at e1; simp at e1; omega, by rw [← HF.out]; simp, ?_, ?_, K1.out.trans K2.out⟩
          · simp at e4 ⊢; omega
          · have h := R1.out
            simpa using h
        case measure => have := Hd.out; simp [intOf]; omega
      · obtain ⟨x, y, hxy, hx⟩ : ∃ x y, v' = x ++ y ∧ x.length = j - i := ⟨v'.take (j - i), v'.drop (j - i), (List.take_append_drop _ _).symm, by rw [List.length_take]; omega⟩
        have hy : y.length = i := by have := congrArg List.length hxy; simp at this; omega
        subst hxy
        obtain ⟨d, hd⟩ : ∃ d, j - i = d := ⟨_, rfl⟩
        obtain ⟨t, ht⟩ : ∃ t, m + d = t := ⟨_, rfl⟩
        have CL := swaps_any (P ++ F) u' x y (E ++ Q) fv g cap L c t i rest wr (by simpa using RB.out) (by have := HLL.out; simp at this ⊢; omega) hn Hi.out hy Hc.out (by have := Hc.out; have := Hi.out; simp at *; omega)
        have HXY : Hid (x.length = d ∧ y.length = i) := ⟨by omega, hy⟩
        have hne : ¬ ((i : Nat) : Int) = (j : Int) := by omega
        have hgi : ¬ ((j : Nat) : Int) < (i : Int) := by omega
        have Hd : Hid (1 ≤ d ∧ d + i = j ∧ 1 ≤ i) := ⟨by omega, by omega, i1⟩
        obtain ⟨mj, hmj⟩ : ∃ mj, m + j = mj := ⟨_, rfl⟩
        have smj : ((m : Nat) : Int) + (j : Int) = (mj : Nat) := by omega
        have wmj : IntKind.i64.wrap ((mj : Nat) : Int) = (mj : Nat) := by rw [IntKind.wrap_i64]; omega
        have smt : ((mj : Nat) : Int) - (i : Int) = (t : Nat) := by omega
        have wt : IntKind.i64.wrap ((t : Nat) : Int) = (t : Nat) := by rw [IntKind.wrap_i64]; omega
        have sij : ((j : Nat) : Int) - (i : Int) = (d : Nat) := by omega
        have wd : IntKind.i64.wrap ((d : Nat) : Int) = (d : Nat) := by rw [IntKind.wrap_i64]; omega
        clear hi hj hx hy hd ht hmj
        go_wp2_with fail
        refine Calls.mono CL ?_
        rintro e w1 ⟨rfl, hr1, hk1⟩
        have R1 : Hid (Rb w1 g (P ++ F ++ y ++ x ++ u' ++ (E ++ Q)) rest) := hr1
        have K2 : Hid (Kp g wr w1) := hk1
        clear hr1 hk1
        go_wp2
        go_roundw
        case rel =>
          obtain ⟨d1, d2, d3⟩ := Hd.out
          obtain ⟨e1, e2⟩ := HXY.out
          have e3 := Hi.out
          have e4 := HFl.out
          refine ⟨F, y, x, u' ++ E, by rw [e2], by rw [e1], by intro h; rw [h] at e2; simp at e2; omega, by intro h; rw [h] at e1; simp at e1; omega, by rw [← HF.out]; simp, ?_, ?_, K1.out.trans K2.out⟩
          · omega
          · have h := R1.out
            simpa using h
        case measure => have := Hd.out; simp [intOf]; omega
end Go.Proofs.YtelbdcljdfadbaaDoor

