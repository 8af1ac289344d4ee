/- The program's kinds: a line that is read. -/
import Derived.Test.YtkceccajamdbjaaDoorRdC
import Derived.Test.YtkceccajamdbjaaDoorRgC
import Derived.Test.YtkceccajamdbjaaDoorKbA
import Derived.Test.YtkceccajamdbjaaDoorKpM
import Derived.Test.YtkceccajamdbjaaDoorEndA
import Derived.BigRegion
import Derived.Laws.ResultCell
namespace Go.Proofs.YtkceccajamdbjaaDoor
open Go.RowKit
set_option linter.unusedVariables false

theorem list11b {R : List ByteArray} (h : R.length = 11) : ∃ a0 a1 a2 a3 a4 a5 a6 a7 a8 a9 a10, R = [a0, a1, a2, a3, a4, a5, a6, a7, a8, a9, a10] := by
  match R, h with
  | [a0, a1, a2, a3, a4, a5, a6, a7, a8, a9, a10], _ => exact ⟨a0, a1, a2, a3, a4, a5, a6, a7, a8, a9, a10, rfl⟩
theorem head_step {P : Program} {ops : Array Oper} {C : World → Prop} {Q : Act → Prop} {o : Oper} {rest : List Oper} {a : Act} (v : Value) (hw : Region.wanted o (yielded ops a.tmps) = true) (hr : ∀ W, C W → (execOp a.eval o).run P W = .ok (.value v) W) (h : wpHead P ops C Q rest (a.put o.dst v)) : wpHead P ops C Q (o :: rest) a :=
  ⟨v, .inl ⟨hw, fun W hW => .inl (hr W hW)⟩, h⟩
theorem head_call {P : Program} {ops : Array Oper} {C : World → Prop} {Q : Act → Prop} {o : Oper} {rest : List Oper} {a : Act} (v : Value) (f : FuncId) (args : Array Value) (hw : Region.wanted o (yielded ops a.tmps) = true) (hr : ∀ W, C W → (execOp a.eval o).run P W = .ok (.enter f args) W)
    (hc : ∀ W, C W → Calls P f args W (fun e w' => e = .returned v ∧ C w')) (h : wpHead P ops C Q rest (a.put o.dst v)) : wpHead P ops C Q (o :: rest) a :=
  ⟨v, .inl ⟨hw, fun W hW => .inr (.inr ⟨f, args, hr W hW, hc W hW⟩)⟩, h⟩

def KreadSays (l : List UInt8) (w : World) (e : Ending) (w' : World) : Prop := ∃ (k : KV) (ok : Bool), e = .returned (.tuple #[k.val, .bool ok]) ∧ ((ok = true ∧ Kd.ofLine l = some k.k ∧ k.b.size ≤ l.length) ∨ (ok = false ∧ Kd.ofLine l = none)) ∧ Below w.heap.size w w'
theorem mark_is {c : UInt8} {a : ByteArray} (h : (Kd.unflag c a.data.toList).isSome = true) : Kd.unflag c a.data.toList = some (a.toList == [c]) := by
  rw [ByteArray.toList_eq]
  unfold Kd.unflag at *
  by_cases h1 : a.data.toList = [c]
  · rw [if_pos h1, h1]; simp
  · rw [if_neg h1] at h ⊢
    by_cases h2 : a.data.toList = [45]
    · rw [if_pos h2, beq_eq_false_iff_ne.2 h1]
    · rw [if_neg h2] at h; cases h

set_option maxRecDepth 100000 in
set_option maxHeartbeats 16000000 in
theorem kread_any (s : ByteArray) (w : World) (hsx : s.size ≤ 281474976710656) (hp : Pw w) (hy : Sy w) :
    Calls Tryd.prog 43 #[.string s] w (KreadSays s.data.toList w) := by
  have P0 : Hid (Pw w ∧ Sy w) := ⟨hp, hy⟩
  obtain ⟨t, eb, ⟨hts, hend⟩, CS⟩ := cutend_any s (by omega)
  have CS' : Hid (∀ w : World, Calls Tryd.prog 60 #[.string s, .string ⟨#[10]⟩] w fun e w' => e = .returned (.tuple #[.string t, .bool eb]) ∧ w' = w) := CS
  have B0 : Hid (Below w.heap.size w (w.alloc (Obj.cells #[.string ⟨#[]⟩, .int .i64 0, .int .i64 0, .int .i64 0, .int .i64 0, .int .i64 0, .int .i64 0, .int .i64 0, .int .i64 0, .bool false, .bool false] 28))) := (Below.refl _ _).alloc (Nat.le_refl _) _
  have Z0 : Hid (Kb (w.alloc (Obj.cells #[.string ⟨#[]⟩, .int .i64 0, .int .i64 0, .int .i64 0, .int .i64 0, .int .i64 0, .int .i64 0, .int .i64 0, .int .i64 0, .bool false, .bool false] 28)) w.heap.size ⟨⟨#[]⟩, 0, 0, 0, 0, 0, 0, 0, 0, false, false⟩) := Kb.mk' w ⟨⟨#[]⟩, 0, 0, 0, 0, 0, 0, 0, 0, false, false⟩
  clear hp hy CS
  go_enter Tryd.func43, Tryd.ntmps43
  go_wp2_with fail
  refine (CS'.out _).mono ?_
  rintro e w' ⟨rfl, hw⟩
  obtain rfl := hw.symm
  clear CS'
  go_wp2_with fail
  generalize hw1 : w.alloc (Obj.cells #[.string ⟨#[]⟩, .int .i64 0, .int .i64 0, .int .i64 0, .int .i64 0, .int .i64 0, .int .i64 0, .int .i64 0, .int .i64 0, .bool false, .bool false] 28) = w1 at *
  have Hz : Hid (w1.heap.size = w.heap.size + 1) := by unfold Hid; rw [← hw1]; simp
  clear hw1
  refine (splitn_any t _ (by omega)).mono ?_
  rintro e w2 ⟨R, N, rfl, r1, r2, r3, r4, r5, r6, r8, b2⟩
  have B2 : Hid (Below w.heap.size w w2) := B0.out.trans (b2.mono B0.out.size)
  have Z2 : Hid (Kb w2 w.heap.size ⟨⟨#[]⟩, 0, 0, 0, 0, 0, 0, 0, 0, false, false⟩) := Z0.out.below b2 Z0.out.lt
  have R5 : Hid (∀ (j : Nat) x, R[j]? = some x → w2.cell? ⟨w1.heap.size, j, none⟩ = some (.string x)) := r5
  have R6 : Hid (∀ x ∈ R, x.size ≤ t.size) := r6
  have C12 : Hid (Cut12 t.data.toList R) := r4
  clear r4 r5 r6 r8 b2 B0 Z0
  rcases hend with ⟨rfl, he⟩ | ⟨rfl, he⟩
  · have HE : Hid (Kd.ofLine s.data.toList = match Kd.kwords (Tx.cut 32 t.data.toList) with
        | some k => if k.name = [] then none else some k
        | none => none) := by unfold Hid Kd.ofLine; rw [he, if_pos (by simp), List.dropLast_concat]; cases Kd.kwords (Tx.cut 32 t.data.toList) <;> rfl
    clear he
    by_cases h11 : R.length = 11
    · have CC : Hid (R.map (·.data.toList) = Tx.cut 32 t.data.toList) := by
        rcases C12.out with h | ⟨h, h'⟩
        · exact h
        · omega
      obtain ⟨a0, a1, a2, a3, a4, a5, a6, a7, a8, a9, a10, rfl⟩ := list11b h11
      have c0 : w2.cell? ⟨w1.heap.size, 0, none⟩ = some (.string a0) := R5.out 0 _ rfl
      have hN : 11 ≤ N := by simpa using r2
      have hB1 : w1.heap.size < w2.heap.size := cell_lt c0
      have S0 : Hid (∀ x ∈ [a0, a1, a2, a3, a4, a5, a6, a7, a8, a9, a10], x.size ≤ 281474976710656) := fun x hx => by have := R6.out x hx; omega
      have S00 : Hid (a0.size ≤ s.data.toList.length) := by
        have h1 := R6.out a0 (by simp)
        have h2 : s.data.toList.length = s.size := rfl
        unfold Hid
        omega
      simp only [List.length_cons, List.length_nil, Nat.zero_add, Nat.reduceAdd]
      clear r1 r2 h11 C12
      generalize w1.heap.size = b1 at *
      by_cases hne : a0.data.toList = []
      · have ha0 : a0.toList.isEmpty = true := by rw [ByteArray.toList_eq, hne]; rfl
        have NO : Hid (Kd.ofLine s.data.toList = none) := by
          unfold Hid
          rw [HE.out, ← CC.out]
          simp only [List.map_cons, List.map_nil]
          unfold Kd.kwords
          rw [if_pos (by rfl)]
          split
          · rename_i k hk
            split at hk
            · injection hk with hk
              subst hk
              simp [hne]
            · cases hk
          · rfl
        clear hne
        have z9 := Z2.out.put ⟨⟨#[]⟩, 0, 0, 0, 0, 0, 0, 0, 0, false, false⟩
        have B9 : Hid (Below w.heap.size w (kset w2 w.heap.size ⟨⟨#[]⟩, 0, 0, 0, 0, 0, 0, 0, 0, false, false⟩)) := kset_below ⟨⟨#[]⟩, 0, 0, 0, 0, 0, 0, 0, 0, false, false⟩ B2.out (Nat.le_refl _)
        obtain ⟨y0, y1, y2, y3, y4, y5, y6, y7, y8, y9, y10⟩ := Z2.out.cells
        have f0 := Z2.out.thaw 0
        have f1 := Z2.out.thaw 1
        have f2 := Z2.out.thaw 2
        have f3 := Z2.out.thaw 3
        have f4 := Z2.out.thaw 4
        have f5 := Z2.out.thaw 5
        have f6 := Z2.out.thaw 6
        have f7 := Z2.out.thaw 7
        have f8 := Z2.out.thaw 8
        have f9 := Z2.out.thaw 9
        have f10 := Z2.out.thaw 10
        simp only at y0 y1 y2 y3 y4 y5 y6 y7 y8 y9 y10
        go_wp2
        unfold kset at z9 B9
        simp only at z9 B9
        generalize (((((((((((w2.setCell ⟨w.heap.size, 0, none⟩ (.string ⟨#[]⟩)).setCell ⟨w.heap.size, 1, none⟩ (.int .i64 0)).setCell ⟨w.heap.size, 2, none⟩ (.int .i64 0)).setCell ⟨w.heap.size, 3, none⟩ (.int .i64 0)).setCell ⟨w.heap.size, 4, none⟩ (.int .i64 0)).setCell ⟨w.heap.size, 5, none⟩ (.int .i64 0)).setCell ⟨w.heap.size, 6, none⟩ (.int .i64 0)).setCell ⟨w.heap.size, 7, none⟩ (.int .i64 0)).setCell ⟨w.heap.size, 8, none⟩ (.int .i64 0)).setCell ⟨w.heap.size, 9, none⟩ (.bool false)).setCell ⟨w.heap.size, 10, none⟩ (.bool false)) = w9 at *
        clear y0 y1 y2 y3 y4 y5 y6 y7 y8 y9 y10 f0 f1 f2 f3 f4 f5 f6 f7 f8 f9 f10
        obtain ⟨x0, x1, x2, x3, x4, x5, x6, x7, x8, x9, x10⟩ := z9.cells
        refine bodyPost_ret (v := .tuple #[KV.val ⟨⟨#[]⟩, 0, 0, 0, 0, 0, 0, 0, 0, false, false⟩, .bool false]) (by simp [results, Tryd.results43, go_sem, x0, x1, x2, x3, x4, x5, x6, x7, x8, x9, x10, KV.val]) rfl ?_
        exact ⟨⟨⟨#[]⟩, 0, 0, 0, 0, 0, 0, 0, 0, false, false⟩, false, rfl, .inr ⟨rfl, NO.out⟩, B9⟩
      · have ha0 : a0.toList.isEmpty = false := by
          rw [ByteArray.toList_eq]
          cases h : a0.data.toList with
          | nil => exact absurd h hne
          | cons x r => rfl
        have NE : Hid (a0.data.toList ≠ []) := hne
        clear hne
        have RN := rnums_any b1 1 (N - 1) [a1, a2, a3, a4, a5, a6, a7, a8] w2 rfl (by omega) (by omega) hB1 (fun j x hj => by
          have hj8 : j < 8 := (List.getElem?_eq_some_iff.1 hj).1
          refine R5.out (1 + j) x ?_
          rw [Nat.add_comm 1 j, List.getElem?_cons_succ]
          rw [show [a1, a2, a3, a4, a5, a6, a7, a8, a9, a10] = [a1, a2, a3, a4, a5, a6, a7, a8] ++ [a9, a10] from rfl, List.getElem?_append_left (by simpa using hj8)]
          exact hj) (fun x hx => by
          have := S0.out x (List.mem_cons_of_mem _ (by
            rw [show [a1, a2, a3, a4, a5, a6, a7, a8, a9, a10] = [a1, a2, a3, a4, a5, a6, a7, a8] ++ [a9, a10] from rfl]
            exact List.mem_append_left _ hx))
          omega) (P0.out.1.below B2.out) (P0.out.2.below B2.out)
        have RN' : Hid (Calls Tryd.prog 62 #[.slice (some ⟨b1, 1, none⟩) 8 (N - 1)] w2 (RnumsSays ([a1, a2, a3, a4, a5, a6, a7, a8].map (·.data.toList)) w2)) := RN
        clear RN
        go_wp2_with fail
        refine RN'.out.mono ?_
        rintro e w3 ⟨ns, b, rfl, hl, hb, b3⟩
        obtain ⟨d0, d1, d2, d3, d4, d5, d6, d7, rfl⟩ := len8 hl
        have C3 : ∀ (j : Nat) x, [a0, a1, a2, a3, a4, a5, a6, a7, a8, a9, a10][j]? = some x → w3.cell? ⟨b1, j, none⟩ = some (.string x) := fun j x hj => by rw [b3.cell (p := ⟨b1, j, none⟩) hB1]; exact R5.out j x hj
        have Z3 : Hid (Kb w3 w.heap.size ⟨⟨#[]⟩, 0, 0, 0, 0, 0, 0, 0, 0, false, false⟩) := Z2.out.below b3 Z2.out.lt
        have B3 : Hid (Below w.heap.size w w3) := B2.out.trans (b3.mono B2.out.size)
        have e9 : w3.cell? ⟨b1, 9, none⟩ = some (.string a9) := C3 9 _ rfl
        have e10 : w3.cell? ⟨b1, 10, none⟩ = some (.string a10) := C3 10 _ rfl
        have e0 : w3.cell? ⟨b1, 0, none⟩ = some (.string a0) := C3 0 _ rfl
        have hbl : b1 < w3.heap.size := Nat.lt_of_lt_of_le hB1 b3.size
        have HB : Hid ((b = true ∧ Kd.wholes ([a1, a2, a3, a4, a5, a6, a7, a8].map (·.data.toList)) = some [d0, d1, d2, d3, d4, d5, d6, d7]) ∨ (b = false ∧ Kd.wholes ([a1, a2, a3, a4, a5, a6, a7, a8].map (·.data.toList)) = none)) := hb
        clear C3 b3 RN' hl c0 hb B2 Z2 R5
        simp only [intCells, List.map_cons, List.map_nil]
        have B4 : Hid (Below w3.heap.size w3 (w3.alloc (Obj.cells #[.int .i64 d0, .int .i64 d1, .int .i64 d2, .int .i64 d3, .int .i64 d4, .int .i64 d5, .int .i64 d6, .int .i64 d7] 92))) := (Below.refl _ _).alloc (Nat.le_refl _) _
        have A4 : Hid (Ar (w3.alloc (Obj.cells #[.int .i64 d0, .int .i64 d1, .int .i64 d2, .int .i64 d3, .int .i64 d4, .int .i64 d5, .int .i64 d6, .int .i64 d7] 92)) w3.heap.size [d0, d1, d2, d3, d4, d5, d6, d7]) := by
          unfold Hid Ar
          rw [heap_alloc_new]
          rfl
        go_upto_region 6 with fail
        generalize w3.alloc (Obj.cells #[.int .i64 d0, .int .i64 d1, .int .i64 d2, .int .i64 d3, .int .i64 d4, .int .i64 d5, .int .i64 d6, .int .i64 d7] 92) = w4 at *
        have u9 : w4.cell? ⟨b1, 9, none⟩ = some (.string a9) := by rw [B4.out.cell (p := ⟨b1, 9, none⟩) hbl]; exact e9
        have u10 : w4.cell? ⟨b1, 10, none⟩ = some (.string a10) := by rw [B4.out.cell (p := ⟨b1, 10, none⟩) hbl]; exact e10
        have u0 : w4.cell? ⟨b1, 0, none⟩ = some (.string a0) := by rw [B4.out.cell (p := ⟨b1, 0, none⟩) hbl]; exact e0
        have Z4 : Hid (Kb w4 w.heap.size ⟨⟨#[]⟩, 0, 0, 0, 0, 0, 0, 0, 0, false, false⟩) := Z3.out.below B4.out Z3.out.lt
        have B5 : Hid (Below w.heap.size w w4) := B3.out.trans (B4.out.mono B3.out.size)
        clear e9 e10 e0 Z3 B3
        go_quiet (fail)
        have Z5 : Hid (Kb (w4.drewN nq) w.heap.size ⟨⟨#[]⟩, 0, 0, 0, 0, 0, 0, 0, 0, false, false⟩) := Z4.out
        have B6 : Hid (Below w.heap.size w (w4.drewN nq)) := ⟨B5.out.os, B5.out.tape, B5.out.output, B5.out.size, B5.out.block⟩
        have A5 : Hid (Ar (w4.drewN nq) w3.heap.size [d0, d1, d2, d3, d4, d5, d6, d7]) := A4.out
        have U0 : Hid ((w4.drewN nq).cell? ⟨b1, 0, none⟩ = some (.string a0)) := u0
        have hb5 : b1 < (w4.drewN nq).heap.size := cell_lt u0
        have KW : Hid (Kd.kwords (Tx.cut 32 t.data.toList) = match Kd.wholes ([a1, a2, a3, a4, a5, a6, a7, a8].map (·.data.toList)), Kd.unflag 102 a9.data.toList, Kd.unflag 116 a10.data.toList with
            | some ns, some f, some t => some ⟨a0.data.toList, ns, f, t⟩
            | _, _, _ => none) := by
          unfold Hid
          rw [← CC.out]
          unfold Kd.kwords
          rw [if_pos (by rfl)]
          rfl
        clear u0 u9 u10 Z4 B5 A4 B4
        rcases HB.out with ⟨rfl, hwh⟩ | ⟨rfl, hwh⟩
        · have HW : Hid (Kd.wholes ([a1, a2, a3, a4, a5, a6, a7, a8].map (·.data.toList)) = some [d0, d1, d2, d3, d4, d5, d6, d7]) := hwh
          clear hwh HB
          cases h9 : (Kd.unflag 102 a9.data.toList).isSome with
          | false =>
            have M9 : Hid (∀ w, Calls Tryd.prog 63 #[.string a9, .string ⟨#[102]⟩] w fun e w' => e = .returned (.bool false) ∧ w' = w) := fun w => by rw [← h9]; exact isMark_any a9 102 w
            have NO : Hid (Kd.ofLine s.data.toList = none) := by
              unfold Hid
              have h2 : Kd.unflag 102 a9.data.toList = none := by simpa using h9
              rw [HE.out, KW.out, HW.out, h2]
            clear h9
            go_wp2_with fail
            refine (M9.out _).mono ?_
            rintro e w' ⟨rfl, hw⟩
            obtain rfl := hw.symm
            clear M9
            generalize w4.drewN nq = w5 at *
            have z9 := Z5.out.put ⟨⟨#[]⟩, 0, 0, 0, 0, 0, 0, 0, 0, false, false⟩
            have B9 : Hid (Below w.heap.size w (kset w5 w.heap.size ⟨⟨#[]⟩, 0, 0, 0, 0, 0, 0, 0, 0, false, false⟩)) := kset_below ⟨⟨#[]⟩, 0, 0, 0, 0, 0, 0, 0, 0, false, false⟩ B6.out (Nat.le_refl _)
            obtain ⟨y0, y1, y2, y3, y4, y5, y6, y7, y8, y9, y10⟩ := Z5.out.cells
            have f0 := Z5.out.thaw 0
            have f1 := Z5.out.thaw 1
            have f2 := Z5.out.thaw 2
            have f3 := Z5.out.thaw 3
            have f4 := Z5.out.thaw 4
            have f5 := Z5.out.thaw 5
            have f6 := Z5.out.thaw 6
            have f7 := Z5.out.thaw 7
            have f8 := Z5.out.thaw 8
            have f9 := Z5.out.thaw 9
            have f10 := Z5.out.thaw 10
            simp only at y0 y1 y2 y3 y4 y5 y6 y7 y8 y9 y10
            go_wp2
            unfold kset at z9 B9
            simp only at z9 B9
            generalize (((((((((((w5.setCell ⟨w.heap.size, 0, none⟩ (.string ⟨#[]⟩)).setCell ⟨w.heap.size, 1, none⟩ (.int .i64 0)).setCell ⟨w.heap.size, 2, none⟩ (.int .i64 0)).setCell ⟨w.heap.size, 3, none⟩ (.int .i64 0)).setCell ⟨w.heap.size, 4, none⟩ (.int .i64 0)).setCell ⟨w.heap.size, 5, none⟩ (.int .i64 0)).setCell ⟨w.heap.size, 6, none⟩ (.int .i64 0)).setCell ⟨w.heap.size, 7, none⟩ (.int .i64 0)).setCell ⟨w.heap.size, 8, none⟩ (.int .i64 0)).setCell ⟨w.heap.size, 9, none⟩ (.bool false)).setCell ⟨w.heap.size, 10, none⟩ (.bool false)) = w9 at *
            clear y0 y1 y2 y3 y4 y5 y6 y7 y8 y9 y10 f0 f1 f2 f3 f4 f5 f6 f7 f8 f9 f10
            obtain ⟨x0, x1, x2, x3, x4, x5, x6, x7, x8, x9, x10⟩ := z9.cells
            refine bodyPost_ret (v := .tuple #[KV.val ⟨⟨#[]⟩, 0, 0, 0, 0, 0, 0, 0, 0, false, false⟩, .bool false]) (by simp [results, Tryd.results43, go_sem, x0, x1, x2, x3, x4, x5, x6, x7, x8, x9, x10, KV.val]) rfl ?_
            exact ⟨⟨⟨#[]⟩, 0, 0, 0, 0, 0, 0, 0, 0, false, false⟩, false, rfl, .inr ⟨rfl, NO.out⟩, B9⟩
          | true =>
            have M9 : Hid (∀ w, Calls Tryd.prog 63 #[.string a9, .string ⟨#[102]⟩] w fun e w' => e = .returned (.bool true) ∧ w' = w) := fun w => by rw [← h9]; exact isMark_any a9 102 w
            have F9 : Hid (Kd.unflag 102 a9.data.toList = some (a9.toList == [102])) := mark_is h9
            clear h9
            cases h10 : (Kd.unflag 116 a10.data.toList).isSome with
            | false =>
              have M10 : Hid (∀ w, Calls Tryd.prog 63 #[.string a10, .string ⟨#[116]⟩] w fun e w' => e = .returned (.bool false) ∧ w' = w) := fun w => by rw [← h10]; exact isMark_any a10 116 w
              have NO : Hid (Kd.ofLine s.data.toList = none) := by
                unfold Hid
                have h2 : Kd.unflag 116 a10.data.toList = none := by simpa using h10
                rw [HE.out, KW.out, HW.out, F9.out, h2]
              clear h10
              go_wp2_with fail
              refine (M9.out _).mono ?_
              rintro e w' ⟨rfl, hw⟩
              obtain rfl := hw.symm
              go_wp2_with fail
              refine (M10.out _).mono ?_
              rintro e w' ⟨rfl, hw⟩
              obtain rfl := hw.symm
              clear M9 M10
              generalize w4.drewN nq = w5 at *
              have z9 := Z5.out.put ⟨⟨#[]⟩, 0, 0, 0, 0, 0, 0, 0, 0, false, false⟩
              have B9 : Hid (Below w.heap.size w (kset w5 w.heap.size ⟨⟨#[]⟩, 0, 0, 0, 0, 0, 0, 0, 0, false, false⟩)) := kset_below ⟨⟨#[]⟩, 0, 0, 0, 0, 0, 0, 0, 0, false, false⟩ B6.out (Nat.le_refl _)
              obtain ⟨y0, y1, y2, y3, y4, y5, y6, y7, y8, y9, y10⟩ := Z5.out.cells
              have f0 := Z5.out.thaw 0
              have f1 := Z5.out.thaw 1
              have f2 := Z5.out.thaw 2
              have f3 := Z5.out.thaw 3
              have f4 := Z5.out.thaw 4
              have f5 := Z5.out.thaw 5
              have f6 := Z5.out.thaw 6
              have f7 := Z5.out.thaw 7
              have f8 := Z5.out.thaw 8
              have f9 := Z5.out.thaw 9
              have f10 := Z5.out.thaw 10
              simp only at y0 y1 y2 y3 y4 y5 y6 y7 y8 y9 y10
              go_wp2
              unfold kset at z9 B9
              simp only at z9 B9
              generalize (((((((((((w5.setCell ⟨w.heap.size, 0, none⟩ (.string ⟨#[]⟩)).setCell ⟨w.heap.size, 1, none⟩ (.int .i64 0)).setCell ⟨w.heap.size, 2, none⟩ (.int .i64 0)).setCell ⟨w.heap.size, 3, none⟩ (.int .i64 0)).setCell ⟨w.heap.size, 4, none⟩ (.int .i64 0)).setCell ⟨w.heap.size, 5, none⟩ (.int .i64 0)).setCell ⟨w.heap.size, 6, none⟩ (.int .i64 0)).setCell ⟨w.heap.size, 7, none⟩ (.int .i64 0)).setCell ⟨w.heap.size, 8, none⟩ (.int .i64 0)).setCell ⟨w.heap.size, 9, none⟩ (.bool false)).setCell ⟨w.heap.size, 10, none⟩ (.bool false)) = w9 at *
              clear y0 y1 y2 y3 y4 y5 y6 y7 y8 y9 y10 f0 f1 f2 f3 f4 f5 f6 f7 f8 f9 f10
              obtain ⟨x0, x1, x2, x3, x4, x5, x6, x7, x8, x9, x10⟩ := z9.cells
              refine bodyPost_ret (v := .tuple #[KV.val ⟨⟨#[]⟩, 0, 0, 0, 0, 0, 0, 0, 0, false, false⟩, .bool false]) (by simp [results, Tryd.results43, go_sem, x0, x1, x2, x3, x4, x5, x6, x7, x8, x9, x10, KV.val]) rfl ?_
              exact ⟨⟨⟨#[]⟩, 0, 0, 0, 0, 0, 0, 0, 0, false, false⟩, false, rfl, .inr ⟨rfl, NO.out⟩, B9⟩
            | true =>
              have M10 : Hid (∀ w, Calls Tryd.prog 63 #[.string a10, .string ⟨#[116]⟩] w fun e w' => e = .returned (.bool true) ∧ w' = w) := fun w => by rw [← h10]; exact isMark_any a10 116 w
              have F10 : Hid (Kd.unflag 116 a10.data.toList = some (a10.toList == [116])) := mark_is h10
              have OK : Hid (Kd.ofLine s.data.toList = some ⟨a0.data.toList, [d0, d1, d2, d3, d4, d5, d6, d7], a9.toList == [102], a10.toList == [116]⟩) := by
                unfold Hid
                rw [HE.out, KW.out, HW.out, F9.out, F10.out]
                simp only
                rw [if_neg NE.out]
              clear h10
              go_wp2_with fail
              refine (M9.out _).mono ?_
              rintro e w' ⟨rfl, hw⟩
              obtain rfl := hw.symm
              go_wp2_with fail
              refine (M10.out _).mono ?_
              rintro e w' ⟨rfl, hw⟩
              obtain rfl := hw.symm
              clear M9 M10 F9 F10 KW HW
              go_upto_region 9 with fail
              generalize w4.drewN nq = w5 at *
              have lB : Hid (w3.heap.size < w5.heap.size) := A5.out.lt
              have h48' : a0.size ≤ 281474976710656 := S0.out a0 (by simp)
              refine wp_region_class 25 (fun W => Below w5.heap.size w5 W) (by kernel_rfl) (by kernel_rfl) (Below.refl _ _).drew ?_
              simp only [List.take_succ_cons, List.take_zero, List.drop_succ_cons, List.drop_zero]
              have FC : Hid (∀ W, Below w5.heap.size w5 W → W.cell? ⟨b1, 0, none⟩ = some (.string a0) ∧ W.cell? ⟨w3.heap.size, 0, none⟩ = some (.int .i64 d0) ∧ W.cell? ⟨w3.heap.size, 1, none⟩ = some (.int .i64 d1) ∧ W.cell? ⟨w3.heap.size, 2, none⟩ = some (.int .i64 d2) ∧ W.cell? ⟨w3.heap.size, 3, none⟩ = some (.int .i64 d3) ∧ W.cell? ⟨w3.heap.size, 4, none⟩ = some (.int .i64 d4) ∧ W.cell? ⟨w3.heap.size, 5, none⟩ = some (.int .i64 d5) ∧ W.cell? ⟨w3.heap.size, 6, none⟩ = some (.int .i64 d6) ∧ W.cell? ⟨w3.heap.size, 7, none⟩ = some (.int .i64 d7)) := fun W hW => by
                have A6 := A5.out.low hW lB.out
                exact ⟨by rw [hW.cell (p := ⟨b1, 0, none⟩) hb5]; exact U0.out, A6.cell (i := 0) rfl, A6.cell (i := 1) rfl, A6.cell (i := 2) rfl, A6.cell (i := 3) rfl, A6.cell (i := 4) rfl, A6.cell (i := 5) rfl, A6.cell (i := 6) rfl, A6.cell (i := 7) rfl⟩
              have CL : Hid (∀ W, Below w5.heap.size w5 W → Calls Tryd.prog 64 #[.string a0] W fun e w' => e = .returned (.string a0) ∧ Below w5.heap.size w5 w') := fun W hW => (clone_any a0 W h48').mono fun e w' ⟨h1, h2⟩ => ⟨h1, hW.trans (h2.mono hW.size)⟩
              refine head_step (.slice (some ⟨b1, 0, none⟩) 11 N) (by go_simp) (fun W hW => by go_simp) ?_
              go_simp
              refine head_step (.pointer (some ⟨b1, 0, none⟩)) (by go_simp) (fun W hW => by go_simp) ?_
              go_simp
              refine head_step (.string a0) (by go_simp) (fun W hW => by obtain ⟨x0, -, -, -, -, -, -, -, -⟩ := FC.out W hW; go_simp) ?_
              go_simp
              refine head_call (.string a0) 64 #[.string a0] (by go_simp) (fun W hW => by go_simp) (fun W hW => CL.out W hW) ?_
              go_simp
              refine head_step (.pointer (some ⟨w3.heap.size, 0, none⟩)) (by go_simp) (fun W hW => by go_simp) ?_
              go_simp
              refine head_step (.int .i64 d0) (by go_simp) (fun W hW => by obtain ⟨-, q0, -, -, -, -, -, -, -⟩ := FC.out W hW; go_simp) ?_
              go_simp
              refine head_step (.pointer (some ⟨w3.heap.size, 1, none⟩)) (by go_simp) (fun W hW => by go_simp) ?_
              go_simp
              refine head_step (.int .i64 d1) (by go_simp) (fun W hW => by obtain ⟨-, -, q1, -, -, -, -, -, -⟩ := FC.out W hW; go_simp) ?_
              go_simp
              refine head_step (.pointer (some ⟨w3.heap.size, 2, none⟩)) (by go_simp) (fun W hW => by go_simp) ?_
              go_simp
              refine head_step (.int .i64 d2) (by go_simp) (fun W hW => by obtain ⟨-, -, -, q2, -, -, -, -, -⟩ := FC.out W hW; go_simp) ?_
              go_simp
              refine head_step (.pointer (some ⟨w3.heap.size, 3, none⟩)) (by go_simp) (fun W hW => by go_simp) ?_
              go_simp
              refine head_step (.int .i64 d3) (by go_simp) (fun W hW => by obtain ⟨-, -, -, -, q3, -, -, -, -⟩ := FC.out W hW; go_simp) ?_
              go_simp
              refine head_step (.pointer (some ⟨w3.heap.size, 4, none⟩)) (by go_simp) (fun W hW => by go_simp) ?_
              go_simp
              refine head_step (.int .i64 d4) (by go_simp) (fun W hW => by obtain ⟨-, -, -, -, -, q4, -, -, -⟩ := FC.out W hW; go_simp) ?_
              go_simp
              refine head_step (.pointer (some ⟨w3.heap.size, 5, none⟩)) (by go_simp) (fun W hW => by go_simp) ?_
              go_simp
              refine head_step (.int .i64 d5) (by go_simp) (fun W hW => by obtain ⟨-, -, -, -, -, -, q5, -, -⟩ := FC.out W hW; go_simp) ?_
              go_simp
              refine head_step (.pointer (some ⟨w3.heap.size, 6, none⟩)) (by go_simp) (fun W hW => by go_simp) ?_
              go_simp
              refine head_step (.int .i64 d6) (by go_simp) (fun W hW => by obtain ⟨-, -, -, -, -, -, -, q6, -⟩ := FC.out W hW; go_simp) ?_
              go_simp
              refine head_step (.pointer (some ⟨w3.heap.size, 7, none⟩)) (by go_simp) (fun W hW => by go_simp) ?_
              go_simp
              refine head_step (.int .i64 d7) (by go_simp) (fun W hW => by obtain ⟨-, -, -, -, -, -, -, -, q7⟩ := FC.out W hW; go_simp) ?_
              go_simp
              refine head_step (.string a9) (by go_simp) (fun W hW => by go_simp) ?_
              go_simp
              refine head_step (.bool (a9.toList == [102])) (by go_simp) (fun W hW => by go_simp) ?_
              go_simp
              refine head_step (.string a10) (by go_simp) (fun W hW => by go_simp) ?_
              go_simp
              refine head_step (.bool (a10.toList == [116])) (by go_simp) (fun W hW => by go_simp) ?_
              go_simp
              refine head_step (.agg #[.string a0, .int .i64 d0, .int .i64 d1, .int .i64 d2, .int .i64 d3, .int .i64 d4, .int .i64 d5, .int .i64 d6, .int .i64 d7, .bool (a9.toList == [102]), .bool (a10.toList == [116])]) (by go_simp) (fun W hW => by go_simp) ?_
              go_simp
              intro W hW
              have Z6 : Hid (Kb W w.heap.size ⟨⟨#[]⟩, 0, 0, 0, 0, 0, 0, 0, 0, false, false⟩) := Z5.out.below hW Z5.out.lt
              have B7 : Hid (Below w.heap.size w W) := B6.out.trans (hW.mono B6.out.size)
              have z9 := Z6.out.put ⟨a0, d0, d1, d2, d3, d4, d5, d6, d7, a9.toList == [102], a10.toList == [116]⟩
              have B9 : Hid (Below w.heap.size w (kset W w.heap.size ⟨a0, d0, d1, d2, d3, d4, d5, d6, d7, a9.toList == [102], a10.toList == [116]⟩)) := kset_below ⟨a0, d0, d1, d2, d3, d4, d5, d6, d7, a9.toList == [102], a10.toList == [116]⟩ B7.out (Nat.le_refl _)
              obtain ⟨y0, y1, y2, y3, y4, y5, y6, y7, y8, y9, y10⟩ := Z6.out.cells
              have f0 := Z6.out.thaw 0
              have f1 := Z6.out.thaw 1
              have f2 := Z6.out.thaw 2
              have f3 := Z6.out.thaw 3
              have f4 := Z6.out.thaw 4
              have f5 := Z6.out.thaw 5
              have f6 := Z6.out.thaw 6
              have f7 := Z6.out.thaw 7
              have f8 := Z6.out.thaw 8
              have f9 := Z6.out.thaw 9
              have f10 := Z6.out.thaw 10
              simp only at y0 y1 y2 y3 y4 y5 y6 y7 y8 y9 y10
              clear hW FC CL
              go_wp2
              unfold kset at z9 B9
              simp only at z9 B9
              generalize (((((((((((W.setCell ⟨w.heap.size, 0, none⟩ (.string a0)).setCell ⟨w.heap.size, 1, none⟩ (.int .i64 d0)).setCell ⟨w.heap.size, 2, none⟩ (.int .i64 d1)).setCell ⟨w.heap.size, 3, none⟩ (.int .i64 d2)).setCell ⟨w.heap.size, 4, none⟩ (.int .i64 d3)).setCell ⟨w.heap.size, 5, none⟩ (.int .i64 d4)).setCell ⟨w.heap.size, 6, none⟩ (.int .i64 d5)).setCell ⟨w.heap.size, 7, none⟩ (.int .i64 d6)).setCell ⟨w.heap.size, 8, none⟩ (.int .i64 d7)).setCell ⟨w.heap.size, 9, none⟩ (.bool (a9.toList == [102]))).setCell ⟨w.heap.size, 10, none⟩ (.bool (a10.toList == [116]))) = w9 at *
              clear y0 y1 y2 y3 y4 y5 y6 y7 y8 y9 y10 f0 f1 f2 f3 f4 f5 f6 f7 f8 f9 f10
              obtain ⟨x0, x1, x2, x3, x4, x5, x6, x7, x8, x9, x10⟩ := z9.cells
              refine bodyPost_ret (v := .tuple #[KV.val ⟨a0, d0, d1, d2, d3, d4, d5, d6, d7, a9.toList == [102], a10.toList == [116]⟩, .bool true]) (by simp [results, Tryd.results43, go_sem, x0, x1, x2, x3, x4, x5, x6, x7, x8, x9, x10, KV.val]) rfl ?_
              exact ⟨⟨a0, d0, d1, d2, d3, d4, d5, d6, d7, a9.toList == [102], a10.toList == [116]⟩, true, rfl, .inl ⟨rfl, OK.out, S00.out⟩, B9⟩
        · have NO : Hid (Kd.ofLine s.data.toList = none) := by
            unfold Hid
            rw [HE.out, KW.out, hwh]
          clear hwh HB
          generalize w4.drewN nq = w5 at *
          have z9 := Z5.out.put ⟨⟨#[]⟩, 0, 0, 0, 0, 0, 0, 0, 0, false, false⟩
          have B9 : Hid (Below w.heap.size w (kset w5 w.heap.size ⟨⟨#[]⟩, 0, 0, 0, 0, 0, 0, 0, 0, false, false⟩)) := kset_below ⟨⟨#[]⟩, 0, 0, 0, 0, 0, 0, 0, 0, false, false⟩ B6.out (Nat.le_refl _)
          obtain ⟨y0, y1, y2, y3, y4, y5, y6, y7, y8, y9, y10⟩ := Z5.out.cells
          have f0 := Z5.out.thaw 0
          have f1 := Z5.out.thaw 1
          have f2 := Z5.out.thaw 2
          have f3 := Z5.out.thaw 3
          have f4 := Z5.out.thaw 4
          have f5 := Z5.out.thaw 5
          have f6 := Z5.out.thaw 6
          have f7 := Z5.out.thaw 7
          have f8 := Z5.out.thaw 8
          have f9 := Z5.out.thaw 9
          have f10 := Z5.out.thaw 10
          simp only at y0 y1 y2 y3 y4 y5 y6 y7 y8 y9 y10
          go_wp2
          unfold kset at z9 B9
          simp only at z9 B9
          generalize (((((((((((w5.setCell ⟨w.heap.size, 0, none⟩ (.string ⟨#[]⟩)).setCell ⟨w.heap.size, 1, none⟩ (.int .i64 0)).setCell ⟨w.heap.size, 2, none⟩ (.int .i64 0)).setCell ⟨w.heap.size, 3, none⟩ (.int .i64 0)).setCell ⟨w.heap.size, 4, none⟩ (.int .i64 0)).setCell ⟨w.heap.size, 5, none⟩ (.int .i64 0)).setCell ⟨w.heap.size, 6, none⟩ (.int .i64 0)).setCell ⟨w.heap.size, 7, none⟩ (.int .i64 0)).setCell ⟨w.heap.size, 8, none⟩ (.int .i64 0)).setCell ⟨w.heap.size, 9, none⟩ (.bool false)).setCell ⟨w.heap.size, 10, none⟩ (.bool false)) = w9 at *
          clear y0 y1 y2 y3 y4 y5 y6 y7 y8 y9 y10 f0 f1 f2 f3 f4 f5 f6 f7 f8 f9 f10
          obtain ⟨x0, x1, x2, x3, x4, x5, x6, x7, x8, x9, x10⟩ := z9.cells
          refine bodyPost_ret (v := .tuple #[KV.val ⟨⟨#[]⟩, 0, 0, 0, 0, 0, 0, 0, 0, false, false⟩, .bool false]) (by simp [results, Tryd.results43, go_sem, x0, x1, x2, x3, x4, x5, x6, x7, x8, x9, x10, KV.val]) rfl ?_
          exact ⟨⟨⟨#[]⟩, 0, 0, 0, 0, 0, 0, 0, 0, false, false⟩, false, rfl, .inr ⟨rfl, NO.out⟩, B9⟩
    · have NO : Hid (Kd.ofLine s.data.toList = none) := by
        unfold Hid
        rw [HE.out]
        have : Kd.kwords (Tx.cut 32 t.data.toList) = none := by
          unfold Kd.kwords
          rw [if_neg]
          rcases C12.out with h | ⟨h, h'⟩
          · rw [← h, List.length_map]; exact h11
          · omega
        rw [this]
      have h11b : (((R.length : Nat) : Int) == 11) = false := by rw [beq_eq_false_iff_ne]; omega
      have h11i : ¬ ((R.length : Nat) : Int) = 11 := by omega
      have z9 := Z2.out.put ⟨⟨#[]⟩, 0, 0, 0, 0, 0, 0, 0, 0, false, false⟩
      have B9 : Hid (Below w.heap.size w (kset w2 w.heap.size ⟨⟨#[]⟩, 0, 0, 0, 0, 0, 0, 0, 0, false, false⟩)) := kset_below ⟨⟨#[]⟩, 0, 0, 0, 0, 0, 0, 0, 0, false, false⟩ B2.out (Nat.le_refl _)
      obtain ⟨y0, y1, y2, y3, y4, y5, y6, y7, y8, y9, y10⟩ := Z2.out.cells
      have f0 := Z2.out.thaw 0
      have f1 := Z2.out.thaw 1
      have f2 := Z2.out.thaw 2
      have f3 := Z2.out.thaw 3
      have f4 := Z2.out.thaw 4
      have f5 := Z2.out.thaw 5
      have f6 := Z2.out.thaw 6
      have f7 := Z2.out.thaw 7
      have f8 := Z2.out.thaw 8
      have f9 := Z2.out.thaw 9
      have f10 := Z2.out.thaw 10
      simp only at y0 y1 y2 y3 y4 y5 y6 y7 y8 y9 y10
      go_wp2
      unfold kset at z9 B9
      simp only at z9 B9
      generalize (((((((((((w2.setCell ⟨w.heap.size, 0, none⟩ (.string ⟨#[]⟩)).setCell ⟨w.heap.size, 1, none⟩ (.int .i64 0)).setCell ⟨w.heap.size, 2, none⟩ (.int .i64 0)).setCell ⟨w.heap.size, 3, none⟩ (.int .i64 0)).setCell ⟨w.heap.size, 4, none⟩ (.int .i64 0)).setCell ⟨w.heap.size, 5, none⟩ (.int .i64 0)).setCell ⟨w.heap.size, 6, none⟩ (.int .i64 0)).setCell ⟨w.heap.size, 7, none⟩ (.int .i64 0)).setCell ⟨w.heap.size, 8, none⟩ (.int .i64 0)).setCell ⟨w.heap.size, 9, none⟩ (.bool false)).setCell ⟨w.heap.size, 10, none⟩ (.bool false)) = w9 at *
      clear y0 y1 y2 y3 y4 y5 y6 y7 y8 y9 y10 f0 f1 f2 f3 f4 f5 f6 f7 f8 f9 f10
      obtain ⟨x0, x1, x2, x3, x4, x5, x6, x7, x8, x9, x10⟩ := z9.cells
      refine bodyPost_ret (v := .tuple #[KV.val ⟨⟨#[]⟩, 0, 0, 0, 0, 0, 0, 0, 0, false, false⟩, .bool false]) (by simp [results, Tryd.results43, go_sem, x0, x1, x2, x3, x4, x5, x6, x7, x8, x9, x10, KV.val]) rfl ?_
      exact ⟨⟨⟨#[]⟩, 0, 0, 0, 0, 0, 0, 0, 0, false, false⟩, false, rfl, .inr ⟨rfl, NO.out⟩, B9⟩
  · have NO : Hid (Kd.ofLine s.data.toList = none) := by
      unfold Hid Kd.ofLine
      rw [if_neg he]
    clear he
    have z9 := Z2.out.put ⟨⟨#[]⟩, 0, 0, 0, 0, 0, 0, 0, 0, false, false⟩
    have B9 : Hid (Below w.heap.size w (kset w2 w.heap.size ⟨⟨#[]⟩, 0, 0, 0, 0, 0, 0, 0, 0, false, false⟩)) := kset_below ⟨⟨#[]⟩, 0, 0, 0, 0, 0, 0, 0, 0, false, false⟩ B2.out (Nat.le_refl _)
    obtain ⟨y0, y1, y2, y3, y4, y5, y6, y7, y8, y9, y10⟩ := Z2.out.cells
    have f0 := Z2.out.thaw 0
    have f1 := Z2.out.thaw 1
    have f2 := Z2.out.thaw 2
    have f3 := Z2.out.thaw 3
    have f4 := Z2.out.thaw 4
    have f5 := Z2.out.thaw 5
    have f6 := Z2.out.thaw 6
    have f7 := Z2.out.thaw 7
    have f8 := Z2.out.thaw 8
    have f9 := Z2.out.thaw 9
    have f10 := Z2.out.thaw 10
    simp only at y0 y1 y2 y3 y4 y5 y6 y7 y8 y9 y10
    go_wp2
    unfold kset at z9 B9
    simp only at z9 B9
    generalize (((((((((((w2.setCell ⟨w.heap.size, 0, none⟩ (.string ⟨#[]⟩)).setCell ⟨w.heap.size, 1, none⟩ (.int .i64 0)).setCell ⟨w.heap.size, 2, none⟩ (.int .i64 0)).setCell ⟨w.heap.size, 3, none⟩ (.int .i64 0)).setCell ⟨w.heap.size, 4, none⟩ (.int .i64 0)).setCell ⟨w.heap.size, 5, none⟩ (.int .i64 0)).setCell ⟨w.heap.size, 6, none⟩ (.int .i64 0)).setCell ⟨w.heap.size, 7, none⟩ (.int .i64 0)).setCell ⟨w.heap.size, 8, none⟩ (.int .i64 0)).setCell ⟨w.heap.size, 9, none⟩ (.bool false)).setCell ⟨w.heap.size, 10, none⟩ (.bool false)) = w9 at *
    clear y0 y1 y2 y3 y4 y5 y6 y7 y8 y9 y10 f0 f1 f2 f3 f4 f5 f6 f7 f8 f9 f10
    obtain ⟨x0, x1, x2, x3, x4, x5, x6, x7, x8, x9, x10⟩ := z9.cells
    refine bodyPost_ret (v := .tuple #[KV.val ⟨⟨#[]⟩, 0, 0, 0, 0, 0, 0, 0, 0, false, false⟩, .bool false]) (by simp [results, Tryd.results43, go_sem, x0, x1, x2, x3, x4, x5, x6, x7, x8, x9, x10, KV.val]) rfl ?_
    exact ⟨⟨⟨#[]⟩, 0, 0, 0, 0, 0, 0, 0, 0, false, false⟩, false, rfl, .inr ⟨rfl, NO.out⟩, B9⟩
end Go.Proofs.YtkceccajamdbjaaDoor
