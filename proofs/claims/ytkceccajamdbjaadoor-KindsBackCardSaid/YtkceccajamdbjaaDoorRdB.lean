/- The program's kinds: the numbers of a line. -/
import Derived.Test.YtkceccajamdbjaaDoorRdA
import Derived.Test.YtkceccajamdbjaaDoorKdM
import Derived.Test.YtkceccajamdbjaaDoorBk
import Derived.Laws.ResultCell
namespace Go.Proofs.YtkceccajamdbjaaDoor
open Go.RowKit
set_option linter.unusedVariables false

/-- block b is an array of eight integers. -/
def Ar (w : World) (b : Nat) (ds : List Int) : Prop := w.heap[b]? = some (.cells (intCells ds).toArray 92 (0, 0))
theorem Ar.cell {w : World} {b : Nat} {ds : List Int} (h : Ar w b ds) {i : Nat} {d : Int} (hd : ds[i]? = some d) : w.cell? ⟨b, i, none⟩ = some (.int .i64 d) := by
  unfold Ar at h
  simp only [World.cell?, h]
  simp [intCells, hd]
theorem Ar.thaw {w : World} {b : Nat} {ds : List Int} (h : Ar w b ds) (i : Nat) : w.frozen? ⟨b, i, none⟩ = false := by
  unfold Ar at h
  simp [World.frozen?, h]
theorem Ar.set {w : World} {b : Nat} {ds : List Int} (h : Ar w b ds) (i : Nat) (d : Int) : Ar (w.setCell ⟨b, i, none⟩ (.int .i64 d)) b (ds.set i d) := by
  unfold Ar at *
  rw [heap_setCell_same w b i _ _ _ h]
  simp [intCells, List.map_set]
theorem Ar.low {w w' : World} {b B : Nat} {ds : List Int} (h : Ar w b ds) (hb : Below B w w') (hB : b < B) : Ar w' b ds := by
  unfold Ar at *
  rw [hb.block b hB]; exact h
theorem Ar.lt {w : World} {b : Nat} {ds : List Int} (h : Ar w b ds) : b < w.heap.size := lt_of_block h
theorem wholes_snoc : ∀ (ws : List (List UInt8)) (w : List UInt8) (ns : List Int) (m : Nat), Kd.wholes ws = some ns → Tx.whole 4 w = some m → Kd.wholes (ws ++ [w]) = some (ns ++ [(m : Int)])
  | [], w, ns, m, h, hm => by
    simp [Kd.wholes] at h
    subst h
    simp [Kd.wholes, hm]
  | v :: ws, w, ns, m, h, hm => by
    unfold Kd.wholes at h
    split at h
    · rename_i n ns' h1 h2
      injection h with h
      subst h
      have := wholes_snoc ws w ns' m h2 hm
      simp [Kd.wholes, h1, this]
    · cases h
theorem wholes_none : ∀ (ws : List (List UInt8)) (i : Nat) (w : List UInt8), ws[i]? = some w → Tx.whole 4 w = none → Kd.wholes ws = none
  | [], i, w, h, _ => by simp at h
  | v :: ws, 0, w, h, hn => by
    simp at h
    subst h
    unfold Kd.wholes
    rw [hn]
  | v :: ws, i + 1, w, h, hn => by
    have := wholes_none ws i w (by simpa using h) hn
    unfold Kd.wholes
    rw [this]
    split
    · rename_i h1 h2; cases h2
    · rfl
theorem set_take {ds : List Int} {n : Nat} (d : Int) (h : n < ds.length) : (ds.set n d).take (n + 1) = ds.take n ++ [d] := by
  rw [List.take_succ_eq_append_getElem (by simpa using h), List.take_set_of_le (Nat.le_refl n)]
  simp
theorem len8 {ds : List Int} (h : ds.length = 8) : ∃ d0 d1 d2 d3 d4 d5 d6 d7, ds = [d0, d1, d2, d3, d4, d5, d6, d7] := by
  match ds, h with
  | [d0, d1, d2, d3, d4, d5, d6, d7], _ => exact ⟨d0, d1, d2, d3, d4, d5, d6, d7, rfl⟩

theorem Ar.back {W : World} {b : Nat} {d0 d1 d2 d3 d4 d5 d6 d7 : Int} (h : Ar W b [d0, d1, d2, d3, d4, d5, d6, d7]) : Ar ((((((((W.setCell ⟨b, 0, none⟩ (.int .i64 d0)).setCell ⟨b, 1, none⟩ (.int .i64 d1)).setCell ⟨b, 2, none⟩ (.int .i64 d2)).setCell ⟨b, 3, none⟩ (.int .i64 d3)).setCell ⟨b, 4, none⟩ (.int .i64 d4)).setCell ⟨b, 5, none⟩ (.int .i64 d5)).setCell ⟨b, 6, none⟩ (.int .i64 d6)).setCell ⟨b, 7, none⟩ (.int .i64 d7)) b [d0, d1, d2, d3, d4, d5, d6, d7] := ((((((((h.set 0 d0).set 1 d1).set 2 d2).set 3 d3).set 4 d4).set 5 d5).set 6 d6).set 7 d7)
theorem back_below {B b : Nat} {w W : World} (d0 d1 d2 d3 d4 d5 d6 d7 : Int) (h : Below B w W) (hb : B ≤ b) : Below B w ((((((((W.setCell ⟨b, 0, none⟩ (.int .i64 d0)).setCell ⟨b, 1, none⟩ (.int .i64 d1)).setCell ⟨b, 2, none⟩ (.int .i64 d2)).setCell ⟨b, 3, none⟩ (.int .i64 d3)).setCell ⟨b, 4, none⟩ (.int .i64 d4)).setCell ⟨b, 5, none⟩ (.int .i64 d5)).setCell ⟨b, 6, none⟩ (.int .i64 d6)).setCell ⟨b, 7, none⟩ (.int .i64 d7)) := ((((((((h.setCell (p := ⟨b, 0, none⟩) hb _).setCell (p := ⟨b, 1, none⟩) hb _).setCell (p := ⟨b, 2, none⟩) hb _).setCell (p := ⟨b, 3, none⟩) hb _).setCell (p := ⟨b, 4, none⟩) hb _).setCell (p := ⟨b, 5, none⟩) hb _).setCell (p := ⟨b, 6, none⟩) hb _).setCell (p := ⟨b, 7, none⟩) hb _)
def RnumsSays (ws : List (List UInt8)) (w : World) (e : Ending) (w' : World) : Prop := ∃ (ns : List Int) (b : Bool), e = .returned (.tuple #[.agg (intCells ns).toArray, .bool b]) ∧ ns.length = 8 ∧ ((b = true ∧ Kd.wholes ws = some ns) ∨ (b = false ∧ Kd.wholes ws = none)) ∧ Below w.heap.size w w'

set_option maxRecDepth 100000 in
set_option maxHeartbeats 4000000 in
theorem rnums_any (g o c : Nat) (ws : List ByteArray) (w : World) (hl : ws.length = 8) (hc8 : 8 ≤ c) (hc : c ≤ 9223372036854775807) (hg : g < w.heap.size) (hcell : ∀ (j : Nat) s, ws[j]? = some s → w.cell? ⟨g, o + j, none⟩ = some (.string s)) (hsz : ∀ s ∈ ws, s.size ≤ 9223372036854775807) (hp : Pw w) (hy : Sy w) :
    Calls Tryd.prog 62 #[.slice (some ⟨g, o, none⟩) 8 c] w (RnumsSays (ws.map (·.data.toList)) w) := by
  have P0 : Hid (Pw w ∧ Sy w) := ⟨hp, hy⟩
  have Hc : Hid (∀ (j : Nat) s, ws[j]? = some s → w.cell? ⟨g, o + j, none⟩ = some (.string s)) := hcell
  have Hz : Hid (∀ s ∈ ws, s.size ≤ 9223372036854775807) := hsz
  have Hl : Hid (ws.length = 8) := hl
  clear hp hy hcell hsz hl
  have A0 : Hid (Ar (w.alloc (Obj.cells #[.int .i64 0, .int .i64 0, .int .i64 0, .int .i64 0, .int .i64 0, .int .i64 0, .int .i64 0, .int .i64 0] 92)) w.heap.size [0, 0, 0, 0, 0, 0, 0, 0]) := by
    unfold Hid Ar
    rw [heap_alloc_new]
    rfl
  have B0 : Hid (Below w.heap.size w (w.alloc (Obj.cells #[.int .i64 0, .int .i64 0, .int .i64 0, .int .i64 0, .int .i64 0, .int .i64 0, .int .i64 0, .int .i64 0] 92))) := (Below.refl _ _).alloc (Nat.le_refl _) _
  go_enter Tryd.func62, Tryd.ntmps62
  go_wp2_with fail
  go_loopw [8] (fun i W' => ∃ (n : Nat) (ds : List Int), n ≤ 8 ∧ i = .int .i64 (n : Nat) ∧ ds.length = 8 ∧ Ar W' w.heap.size ds ∧ Kd.wholes ((ws.map (·.data.toList)).take n) = some (ds.take n) ∧ Below w.heap.size w W') (fun i _ => 8 - (intOf i).toNat)
  case atStart => exact ⟨0, [0, 0, 0, 0, 0, 0, 0, 0], Nat.zero_le _, rfl, rfl, A0, rfl, B0⟩
  case round =>
    obtain ⟨n, ds, hn, rfl, hds, ha, hw, hb⟩ := hrel
    have A1 : Hid (Ar wr w.heap.size ds) := ha
    have W1 : Hid (Kd.wholes ((ws.map (·.data.toList)).take n) = some (ds.take n)) := hw
    have B1 : Hid (Below w.heap.size w wr) := hb
    clear ha hw hb
    by_cases h8 : n = 8
    · subst h8
      have WA : Hid (Kd.wholes (ws.map (·.data.toList)) = some ds) := by
        have := W1.out
        rw [List.take_of_length_le (by rw [List.length_map, Hl.out]; exact Nat.le_refl _), List.take_of_length_le (by omega)] at this
        exact this
      obtain ⟨d0, d1, d2, d3, d4, d5, d6, d7, rfl⟩ := len8 hds
      have A8 : Hid (Ar wr w.heap.size [d0, d1, d2, d3, d4, d5, d6, d7]) := A1
      have B8 : Hid (Below w.heap.size w wr) := B1
      have y0 := A8.out.cell (i := 0) rfl
      have y1 := A8.out.cell (i := 1) rfl
      have y2 := A8.out.cell (i := 2) rfl
      have y3 := A8.out.cell (i := 3) rfl
      have y4 := A8.out.cell (i := 4) rfl
      have y5 := A8.out.cell (i := 5) rfl
      have y6 := A8.out.cell (i := 6) rfl
      have y7 := A8.out.cell (i := 7) rfl
      have f0 := A8.out.thaw 0
      have f1 := A8.out.thaw 1
      have f2 := A8.out.thaw 2
      have f3 := A8.out.thaw 3
      have f4 := A8.out.thaw 4
      have f5 := A8.out.thaw 5
      have f6 := A8.out.thaw 6
      have f7 := A8.out.thaw 7
      go_wp2
      have A9 := A8.out.back
      have B9 : Hid (Below w.heap.size w _) := back_below d0 d1 d2 d3 d4 d5 d6 d7 B8.out (Nat.le_refl _)
      generalize ((((((((wr.setCell ⟨w.heap.size, 0, none⟩ (.int .i64 d0)).setCell ⟨w.heap.size, 1, none⟩ (.int .i64 d1)).setCell ⟨w.heap.size, 2, none⟩ (.int .i64 d2)).setCell ⟨w.heap.size, 3, none⟩ (.int .i64 d3)).setCell ⟨w.heap.size, 4, none⟩ (.int .i64 d4)).setCell ⟨w.heap.size, 5, none⟩ (.int .i64 d5)).setCell ⟨w.heap.size, 6, none⟩ (.int .i64 d6)).setCell ⟨w.heap.size, 7, none⟩ (.int .i64 d7)) = w9 at *
      clear y0 y1 y2 y3 y4 y5 y6 y7 f0 f1 f2 f3 f4 f5 f6 f7
      have z0 := A9.cell (i := 0) rfl
      have z1 := A9.cell (i := 1) rfl
      have z2 := A9.cell (i := 2) rfl
      have z3 := A9.cell (i := 3) rfl
      have z4 := A9.cell (i := 4) rfl
      have z5 := A9.cell (i := 5) rfl
      have z6 := A9.cell (i := 6) rfl
      have z7 := A9.cell (i := 7) rfl
      refine bodyPost_ret (v := .tuple #[.agg (intCells [d0, d1, d2, d3, d4, d5, d6, d7]).toArray, .bool true]) (by simp [results, Tryd.results62, go_sem, z0, z1, z2, z3, z4, z5, z6, z7, intCells]) rfl ?_
      exact ⟨_, _, rfl, rfl, .inl ⟨rfl, WA⟩, B9⟩
    · have hn8 : n < 8 := by omega
      have hn8' : (n : Int) < 8 := by omega
      obtain ⟨s, hs⟩ : ∃ s, ws[n]? = some s := ⟨_, List.getElem?_eq_getElem (by rw [Hl.out]; exact hn8)⟩
      have cs : wr.cell? ⟨g, o + n, none⟩ = some (.string s) := by rw [B1.out.cell (p := ⟨g, o + n, none⟩) hg]; exact Hc.out n s hs
      have RN := rnum_any 4 (by decide) (by decide) s wr (Hz.out s (List.mem_of_getElem? hs)) (P0.out.1.below B1.out) (P0.out.2.below B1.out)
      have RN' : Hid (Calls Tryd.prog 80 #[.string s, .int .i64 4] wr (RnumSays 4 s.data.toList wr)) := RN
      have Hs : Hid ((ws.map (·.data.toList))[n]? = some s.data.toList) := by unfold Hid; rw [List.getElem?_map, hs]; rfl
      clear hs RN
      go_wp2_with fail
      refine RN'.out.mono ?_
      rintro e w2 ⟨m, b, rfl, hr, b2⟩
      have B2 : Hid (Below w.heap.size w w2) := B1.out.trans (b2.mono B1.out.size)
      have A2 : Hid (Ar w2 w.heap.size ds) := A1.out.low b2 A1.out.lt
      obtain ⟨dn, hdn⟩ : ∃ dn, ds[n]? = some dn := ⟨_, List.getElem?_eq_getElem (by omega)⟩
      have yn : w2.cell? ⟨w.heap.size, n, none⟩ = some (.int .i64 dn) := A2.out.cell hdn
      have fn := A2.out.thaw n
      have A3 : Hid (Ar (w2.setCell ⟨w.heap.size, n, none⟩ (.int .i64 m)) w.heap.size (ds.set n m)) := A2.out.set n m
      have B3 : Hid (Below w.heap.size w (w2.setCell ⟨w.heap.size, n, none⟩ (.int .i64 m))) := B2.out.setCell (p := ⟨w.heap.size, n, none⟩) (Nat.le_refl _) _
      clear b2 RN' cs hdn
      rcases hr with ⟨rfl, k, rfl, hk, hw⟩ | ⟨rfl, hw⟩
      · have W3 : Hid (Kd.wholes ((ws.map (·.data.toList)).take (n + 1)) = some ((ds.set n (k : Int)).take (n + 1))) := by
          obtain ⟨hi, e⟩ := List.getElem?_eq_some_iff.1 Hs.out
          unfold Hid
          rw [List.take_succ_eq_append_getElem hi, e, set_take _ (by omega)]
          exact wholes_snoc _ _ _ _ W1.out hw
        clear hw
        go_wp2
        go_round
        case rel => exact ⟨n + 1, ds.set n (k : Int), by omega, by go_num, by simpa using hds, A3, W3, B3⟩
        case measure => simp [intOf]; omega
      · have WN : Hid (Kd.wholes (ws.map (·.data.toList)) = none) := wholes_none _ n _ Hs.out hw
        clear hw
        go_upto_region 5 with fail
        generalize w2.setCell ⟨w.heap.size, n, none⟩ (.int .i64 m) = w3 at *
        obtain ⟨d0, d1, d2, d3, d4, d5, d6, d7, e8⟩ := len8 (ds := ds.set n m) (by simpa using hds)
        rw [e8] at A3
        have A8 : Hid (Ar w3 w.heap.size [d0, d1, d2, d3, d4, d5, d6, d7]) := A3
        have B8 : Hid (Below w.heap.size w w3) := B3
        clear A3 B3 yn fn e8
        have y0 := A8.out.cell (i := 0) rfl
        have y1 := A8.out.cell (i := 1) rfl
        have y2 := A8.out.cell (i := 2) rfl
        have y3 := A8.out.cell (i := 3) rfl
        have y4 := A8.out.cell (i := 4) rfl
        have y5 := A8.out.cell (i := 5) rfl
        have y6 := A8.out.cell (i := 6) rfl
        have y7 := A8.out.cell (i := 7) rfl
        have f0 := A8.out.thaw 0
        have f1 := A8.out.thaw 1
        have f2 := A8.out.thaw 2
        have f3 := A8.out.thaw 3
        have f4 := A8.out.thaw 4
        have f5 := A8.out.thaw 5
        have f6 := A8.out.thaw 6
        have f7 := A8.out.thaw 7
        go_wp2
        have A9 := A8.out.back
        have B9 : Hid (Below w.heap.size w _) := back_below d0 d1 d2 d3 d4 d5 d6 d7 B8.out (Nat.le_refl _)
        generalize ((((((((w3.setCell ⟨w.heap.size, 0, none⟩ (.int .i64 d0)).setCell ⟨w.heap.size, 1, none⟩ (.int .i64 d1)).setCell ⟨w.heap.size, 2, none⟩ (.int .i64 d2)).setCell ⟨w.heap.size, 3, none⟩ (.int .i64 d3)).setCell ⟨w.heap.size, 4, none⟩ (.int .i64 d4)).setCell ⟨w.heap.size, 5, none⟩ (.int .i64 d5)).setCell ⟨w.heap.size, 6, none⟩ (.int .i64 d6)).setCell ⟨w.heap.size, 7, none⟩ (.int .i64 d7)) = w9 at *
        clear y0 y1 y2 y3 y4 y5 y6 y7 f0 f1 f2 f3 f4 f5 f6 f7
        have z0 := A9.cell (i := 0) rfl
        have z1 := A9.cell (i := 1) rfl
        have z2 := A9.cell (i := 2) rfl
        have z3 := A9.cell (i := 3) rfl
        have z4 := A9.cell (i := 4) rfl
        have z5 := A9.cell (i := 5) rfl
        have z6 := A9.cell (i := 6) rfl
        have z7 := A9.cell (i := 7) rfl
        refine bodyPost_ret (v := .tuple #[.agg (intCells [d0, d1, d2, d3, d4, d5, d6, d7]).toArray, .bool false]) (by simp [results, Tryd.results62, go_sem, z0, z1, z2, z3, z4, z5, z6, z7, intCells]) rfl ?_
        exact ⟨_, _, rfl, rfl, .inr ⟨rfl, WN⟩, B9⟩
end Go.Proofs.YtkceccajamdbjaaDoor
