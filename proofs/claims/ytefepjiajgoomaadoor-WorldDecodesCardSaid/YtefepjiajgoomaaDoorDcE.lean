/- world.Decode: a unit. -/
import Derived.Test.YtefepjiajgoomaaDoorDcD
import Derived.Test.YtefepjiajgoomaaDoorRgS
import Derived.BigRegion
import Derived.Laws.ResultCell
import Derived.Deep.DeepCutAuto
namespace Go.Proofs.YtefepjiajgoomaaDoor
open Go.RowKit
set_option linter.unusedVariables false

/-- what a unit is read as. -/
def UnitSays (w0 : World) (zb za zf : Nat) (v : Value) (l : List UInt8) (w : World) (a : Nat) (f : Bool) (e : Ending) (w' : World) : Prop :=
  ∃ (j : UnV) (a' : Nat) (f' : Bool), e = .returned j.val ∧ Wd.Rd (Wd.punit l) a f j a' f' ∧ Dc w0 zb za zf v l w' a' f' ∧ K2 za zf w w'
set_option maxRecDepth 100000 in
set_option maxHeartbeats 4000000 in
theorem dunit_any (w0 : World) (zb za zf zx : Nat) (v : Value) (l : List UInt8) (w : World) (a : Nat) (f : Bool) (h : Dc w0 zb za zf v l w a f) (hx : zf < zx) (cx : w.cell? ⟨zx, 0, none⟩ = some (nextF zb za zf)) :
    Calls Tryd.prog 104 #[.pointer (some ⟨zx, 0, none⟩)] w (UnitSays w0 zb za zf v l w a f) := by
  have hzx : Hid (zx < w.heap.size) := cell_lt cx
  generalize hw0 : w.alloc (Obj.cells #[.int .i64 0, .int .i64 0, .int .i64 0, .int .i64 0, .int .i64 0, .int .i64 0, .int .i64 0, .int .i64 0] 62) = w1
  have B1 : Hid (Below w.heap.size w w1) := by rw [← hw0]; exact (Below.refl _ _).alloc (Nat.le_refl _) _
  have Z1 : Hid (w1.heap[w.heap.size]? = some (Obj.cells #[.int .i64 0, .int .i64 0, .int .i64 0, .int .i64 0, .int .i64 0, .int .i64 0, .int .i64 0, .int .i64 0] 62 (0, 0))) := by unfold Hid; rw [← hw0, heap_alloc_new]
  have Hw : Hid (w.alloc (Obj.cells #[.int .i64 0, .int .i64 0, .int .i64 0, .int .i64 0, .int .i64 0, .int .i64 0, .int .i64 0, .int .i64 0] 62) = w1) := hw0
  have D : Hid (Dc w0 zb za zf v l w1 a f) := h.kept (B1.out.mono (by have := h.ltf; omega))
  have cx1 : w1.cell? ⟨zx, 0, none⟩ = some (nextF zb za zf) := by rw [B1.out.cell (p := ⟨zx, 0, none⟩) hzx.out]; exact cx
  have ord : Hid (za < zf ∧ zf < zx) := ⟨h.af, hx⟩
  clear h cx hw0
  unfold nextF at cx1
  go_enter Tryd.func104, Tryd.ntmps104
  go_upto_region 1 with fail
  rw [Hw.out]
  have cx2 : ({ w1 with drawn := w1.drawn + 1 } : World).cell? ⟨zx, 0, none⟩ = some (.func (.func 72) #[] #[.pointer (some ⟨zb, 0, none⟩), .pointer (some ⟨za, 0, none⟩), .pointer (some ⟨zf, 0, none⟩)]) := cx1
  have E0 : Hid (Dc w0 zb za zf v l { w1 with drawn := w1.drawn + 1 } a f ∧ Below w.heap.size w { w1 with drawn := w1.drawn + 1 } ∧ K2 za zf w { w1 with drawn := w1.drawn + 1 }) := ⟨D.out.kept (Below.refl _ _).drew, B1.out.drew, K2.of B1.out.drew⟩
  have Z2 : Hid (({ w1 with drawn := w1.drawn + 1 } : World).heap[w.heap.size]? = some (Obj.cells #[.int .i64 0, .int .i64 0, .int .i64 0, .int .i64 0, .int .i64 0, .int .i64 0, .int .i64 0, .int .i64 0] 62 (0, 0))) := Z1.out
  refine wp_region_sched [(true, 0), (true, 2), (true, 4), (true, 6), (true, 8), (true, 10), (true, 12), (true, 14), (false, 1), (false, 3), (false, 5), (false, 7), (false, 9), (false, 11), (false, 13), (false, 15), (false, 16), (false, 17)] (fun W => W.cell? ⟨zx, 0, none⟩ = some (.func (.func 72) #[] #[.pointer (some ⟨zb, 0, none⟩), .pointer (some ⟨za, 0, none⟩), .pointer (some ⟨zf, 0, none⟩)])) (by kernel_rfl) (by kernel_rfl) (by kernel_rfl) (by kernel_rfl) cx1 ?_
  generalize ({ w1 with drawn := w1.drawn + 1 } : World) = w2 at *
  refine sched_read rfl (.func (.func 72) #[] #[.pointer (some ⟨zb, 0, none⟩), .pointer (some ⟨za, 0, none⟩), .pointer (some ⟨zf, 0, none⟩)]) (by go_simp) (fun W hW => by go_simp) ?_
  go_simp
  refine sched_read rfl (.func (.func 72) #[] #[.pointer (some ⟨zb, 0, none⟩), .pointer (some ⟨za, 0, none⟩), .pointer (some ⟨zf, 0, none⟩)]) (by go_simp) (fun W hW => by go_simp) ?_
  go_simp
  refine sched_read rfl (.func (.func 72) #[] #[.pointer (some ⟨zb, 0, none⟩), .pointer (some ⟨za, 0, none⟩), .pointer (some ⟨zf, 0, none⟩)]) (by go_simp) (fun W hW => by go_simp) ?_
  go_simp
  refine sched_read rfl (.func (.func 72) #[] #[.pointer (some ⟨zb, 0, none⟩), .pointer (some ⟨za, 0, none⟩), .pointer (some ⟨zf, 0, none⟩)]) (by go_simp) (fun W hW => by go_simp) ?_
  go_simp
  refine sched_read rfl (.func (.func 72) #[] #[.pointer (some ⟨zb, 0, none⟩), .pointer (some ⟨za, 0, none⟩), .pointer (some ⟨zf, 0, none⟩)]) (by go_simp) (fun W hW => by go_simp) ?_
  go_simp
  refine sched_read rfl (.func (.func 72) #[] #[.pointer (some ⟨zb, 0, none⟩), .pointer (some ⟨za, 0, none⟩), .pointer (some ⟨zf, 0, none⟩)]) (by go_simp) (fun W hW => by go_simp) ?_
  go_simp
  refine sched_read rfl (.func (.func 72) #[] #[.pointer (some ⟨zb, 0, none⟩), .pointer (some ⟨za, 0, none⟩), .pointer (some ⟨zf, 0, none⟩)]) (by go_simp) (fun W hW => by go_simp) ?_
  go_simp
  refine sched_read rfl (.func (.func 72) #[] #[.pointer (some ⟨zb, 0, none⟩), .pointer (some ⟨za, 0, none⟩), .pointer (some ⟨zf, 0, none⟩)]) (by go_simp) (fun W hW => by go_simp) ?_
  go_simp
  refine sched_call rfl 72 #[.pointer (some ⟨zb, 0, none⟩), .pointer (some ⟨za, 0, none⟩), .pointer (some ⟨zf, 0, none⟩)] (by go_simp) (by go_simp) ?_
  refine (dnext_any w0 zb za zf v l w2 a f E0.out.1).mono ?_
  rintro e x0 ⟨n0, a0, f0, rfl, hrd, hd, hk⟩
  have R0 : Hid (Wd.Rd (Wd.pnum l) a f n0 a0 f0) := hrd
  have Q0 : Hid (Dc w0 zb za zf v l x0 a0 f0 ∧ K2 za zf w2 x0) := ⟨hd, hk⟩
  clear hrd hd hk
  refine ⟨_, rfl, ?_, ?_⟩
  · have := ord.out
    have := hzx.out
    rw [Q0.out.2.cell ⟨zx, 0, none⟩ (by have := E0.out.2.1.size; show zx < _; omega) (by show zx ≠ _; omega) (by show zx ≠ _; omega)]
    exact cx2
  go_simp
  refine sched_call rfl 72 #[.pointer (some ⟨zb, 0, none⟩), .pointer (some ⟨za, 0, none⟩), .pointer (some ⟨zf, 0, none⟩)] (by go_simp) (by go_simp) ?_
  refine (dnext_any w0 zb za zf v l x0 a0 f0 Q0.out.1).mono ?_
  rintro e x1 ⟨n1, a1, f1, rfl, hrd, hd, hk⟩
  have R1 : Hid (Wd.Rd (Wd.pnum l) a0 f0 n1 a1 f1) := hrd
  have Q1 : Hid (Dc w0 zb za zf v l x1 a1 f1 ∧ K2 za zf w2 x1) := ⟨hd, Q0.out.2.trans hk⟩
  clear hrd hd hk
  refine ⟨_, rfl, ?_, ?_⟩
  · have := ord.out
    have := hzx.out
    rw [Q1.out.2.cell ⟨zx, 0, none⟩ (by have := E0.out.2.1.size; show zx < _; omega) (by show zx ≠ _; omega) (by show zx ≠ _; omega)]
    exact cx2
  go_simp
  refine sched_call rfl 72 #[.pointer (some ⟨zb, 0, none⟩), .pointer (some ⟨za, 0, none⟩), .pointer (some ⟨zf, 0, none⟩)] (by go_simp) (by go_simp) ?_
  refine (dnext_any w0 zb za zf v l x1 a1 f1 Q1.out.1).mono ?_
  rintro e x2 ⟨n2, a2, f2, rfl, hrd, hd, hk⟩
  have R2 : Hid (Wd.Rd (Wd.pnum l) a1 f1 n2 a2 f2) := hrd
  have Q2 : Hid (Dc w0 zb za zf v l x2 a2 f2 ∧ K2 za zf w2 x2) := ⟨hd, Q1.out.2.trans hk⟩
  clear hrd hd hk
  refine ⟨_, rfl, ?_, ?_⟩
  · have := ord.out
    have := hzx.out
    rw [Q2.out.2.cell ⟨zx, 0, none⟩ (by have := E0.out.2.1.size; show zx < _; omega) (by show zx ≠ _; omega) (by show zx ≠ _; omega)]
    exact cx2
  go_simp
  refine sched_call rfl 72 #[.pointer (some ⟨zb, 0, none⟩), .pointer (some ⟨za, 0, none⟩), .pointer (some ⟨zf, 0, none⟩)] (by go_simp) (by go_simp) ?_
  refine (dnext_any w0 zb za zf v l x2 a2 f2 Q2.out.1).mono ?_
  rintro e x3 ⟨n3, a3, f3, rfl, hrd, hd, hk⟩
  have R3 : Hid (Wd.Rd (Wd.pnum l) a2 f2 n3 a3 f3) := hrd
  have Q3 : Hid (Dc w0 zb za zf v l x3 a3 f3 ∧ K2 za zf w2 x3) := ⟨hd, Q2.out.2.trans hk⟩
  clear hrd hd hk
  refine ⟨_, rfl, ?_, ?_⟩
  · have := ord.out
    have := hzx.out
    rw [Q3.out.2.cell ⟨zx, 0, none⟩ (by have := E0.out.2.1.size; show zx < _; omega) (by show zx ≠ _; omega) (by show zx ≠ _; omega)]
    exact cx2
  go_simp
  refine sched_call rfl 72 #[.pointer (some ⟨zb, 0, none⟩), .pointer (some ⟨za, 0, none⟩), .pointer (some ⟨zf, 0, none⟩)] (by go_simp) (by go_simp) ?_
  refine (dnext_any w0 zb za zf v l x3 a3 f3 Q3.out.1).mono ?_
  rintro e x4 ⟨n4, a4, f4, rfl, hrd, hd, hk⟩
  have R4 : Hid (Wd.Rd (Wd.pnum l) a3 f3 n4 a4 f4) := hrd
  have Q4 : Hid (Dc w0 zb za zf v l x4 a4 f4 ∧ K2 za zf w2 x4) := ⟨hd, Q3.out.2.trans hk⟩
  clear hrd hd hk
  refine ⟨_, rfl, ?_, ?_⟩
  · have := ord.out
    have := hzx.out
    rw [Q4.out.2.cell ⟨zx, 0, none⟩ (by have := E0.out.2.1.size; show zx < _; omega) (by show zx ≠ _; omega) (by show zx ≠ _; omega)]
    exact cx2
  go_simp
  refine sched_call rfl 72 #[.pointer (some ⟨zb, 0, none⟩), .pointer (some ⟨za, 0, none⟩), .pointer (some ⟨zf, 0, none⟩)] (by go_simp) (by go_simp) ?_
  refine (dnext_any w0 zb za zf v l x4 a4 f4 Q4.out.1).mono ?_
  rintro e x5 ⟨n5, a5, f5, rfl, hrd, hd, hk⟩
  have R5 : Hid (Wd.Rd (Wd.pnum l) a4 f4 n5 a5 f5) := hrd
  have Q5 : Hid (Dc w0 zb za zf v l x5 a5 f5 ∧ K2 za zf w2 x5) := ⟨hd, Q4.out.2.trans hk⟩
  clear hrd hd hk
  refine ⟨_, rfl, ?_, ?_⟩
  · have := ord.out
    have := hzx.out
    rw [Q5.out.2.cell ⟨zx, 0, none⟩ (by have := E0.out.2.1.size; show zx < _; omega) (by show zx ≠ _; omega) (by show zx ≠ _; omega)]
    exact cx2
  go_simp
  refine sched_call rfl 72 #[.pointer (some ⟨zb, 0, none⟩), .pointer (some ⟨za, 0, none⟩), .pointer (some ⟨zf, 0, none⟩)] (by go_simp) (by go_simp) ?_
  refine (dnext_any w0 zb za zf v l x5 a5 f5 Q5.out.1).mono ?_
  rintro e x6 ⟨n6, a6, f6, rfl, hrd, hd, hk⟩
  have R6 : Hid (Wd.Rd (Wd.pnum l) a5 f5 n6 a6 f6) := hrd
  have Q6 : Hid (Dc w0 zb za zf v l x6 a6 f6 ∧ K2 za zf w2 x6) := ⟨hd, Q5.out.2.trans hk⟩
  clear hrd hd hk
  refine ⟨_, rfl, ?_, ?_⟩
  · have := ord.out
    have := hzx.out
    rw [Q6.out.2.cell ⟨zx, 0, none⟩ (by have := E0.out.2.1.size; show zx < _; omega) (by show zx ≠ _; omega) (by show zx ≠ _; omega)]
    exact cx2
  go_simp
  refine sched_call rfl 72 #[.pointer (some ⟨zb, 0, none⟩), .pointer (some ⟨za, 0, none⟩), .pointer (some ⟨zf, 0, none⟩)] (by go_simp) (by go_simp) ?_
  refine (dnext_any w0 zb za zf v l x6 a6 f6 Q6.out.1).mono ?_
  rintro e x7 ⟨n7, a7, f7, rfl, hrd, hd, hk⟩
  have R7 : Hid (Wd.Rd (Wd.pnum l) a6 f6 n7 a7 f7) := hrd
  have Q7 : Hid (Dc w0 zb za zf v l x7 a7 f7 ∧ K2 za zf w2 x7) := ⟨hd, Q6.out.2.trans hk⟩
  clear hrd hd hk
  refine ⟨_, rfl, ?_, ?_⟩
  · have := ord.out
    have := hzx.out
    rw [Q7.out.2.cell ⟨zx, 0, none⟩ (by have := E0.out.2.1.size; show zx < _; omega) (by show zx ≠ _; omega) (by show zx ≠ _; omega)]
    exact cx2
  go_simp
  have L : Hid (zx < w.heap.size ∧ w.heap.size < w2.heap.size) := ⟨hzx.out, lt_of_block Z2.out⟩
  have Z : Hid (x7.heap[w.heap.size]? = some (Obj.cells #[.int .i64 0, .int .i64 0, .int .i64 0, .int .i64 0, .int .i64 0, .int .i64 0, .int .i64 0, .int .i64 0] 62 (0, 0))) := by
    unfold Hid
    have := ord.out
    have := L.out
    rw [Q7.out.2.block w.heap.size this.2 (by omega) (by omega)]
    exact Z2.out
  have c0 : x7.cell? ⟨w.heap.size, 0, none⟩ = some (.int .i64 0) := by have := Z.out; simp [World.cell?, this]
  have t0 : x7.frozen? ⟨w.heap.size, 0, none⟩ = false := by have := Z.out; simp [World.frozen?, this]
  have c1 : x7.cell? ⟨w.heap.size, 1, none⟩ = some (.int .i64 0) := by have := Z.out; simp [World.cell?, this]
  have t1 : x7.frozen? ⟨w.heap.size, 1, none⟩ = false := by have := Z.out; simp [World.frozen?, this]
  have c2 : x7.cell? ⟨w.heap.size, 2, none⟩ = some (.int .i64 0) := by have := Z.out; simp [World.cell?, this]
  have t2 : x7.frozen? ⟨w.heap.size, 2, none⟩ = false := by have := Z.out; simp [World.frozen?, this]
  have c3 : x7.cell? ⟨w.heap.size, 3, none⟩ = some (.int .i64 0) := by have := Z.out; simp [World.cell?, this]
  have t3 : x7.frozen? ⟨w.heap.size, 3, none⟩ = false := by have := Z.out; simp [World.frozen?, this]
  have c4 : x7.cell? ⟨w.heap.size, 4, none⟩ = some (.int .i64 0) := by have := Z.out; simp [World.cell?, this]
  have t4 : x7.frozen? ⟨w.heap.size, 4, none⟩ = false := by have := Z.out; simp [World.frozen?, this]
  have c5 : x7.cell? ⟨w.heap.size, 5, none⟩ = some (.int .i64 0) := by have := Z.out; simp [World.cell?, this]
  have t5 : x7.frozen? ⟨w.heap.size, 5, none⟩ = false := by have := Z.out; simp [World.frozen?, this]
  have c6 : x7.cell? ⟨w.heap.size, 6, none⟩ = some (.int .i64 0) := by have := Z.out; simp [World.cell?, this]
  have t6 : x7.frozen? ⟨w.heap.size, 6, none⟩ = false := by have := Z.out; simp [World.frozen?, this]
  have c7 : x7.cell? ⟨w.heap.size, 7, none⟩ = some (.int .i64 0) := by have := Z.out; simp [World.cell?, this]
  have t7 : x7.frozen? ⟨w.heap.size, 7, none⟩ = false := by have := Z.out; simp [World.frozen?, this]
  have cxx : x7.cell? ⟨zx, 0, none⟩ = some (.func (.func 72) #[] #[.pointer (some ⟨zb, 0, none⟩), .pointer (some ⟨za, 0, none⟩), .pointer (some ⟨zf, 0, none⟩)]) := by
    have := ord.out
    have := L.out
    rw [Q7.out.2.cell ⟨zx, 0, none⟩ (by show zx < _; omega) (by show zx ≠ _; omega) (by show zx ≠ _; omega)]
    exact cx2
  have nex : zx ≠ w.heap.size := by have := L.out; omega
  refine sched_value rfl (.agg #[.int .i64 n0, .int .i64 n1, .int .i64 n2, .int .i64 n3, .int .i64 n4, .int .i64 n5, .int .i64 n6, .int .i64 n7]) x7 (by go_simp) (by go_simp) cxx ?_
  go_simp
  have CH : Hid (Below w.heap.size x7 ((((((((x7.setCell ⟨w.heap.size, 0, none⟩ (.int .i64 n0)).setCell ⟨w.heap.size, 1, none⟩ (.int .i64 n1)).setCell ⟨w.heap.size, 2, none⟩ (.int .i64 n2)).setCell ⟨w.heap.size, 3, none⟩ (.int .i64 n3)).setCell ⟨w.heap.size, 4, none⟩ (.int .i64 n4)).setCell ⟨w.heap.size, 5, none⟩ (.int .i64 n5)).setCell ⟨w.heap.size, 6, none⟩ (.int .i64 n6)).setCell ⟨w.heap.size, 7, none⟩ (.int .i64 n7))) := (((((((((Below.refl _ _).setCell (p := ⟨w.heap.size, 0, none⟩) (Nat.le_refl _) _).setCell (p := ⟨w.heap.size, 1, none⟩) (Nat.le_refl _) _).setCell (p := ⟨w.heap.size, 2, none⟩) (Nat.le_refl _) _).setCell (p := ⟨w.heap.size, 3, none⟩) (Nat.le_refl _) _).setCell (p := ⟨w.heap.size, 4, none⟩) (Nat.le_refl _) _).setCell (p := ⟨w.heap.size, 5, none⟩) (Nat.le_refl _) _).setCell (p := ⟨w.heap.size, 6, none⟩) (Nat.le_refl _) _).setCell (p := ⟨w.heap.size, 7, none⟩) (Nat.le_refl _) _)
  have ZZ : Hid (((((((((x7.setCell ⟨w.heap.size, 0, none⟩ (.int .i64 n0)).setCell ⟨w.heap.size, 1, none⟩ (.int .i64 n1)).setCell ⟨w.heap.size, 2, none⟩ (.int .i64 n2)).setCell ⟨w.heap.size, 3, none⟩ (.int .i64 n3)).setCell ⟨w.heap.size, 4, none⟩ (.int .i64 n4)).setCell ⟨w.heap.size, 5, none⟩ (.int .i64 n5)).setCell ⟨w.heap.size, 6, none⟩ (.int .i64 n6)).setCell ⟨w.heap.size, 7, none⟩ (.int .i64 n7)).heap[w.heap.size]? = some (Obj.cells #[.int .i64 n0, .int .i64 n1, .int .i64 n2, .int .i64 n3, .int .i64 n4, .int .i64 n5, .int .i64 n6, .int .i64 n7] 62 (0, 0))) := heap_setCell_same _ w.heap.size 7 _ _ (.int .i64 n7) (heap_setCell_same _ w.heap.size 6 _ _ (.int .i64 n6) (heap_setCell_same _ w.heap.size 5 _ _ (.int .i64 n5) (heap_setCell_same _ w.heap.size 4 _ _ (.int .i64 n4) (heap_setCell_same _ w.heap.size 3 _ _ (.int .i64 n3) (heap_setCell_same _ w.heap.size 2 _ _ (.int .i64 n2) (heap_setCell_same _ w.heap.size 1 _ _ (.int .i64 n1) (heap_setCell_same _ w.heap.size 0 _ _ (.int .i64 n0) (Z.out))))))))
  refine sched_skip rfl ((((((((x7.setCell ⟨w.heap.size, 0, none⟩ (.int .i64 n0)).setCell ⟨w.heap.size, 1, none⟩ (.int .i64 n1)).setCell ⟨w.heap.size, 2, none⟩ (.int .i64 n2)).setCell ⟨w.heap.size, 3, none⟩ (.int .i64 n3)).setCell ⟨w.heap.size, 4, none⟩ (.int .i64 n4)).setCell ⟨w.heap.size, 5, none⟩ (.int .i64 n5)).setCell ⟨w.heap.size, 6, none⟩ (.int .i64 n6)).setCell ⟨w.heap.size, 7, none⟩ (.int .i64 n7)) (by go_simp) (by go_simp) ((CH.out.cell (p := ⟨zx, 0, none⟩) L.out.1).trans cxx) ?_
  go_simp
  generalize ((((((((x7.setCell ⟨w.heap.size, 0, none⟩ (.int .i64 n0)).setCell ⟨w.heap.size, 1, none⟩ (.int .i64 n1)).setCell ⟨w.heap.size, 2, none⟩ (.int .i64 n2)).setCell ⟨w.heap.size, 3, none⟩ (.int .i64 n3)).setCell ⟨w.heap.size, 4, none⟩ (.int .i64 n4)).setCell ⟨w.heap.size, 5, none⟩ (.int .i64 n5)).setCell ⟨w.heap.size, 6, none⟩ (.int .i64 n6)).setCell ⟨w.heap.size, 7, none⟩ (.int .i64 n7)) = w3 at *
  unfold wpSched
  have FIN : Hid (UnitSays w0 zb za zf v l w a f (.returned (.agg #[.int .i64 n0, .int .i64 n1, .int .i64 n2, .int .i64 n3, .int .i64 n4, .int .i64 n5, .int .i64 n6, .int .i64 n7])) w3) := ⟨⟨n0, n1, n2, n3, n4, n5, n6, n7⟩, a7, f7, rfl, R0.out.bind (R1.out.bind (R2.out.bind (R3.out.bind (R4.out.bind (R5.out.bind (R6.out.bind (R7.out.bind (Wd.Rd.ret _ _ _)))))))), Q7.out.1.kept (CH.out.mono (by have := ord.out; have := L.out; omega)), (E0.out.2.2.trans Q7.out.2).then_below CH.out⟩
  have y0 : w3.cell? ⟨w.heap.size, 0, none⟩ = some (.int .i64 n0) := by have := ZZ.out; simp [World.cell?, this]
  have y1 : w3.cell? ⟨w.heap.size, 1, none⟩ = some (.int .i64 n1) := by have := ZZ.out; simp [World.cell?, this]
  have y2 : w3.cell? ⟨w.heap.size, 2, none⟩ = some (.int .i64 n2) := by have := ZZ.out; simp [World.cell?, this]
  have y3 : w3.cell? ⟨w.heap.size, 3, none⟩ = some (.int .i64 n3) := by have := ZZ.out; simp [World.cell?, this]
  have y4 : w3.cell? ⟨w.heap.size, 4, none⟩ = some (.int .i64 n4) := by have := ZZ.out; simp [World.cell?, this]
  have y5 : w3.cell? ⟨w.heap.size, 5, none⟩ = some (.int .i64 n5) := by have := ZZ.out; simp [World.cell?, this]
  have y6 : w3.cell? ⟨w.heap.size, 6, none⟩ = some (.int .i64 n6) := by have := ZZ.out; simp [World.cell?, this]
  have y7 : w3.cell? ⟨w.heap.size, 7, none⟩ = some (.int .i64 n7) := by have := ZZ.out; simp [World.cell?, this]
  clear c0 t0 c1 t1 c2 t2 c3 t3 c4 t4 c5 t5 c6 t6 c7 t7
  go_wp2
  refine bodyPost_ret (v := .agg #[.int .i64 n0, .int .i64 n1, .int .i64 n2, .int .i64 n3, .int .i64 n4, .int .i64 n5, .int .i64 n6, .int .i64 n7]) (by simp [results, Tryd.results104, go_sem, y0, y1, y2, y3, y4, y5, y6, y7]) rfl FIN.out
end Go.Proofs.YtefepjiajgoomaaDoor
