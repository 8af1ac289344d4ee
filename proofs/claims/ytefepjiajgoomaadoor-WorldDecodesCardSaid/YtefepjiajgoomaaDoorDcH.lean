/- world.Decode: readWorld. -/
import Derived.Test.YtefepjiajgoomaaDoorDcF
import Derived.Test.YtefepjiajgoomaaDoorDcG
import Derived.Test.YtefepjiajgoomaaDoorWdA
namespace Go.Proofs.YtefepjiajgoomaaDoor
open Go.RowKit
set_option linter.unusedVariables false

/-- v is a world, whose lists lie in blocks of their own from base on. -/
def Wo (w : World) (base : Nat) (v : Value) (W : WV) : Prop := ∃ u1 u2 u3 u4 u5, v = .agg #[.int .i64 W.turn, .int .i64 W.next, .int .i64 W.wide, .int .i64 W.high, u1, u2, u3, u4, u5] ∧ Ow w base u1 W.gs ∧ Ow w base u2 W.os ∧ Ow w base u3 W.gold ∧ Uno w base u4 W.us ∧ Jbo w base u5 W.qs
theorem Wo.l {w : World} {base : Nat} {v : Value} {W : WV} (h : Wo w base v W) : Wl w v W := by
  obtain ⟨u1, u2, u3, u4, u5, h1, h2, h3, h4, h5, h6⟩ := h
  exact ⟨u1, u2, u3, u4, u5, h1, h2.ro, h3.ro, h4.ro, h5.l, h6.l⟩
theorem Wo.below {w w' : World} {base : Nat} {v : Value} {W : WV} (h : Wo w base v W) (hb : Below w.heap.size w w') : Wo w' base v W := by
  obtain ⟨u1, u2, u3, u4, u5, h1, h2, h3, h4, h5, h6⟩ := h
  exact ⟨u1, u2, u3, u4, u5, h1, h2.below hb, h3.below hb, h4.below hb, h5.below hb, h6.below hb⟩
theorem Wo.k2 {w w' : World} {base y z : Nat} {v : Value} {W : WV} (h : Wo w base v W) (k : K2 y z w w') (hy : y < base) (hz : z < base) : Wo w' base v W := by
  obtain ⟨u1, u2, u3, u4, u5, h1, h2, h3, h4, h5, h6⟩ := h
  exact ⟨u1, u2, u3, u4, u5, h1, owns_k2 h2 k hy hz, owns_k2 h3 k hy hz, owns_k2 h4 k hy hz, owns_k2 h5 k hy hz, owns_k2 h6 k hy hz⟩
/-- what the world is read as. -/
def RwSays (w0 : World) (zb za zf zn : Nat) (v : Value) (l : List UInt8) (w : World) (a : Nat) (f : Bool) (e : Ending) (w' : World) : Prop :=
  ∃ (W : WV) (a' : Nat) (f' : Bool) (u : Value), e = .returned u ∧ Wo w' w.heap.size u W ∧ Wd.Rd (Wd.pworld l) a f W a' f' ∧ Ds w0 zb za zf zn v l w' a' f' ∧ K2 za zf w w'
set_option maxRecDepth 100000 in
set_option maxHeartbeats 16000000 in
theorem rworld_any (w0 : World) (zb za zf zn : Nat) (v : Value) (l : List UInt8) (w : World) (a : Nat) (f : Bool) (h : Ds w0 zb za zf zn v l w a f) :
    Calls Tryd.prog 75 #[nextF zb za zf, manyF zn zf] w (RwSays w0 zb za zf zn v l w a f) := by
  generalize hw0 : ((w.alloc (Obj.cells #[.func (.func 72) #[] #[.pointer (some ⟨zb, 0, none⟩), .pointer (some ⟨za, 0, none⟩), .pointer (some ⟨zf, 0, none⟩)]] 125)).alloc (Obj.cells #[.int .i64 0, .int .i64 0, .int .i64 0, .int .i64 0, .slice none 0 0, .slice none 0 0, .slice none 0 0, .slice none 0 0, .slice none 0 0] 49)) = w1
  have B1 : Hid (Below w.heap.size w w1) := by rw [← hw0]; exact ((Below.refl _ _).alloc (Nat.le_refl _) _).alloc (by simp) _
  have S1 : Hid (w1.heap.size = w.heap.size + 2) := by unfold Hid; rw [← hw0]; simp
  have Z1 : Hid (w1.heap[w.heap.size + 1]? = some (Obj.cells #[.int .i64 0, .int .i64 0, .int .i64 0, .int .i64 0, .slice none 0 0, .slice none 0 0, .slice none 0 0, .slice none 0 0, .slice none 0 0] 49 (0, 0))) := by
    unfold Hid
    have e : w.heap.size + 1 = (w.alloc (Obj.cells #[.func (.func 72) #[] #[.pointer (some ⟨zb, 0, none⟩), .pointer (some ⟨za, 0, none⟩), .pointer (some ⟨zf, 0, none⟩)]] 125)).heap.size := by simp
    rw [← hw0, e, heap_alloc_new]
  have Hw : Hid (((w.alloc (Obj.cells #[.func (.func 72) #[] #[.pointer (some ⟨zb, 0, none⟩), .pointer (some ⟨za, 0, none⟩), .pointer (some ⟨zf, 0, none⟩)]] 125)).alloc (Obj.cells #[.int .i64 0, .int .i64 0, .int .i64 0, .int .i64 0, .slice none 0 0, .slice none 0 0, .slice none 0 0, .slice none 0 0, .slice none 0 0] 49)) = w1) := hw0
  have D : Hid (Ds w0 zb za zf zn v l w1 a f) := h.kept (B1.out.mono (by have := h.lt; omega))
  have cx1 : w1.cell? ⟨w.heap.size, 0, none⟩ = some (.func (.func 72) #[] #[.pointer (some ⟨zb, 0, none⟩), .pointer (some ⟨za, 0, none⟩), .pointer (some ⟨zf, 0, none⟩)]) := by rw [← hw0]; simp
  have ord : Hid (za < zf ∧ zf < zn ∧ zn < w.heap.size) := ⟨h.d.af, h.fn, h.lt⟩
  clear h hw0
  unfold nextF manyF
  go_enter Tryd.func75, Tryd.ntmps75
  go_upto_region 3 with fail
  rw [Hw.out]
  have cx2 : ({ w1 with drawn := w1.drawn + 1 } : World).cell? ⟨w.heap.size, 0, none⟩ = some (.func (.func 72) #[] #[.pointer (some ⟨zb, 0, none⟩), .pointer (some ⟨za, 0, none⟩), .pointer (some ⟨zf, 0, none⟩)]) := cx1
  have E0 : Hid (Ds w0 zb za zf zn v l { w1 with drawn := w1.drawn + 1 } a f ∧ K2 za zf w { w1 with drawn := w1.drawn + 1 }) := ⟨D.out.kept (Below.refl _ _).drew, K2.of B1.out.drew⟩
  have Z2 : Hid (({ w1 with drawn := w1.drawn + 1 } : World).heap[w.heap.size + 1]? = some (Obj.cells #[.int .i64 0, .int .i64 0, .int .i64 0, .int .i64 0, .slice none 0 0, .slice none 0 0, .slice none 0 0, .slice none 0 0, .slice none 0 0] 49 (0, 0))) := Z1.out
  have S2 : Hid (({ w1 with drawn := w1.drawn + 1 } : World).heap.size = w.heap.size + 2) := S1.out
  refine wp_region_sched [(true, 0), (true, 2), (true, 4), (true, 6), (true, 8), (true, 9), (true, 11), (true, 12), (true, 15), (true, 16), (true, 18), (true, 19), (true, 21), (true, 22), (false, 1), (false, 3), (false, 5), (false, 7), (false, 10), (false, 13), (true, 14), (false, 17), (false, 20), (false, 23), (false, 24), (false, 25)] (fun W => W.cell? ⟨w.heap.size, 0, none⟩ = some (.func (.func 72) #[] #[.pointer (some ⟨zb, 0, none⟩), .pointer (some ⟨za, 0, none⟩), .pointer (some ⟨zf, 0, none⟩)])) (by kernel_rfl) (by kernel_rfl) (by kernel_rfl) (by kernel_rfl) cx1 ?_
  generalize ({ w1 with drawn := w1.drawn + 1 } : World) = w2 at *
  refine sched_read rfl (.func (.func 72) #[] #[.pointer (some ⟨zb, 0, none⟩), .pointer (some ⟨za, 0, none⟩), .pointer (some ⟨zf, 0, none⟩)]) (by go_simp) (fun W hW => by go_simp) ?_
  go_simp
  refine sched_read rfl (.func (.func 72) #[] #[.pointer (some ⟨zb, 0, none⟩), .pointer (some ⟨za, 0, none⟩), .pointer (some ⟨zf, 0, none⟩)]) (by go_simp) (fun W hW => by go_simp) ?_
  go_simp
  refine sched_read rfl (.func (.func 72) #[] #[.pointer (some ⟨zb, 0, none⟩), .pointer (some ⟨za, 0, none⟩), .pointer (some ⟨zf, 0, none⟩)]) (by go_simp) (fun W hW => by go_simp) ?_
  go_simp
  refine sched_read rfl (.func (.func 72) #[] #[.pointer (some ⟨zb, 0, none⟩), .pointer (some ⟨za, 0, none⟩), .pointer (some ⟨zf, 0, none⟩)]) (by go_simp) (fun W hW => by go_simp) ?_
  go_simp
  refine sched_read rfl (.func (.func 74) #[] #[.pointer (some ⟨zn, 0, none⟩), .pointer (some ⟨zf, 0, none⟩)]) (by go_simp) (fun W hW => by go_simp) ?_
  go_simp
  refine sched_read rfl (.func (.func 72) #[] #[.pointer (some ⟨zb, 0, none⟩), .pointer (some ⟨za, 0, none⟩), .pointer (some ⟨zf, 0, none⟩)]) (by go_simp) (fun W hW => by go_simp) ?_
  go_simp
  refine sched_read rfl (.func (.func 74) #[] #[.pointer (some ⟨zn, 0, none⟩), .pointer (some ⟨zf, 0, none⟩)]) (by go_simp) (fun W hW => by go_simp) ?_
  go_simp
  refine sched_read rfl (.func (.func 72) #[] #[.pointer (some ⟨zb, 0, none⟩), .pointer (some ⟨za, 0, none⟩), .pointer (some ⟨zf, 0, none⟩)]) (by go_simp) (fun W hW => by go_simp) ?_
  go_simp
  refine sched_read rfl (.func (.func 74) #[] #[.pointer (some ⟨zn, 0, none⟩), .pointer (some ⟨zf, 0, none⟩)]) (by go_simp) (fun W hW => by go_simp) ?_
  go_simp
  refine sched_read rfl (.func (.func 72) #[] #[.pointer (some ⟨zb, 0, none⟩), .pointer (some ⟨za, 0, none⟩), .pointer (some ⟨zf, 0, none⟩)]) (by go_simp) (fun W hW => by go_simp) ?_
  go_simp
  refine sched_read rfl (.func (.func 74) #[] #[.pointer (some ⟨zn, 0, none⟩), .pointer (some ⟨zf, 0, none⟩)]) (by go_simp) (fun W hW => by go_simp) ?_
  go_simp
  refine sched_read rfl (.func (.func 104) #[] #[.pointer (some ⟨w.heap.size, 0, none⟩)]) (by go_simp) (fun W hW => by go_simp) ?_
  go_simp
  refine sched_read rfl (.func (.func 74) #[] #[.pointer (some ⟨zn, 0, none⟩), .pointer (some ⟨zf, 0, none⟩)]) (by go_simp) (fun W hW => by go_simp) ?_
  go_simp
  refine sched_read rfl (.func (.func 105) #[] #[.pointer (some ⟨w.heap.size, 0, none⟩)]) (by go_simp) (fun W hW => by go_simp) ?_
  go_simp
  refine sched_call rfl 72 #[.pointer (some ⟨zb, 0, none⟩), .pointer (some ⟨za, 0, none⟩), .pointer (some ⟨zf, 0, none⟩)] (by go_simp) (by go_simp) ?_
  refine (dnext_any w0 zb za zf v l w2 a f E0.out.1.d).mono ?_
  rintro e x0 ⟨n0, a0, f0, rfl, hrd, hd, hk⟩
  have R0 : Hid (Wd.Rd (Wd.pnum l) a f n0 a0 f0) := hrd
  have Q0 : Hid (Ds w0 zb za zf zn v l x0 a0 f0 ∧ K2 za zf w2 x0 ∧ K2 za zf w2 x0) := ⟨E0.out.1.to hd hk, hk, hk⟩
  clear hrd hd hk
  refine ⟨_, rfl, ?_, ?_⟩
  · have := ord.out
    have := S2.out
    rw [Q0.out.2.1.cell ⟨w.heap.size, 0, none⟩ (by show w.heap.size < _; omega) (by show w.heap.size ≠ _; omega) (by show w.heap.size ≠ _; omega)]
    exact cx2
  go_simp
  refine sched_call rfl 72 #[.pointer (some ⟨zb, 0, none⟩), .pointer (some ⟨za, 0, none⟩), .pointer (some ⟨zf, 0, none⟩)] (by go_simp) (by go_simp) ?_
  refine (dnext_any w0 zb za zf v l x0 a0 f0 Q0.out.1.d).mono ?_
  rintro e x1 ⟨n1, a1, f1, rfl, hrd, hd, hk⟩
  have R1 : Hid (Wd.Rd (Wd.pnum l) a0 f0 n1 a1 f1) := hrd
  have Q1 : Hid (Ds w0 zb za zf zn v l x1 a1 f1 ∧ K2 za zf w2 x1 ∧ K2 za zf x0 x1) := ⟨Q0.out.1.to hd hk, Q0.out.2.1.trans hk, hk⟩
  clear hrd hd hk
  refine ⟨_, rfl, ?_, ?_⟩
  · have := ord.out
    have := S2.out
    rw [Q1.out.2.1.cell ⟨w.heap.size, 0, none⟩ (by show w.heap.size < _; omega) (by show w.heap.size ≠ _; omega) (by show w.heap.size ≠ _; omega)]
    exact cx2
  go_simp
  refine sched_call rfl 72 #[.pointer (some ⟨zb, 0, none⟩), .pointer (some ⟨za, 0, none⟩), .pointer (some ⟨zf, 0, none⟩)] (by go_simp) (by go_simp) ?_
  refine (dnext_any w0 zb za zf v l x1 a1 f1 Q1.out.1.d).mono ?_
  rintro e x2 ⟨n2, a2, f2, rfl, hrd, hd, hk⟩
  have R2 : Hid (Wd.Rd (Wd.pnum l) a1 f1 n2 a2 f2) := hrd
  have Q2 : Hid (Ds w0 zb za zf zn v l x2 a2 f2 ∧ K2 za zf w2 x2 ∧ K2 za zf x1 x2) := ⟨Q1.out.1.to hd hk, Q1.out.2.1.trans hk, hk⟩
  clear hrd hd hk
  refine ⟨_, rfl, ?_, ?_⟩
  · have := ord.out
    have := S2.out
    rw [Q2.out.2.1.cell ⟨w.heap.size, 0, none⟩ (by show w.heap.size < _; omega) (by show w.heap.size ≠ _; omega) (by show w.heap.size ≠ _; omega)]
    exact cx2
  go_simp
  refine sched_call rfl 72 #[.pointer (some ⟨zb, 0, none⟩), .pointer (some ⟨za, 0, none⟩), .pointer (some ⟨zf, 0, none⟩)] (by go_simp) (by go_simp) ?_
  refine (dnext_any w0 zb za zf v l x2 a2 f2 Q2.out.1.d).mono ?_
  rintro e x3 ⟨n3, a3, f3, rfl, hrd, hd, hk⟩
  have R3 : Hid (Wd.Rd (Wd.pnum l) a2 f2 n3 a3 f3) := hrd
  have Q3 : Hid (Ds w0 zb za zf zn v l x3 a3 f3 ∧ K2 za zf w2 x3 ∧ K2 za zf x2 x3) := ⟨Q2.out.1.to hd hk, Q2.out.2.1.trans hk, hk⟩
  clear hrd hd hk
  refine ⟨_, rfl, ?_, ?_⟩
  · have := ord.out
    have := S2.out
    rw [Q3.out.2.1.cell ⟨w.heap.size, 0, none⟩ (by show w.heap.size < _; omega) (by show w.heap.size ≠ _; omega) (by show w.heap.size ≠ _; omega)]
    exact cx2
  go_simp
  have cc : x3.cell? ⟨w.heap.size, 0, none⟩ = some (.func (.func 72) #[] #[.pointer (some ⟨zb, 0, none⟩), .pointer (some ⟨za, 0, none⟩), .pointer (some ⟨zf, 0, none⟩)]) := by
    have := ord.out
    have := S2.out
    rw [Q3.out.2.1.cell ⟨w.heap.size, 0, none⟩ (by show w.heap.size < _; omega) (by show w.heap.size ≠ _; omega) (by show w.heap.size ≠ _; omega)]
    exact cx2
  refine sched_call rfl 106 #[.func (.func 74) #[] #[.pointer (some ⟨zn, 0, none⟩), .pointer (some ⟨zf, 0, none⟩)], .func (.func 72) #[] #[.pointer (some ⟨zb, 0, none⟩), .pointer (some ⟨za, 0, none⟩), .pointer (some ⟨zf, 0, none⟩)]] (by go_simp) (by go_simp) ?_
  refine (rlist_any w0 zb za zf zn v l x3 a3 f3 Q3.out.1).mono ?_
  rintro e x4 ⟨n4, a4, f4, u4, rfl, ho, hl, hrd, hd, hk⟩
  obtain ⟨p4, q4, rfl⟩ := ho.len
  have R4 : Hid (Wd.Rd (Wd.plist l (Wd.pnum l)) a3 f3 n4 a4 f4) := hrd
  have O4 : Hid (Ow x4 x3.heap.size (.slice p4 n4.length q4) n4) := ho
  have Q4 : Hid (Ds w0 zb za zf zn v l x4 a4 f4 ∧ K2 za zf w2 x4 ∧ K2 za zf x3 x4) := ⟨hd, Q3.out.2.1.trans hk, hk⟩
  clear hrd hd hk ho hl cc
  refine ⟨_, rfl, ?_, ?_⟩
  · have := ord.out
    have := S2.out
    rw [Q4.out.2.1.cell ⟨w.heap.size, 0, none⟩ (by show w.heap.size < _; omega) (by show w.heap.size ≠ _; omega) (by show w.heap.size ≠ _; omega)]
    exact cx2
  go_simp
  have cc : x4.cell? ⟨w.heap.size, 0, none⟩ = some (.func (.func 72) #[] #[.pointer (some ⟨zb, 0, none⟩), .pointer (some ⟨za, 0, none⟩), .pointer (some ⟨zf, 0, none⟩)]) := by
    have := ord.out
    have := S2.out
    rw [Q4.out.2.1.cell ⟨w.heap.size, 0, none⟩ (by show w.heap.size < _; omega) (by show w.heap.size ≠ _; omega) (by show w.heap.size ≠ _; omega)]
    exact cx2
  refine sched_call rfl 106 #[.func (.func 74) #[] #[.pointer (some ⟨zn, 0, none⟩), .pointer (some ⟨zf, 0, none⟩)], .func (.func 72) #[] #[.pointer (some ⟨zb, 0, none⟩), .pointer (some ⟨za, 0, none⟩), .pointer (some ⟨zf, 0, none⟩)]] (by go_simp) (by go_simp) ?_
  refine (rlist_any w0 zb za zf zn v l x4 a4 f4 Q4.out.1).mono ?_
  rintro e x5 ⟨n5, a5, f5, u5, rfl, ho, hl, hrd, hd, hk⟩
  obtain ⟨p5, q5, rfl⟩ := ho.len
  have R5 : Hid (Wd.Rd (Wd.plist l (Wd.pnum l)) a4 f4 n5 a5 f5) := hrd
  have O5 : Hid (Ow x5 x4.heap.size (.slice p5 n5.length q5) n5) := ho
  have Q5 : Hid (Ds w0 zb za zf zn v l x5 a5 f5 ∧ K2 za zf w2 x5 ∧ K2 za zf x4 x5) := ⟨hd, Q4.out.2.1.trans hk, hk⟩
  clear hrd hd hk ho hl cc
  refine ⟨_, rfl, ?_, ?_⟩
  · have := ord.out
    have := S2.out
    rw [Q5.out.2.1.cell ⟨w.heap.size, 0, none⟩ (by show w.heap.size < _; omega) (by show w.heap.size ≠ _; omega) (by show w.heap.size ≠ _; omega)]
    exact cx2
  go_simp
  refine sched_read rfl (.agg #[.int .i64 n2, .int .i64 n3, .slice p4 n4.length q4, .slice p5 n5.length q5]) (by go_simp) (fun W hW => by go_simp) ?_
  go_simp
  have cc : x5.cell? ⟨w.heap.size, 0, none⟩ = some (.func (.func 72) #[] #[.pointer (some ⟨zb, 0, none⟩), .pointer (some ⟨za, 0, none⟩), .pointer (some ⟨zf, 0, none⟩)]) := by
    have := ord.out
    have := S2.out
    rw [Q5.out.2.1.cell ⟨w.heap.size, 0, none⟩ (by show w.heap.size < _; omega) (by show w.heap.size ≠ _; omega) (by show w.heap.size ≠ _; omega)]
    exact cx2
  refine sched_call rfl 106 #[.func (.func 74) #[] #[.pointer (some ⟨zn, 0, none⟩), .pointer (some ⟨zf, 0, none⟩)], .func (.func 72) #[] #[.pointer (some ⟨zb, 0, none⟩), .pointer (some ⟨za, 0, none⟩), .pointer (some ⟨zf, 0, none⟩)]] (by go_simp) (by go_simp) ?_
  refine (rlist_any w0 zb za zf zn v l x5 a5 f5 Q5.out.1).mono ?_
  rintro e x6 ⟨n6, a6, f6, u6, rfl, ho, hl, hrd, hd, hk⟩
  obtain ⟨p6, q6, rfl⟩ := ho.len
  have R6 : Hid (Wd.Rd (Wd.plist l (Wd.pnum l)) a5 f5 n6 a6 f6) := hrd
  have O6 : Hid (Ow x6 x5.heap.size (.slice p6 n6.length q6) n6) := ho
  have Q6 : Hid (Ds w0 zb za zf zn v l x6 a6 f6 ∧ K2 za zf w2 x6 ∧ K2 za zf x5 x6) := ⟨hd, Q5.out.2.1.trans hk, hk⟩
  clear hrd hd hk ho hl cc
  refine ⟨_, rfl, ?_, ?_⟩
  · have := ord.out
    have := S2.out
    rw [Q6.out.2.1.cell ⟨w.heap.size, 0, none⟩ (by show w.heap.size < _; omega) (by show w.heap.size ≠ _; omega) (by show w.heap.size ≠ _; omega)]
    exact cx2
  go_simp
  have cc : x6.cell? ⟨w.heap.size, 0, none⟩ = some (.func (.func 72) #[] #[.pointer (some ⟨zb, 0, none⟩), .pointer (some ⟨za, 0, none⟩), .pointer (some ⟨zf, 0, none⟩)]) := by
    have := ord.out
    have := S2.out
    rw [Q6.out.2.1.cell ⟨w.heap.size, 0, none⟩ (by show w.heap.size < _; omega) (by show w.heap.size ≠ _; omega) (by show w.heap.size ≠ _; omega)]
    exact cx2
  refine sched_call rfl 107 #[.func (.func 74) #[] #[.pointer (some ⟨zn, 0, none⟩), .pointer (some ⟨zf, 0, none⟩)], .func (.func 104) #[] #[.pointer (some ⟨w.heap.size, 0, none⟩)]] (by go_simp) (by go_simp) ?_
  refine (runits_any w0 zb za zf zn w.heap.size v l x6 a6 f6 Q6.out.1 (by have := ord.out; omega) cc).mono ?_
  rintro e x7 ⟨n7, a7, f7, u7, rfl, ho, hl, hrd, hd, hk⟩
  obtain ⟨p7, q7, rfl⟩ := ho.len
  have R7 : Hid (Wd.Rd (Wd.plist l (Wd.punit l)) a6 f6 n7 a7 f7) := hrd
  have O7 : Hid (Uno x7 x6.heap.size (.slice p7 n7.length q7) n7) := ho
  have Q7 : Hid (Ds w0 zb za zf zn v l x7 a7 f7 ∧ K2 za zf w2 x7 ∧ K2 za zf x6 x7) := ⟨hd, Q6.out.2.1.trans hk, hk⟩
  clear hrd hd hk ho hl cc
  refine ⟨_, rfl, ?_, ?_⟩
  · have := ord.out
    have := S2.out
    rw [Q7.out.2.1.cell ⟨w.heap.size, 0, none⟩ (by show w.heap.size < _; omega) (by show w.heap.size ≠ _; omega) (by show w.heap.size ≠ _; omega)]
    exact cx2
  go_simp
  have cc : x7.cell? ⟨w.heap.size, 0, none⟩ = some (.func (.func 72) #[] #[.pointer (some ⟨zb, 0, none⟩), .pointer (some ⟨za, 0, none⟩), .pointer (some ⟨zf, 0, none⟩)]) := by
    have := ord.out
    have := S2.out
    rw [Q7.out.2.1.cell ⟨w.heap.size, 0, none⟩ (by show w.heap.size < _; omega) (by show w.heap.size ≠ _; omega) (by show w.heap.size ≠ _; omega)]
    exact cx2
  refine sched_call rfl 108 #[.func (.func 74) #[] #[.pointer (some ⟨zn, 0, none⟩), .pointer (some ⟨zf, 0, none⟩)], .func (.func 105) #[] #[.pointer (some ⟨w.heap.size, 0, none⟩)]] (by go_simp) (by go_simp) ?_
  refine (rjobs_any w0 zb za zf zn w.heap.size v l x7 a7 f7 Q7.out.1 (by have := ord.out; omega) cc).mono ?_
  rintro e x8 ⟨n8, a8, f8, u8, rfl, ho, hl, hrd, hd, hk⟩
  obtain ⟨p8, q8, rfl⟩ := ho.len
  have R8 : Hid (Wd.Rd (Wd.plist l (Wd.pjob l)) a7 f7 n8 a8 f8) := hrd
  have O8 : Hid (Jbo x8 x7.heap.size (.slice p8 n8.length q8) n8) := ho
  have Q8 : Hid (Ds w0 zb za zf zn v l x8 a8 f8 ∧ K2 za zf w2 x8 ∧ K2 za zf x7 x8) := ⟨hd, Q7.out.2.1.trans hk, hk⟩
  clear hrd hd hk ho hl cc
  refine ⟨_, rfl, ?_, ?_⟩
  · have := ord.out
    have := S2.out
    rw [Q8.out.2.1.cell ⟨w.heap.size, 0, none⟩ (by show w.heap.size < _; omega) (by show w.heap.size ≠ _; omega) (by show w.heap.size ≠ _; omega)]
    exact cx2
  go_simp
  have Z : Hid (x8.heap[w.heap.size + 1]? = some (Obj.cells #[.int .i64 0, .int .i64 0, .int .i64 0, .int .i64 0, .slice none 0 0, .slice none 0 0, .slice none 0 0, .slice none 0 0, .slice none 0 0] 49 (0, 0))) := by
    unfold Hid
    have := ord.out
    have := S2.out
    rw [Q8.out.2.1.block (w.heap.size + 1) (by omega) (by omega) (by omega)]
    exact Z2.out
  have c0 : x8.cell? ⟨w.heap.size + 1, 0, none⟩ = some (.int .i64 0) := by have := Z.out; simp [World.cell?, this]
  have t0 : x8.frozen? ⟨w.heap.size + 1, 0, none⟩ = false := by have := Z.out; simp [World.frozen?, this]
  have c1 : x8.cell? ⟨w.heap.size + 1, 1, none⟩ = some (.int .i64 0) := by have := Z.out; simp [World.cell?, this]
  have t1 : x8.frozen? ⟨w.heap.size + 1, 1, none⟩ = false := by have := Z.out; simp [World.frozen?, this]
  have c2 : x8.cell? ⟨w.heap.size + 1, 2, none⟩ = some (.int .i64 0) := by have := Z.out; simp [World.cell?, this]
  have t2 : x8.frozen? ⟨w.heap.size + 1, 2, none⟩ = false := by have := Z.out; simp [World.frozen?, this]
  have c3 : x8.cell? ⟨w.heap.size + 1, 3, none⟩ = some (.int .i64 0) := by have := Z.out; simp [World.cell?, this]
  have t3 : x8.frozen? ⟨w.heap.size + 1, 3, none⟩ = false := by have := Z.out; simp [World.frozen?, this]
  have c4 : x8.cell? ⟨w.heap.size + 1, 4, none⟩ = some (.slice none 0 0) := by have := Z.out; simp [World.cell?, this]
  have t4 : x8.frozen? ⟨w.heap.size + 1, 4, none⟩ = false := by have := Z.out; simp [World.frozen?, this]
  have c5 : x8.cell? ⟨w.heap.size + 1, 5, none⟩ = some (.slice none 0 0) := by have := Z.out; simp [World.cell?, this]
  have t5 : x8.frozen? ⟨w.heap.size + 1, 5, none⟩ = false := by have := Z.out; simp [World.frozen?, this]
  have c6 : x8.cell? ⟨w.heap.size + 1, 6, none⟩ = some (.slice none 0 0) := by have := Z.out; simp [World.cell?, this]
  have t6 : x8.frozen? ⟨w.heap.size + 1, 6, none⟩ = false := by have := Z.out; simp [World.frozen?, this]
  have c7 : x8.cell? ⟨w.heap.size + 1, 7, none⟩ = some (.slice none 0 0) := by have := Z.out; simp [World.cell?, this]
  have t7 : x8.frozen? ⟨w.heap.size + 1, 7, none⟩ = false := by have := Z.out; simp [World.frozen?, this]
  have c8 : x8.cell? ⟨w.heap.size + 1, 8, none⟩ = some (.slice none 0 0) := by have := Z.out; simp [World.cell?, this]
  have t8 : x8.frozen? ⟨w.heap.size + 1, 8, none⟩ = false := by have := Z.out; simp [World.frozen?, this]
  have cxx : x8.cell? ⟨w.heap.size, 0, none⟩ = some (.func (.func 72) #[] #[.pointer (some ⟨zb, 0, none⟩), .pointer (some ⟨za, 0, none⟩), .pointer (some ⟨zf, 0, none⟩)]) := by
    have := ord.out
    have := S2.out
    rw [Q8.out.2.1.cell ⟨w.heap.size, 0, none⟩ (by show w.heap.size < _; omega) (by show w.heap.size ≠ _; omega) (by show w.heap.size ≠ _; omega)]
    exact cx2
  refine sched_value rfl (.agg #[.int .i64 n0, .int .i64 n1, .int .i64 n2, .int .i64 n3, .slice p4 n4.length q4, .slice p5 n5.length q5, .slice p6 n6.length q6, .slice p7 n7.length q7, .slice p8 n8.length q8]) x8 (by go_simp) (by go_simp) cxx ?_
  go_simp
  have KC : Hid (K2 (w.heap.size + 1) (w.heap.size + 1) x8 (((((((((x8.setCell ⟨w.heap.size + 1, 0, none⟩ (.int .i64 n0)).setCell ⟨w.heap.size + 1, 1, none⟩ (.int .i64 n1)).setCell ⟨w.heap.size + 1, 2, none⟩ (.int .i64 n2)).setCell ⟨w.heap.size + 1, 3, none⟩ (.int .i64 n3)).setCell ⟨w.heap.size + 1, 4, none⟩ (.slice p4 n4.length q4)).setCell ⟨w.heap.size + 1, 5, none⟩ (.slice p5 n5.length q5)).setCell ⟨w.heap.size + 1, 6, none⟩ (.slice p6 n6.length q6)).setCell ⟨w.heap.size + 1, 7, none⟩ (.slice p7 n7.length q7)).setCell ⟨w.heap.size + 1, 8, none⟩ (.slice p8 n8.length q8))) := (((((((((K2.setY x8 0 _).trans (K2.setY _ 1 _)).trans (K2.setY _ 2 _)).trans (K2.setY _ 3 _)).trans (K2.setY _ 4 _)).trans (K2.setY _ 5 _)).trans (K2.setY _ 6 _)).trans (K2.setY _ 7 _)).trans (K2.setY _ 8 _))
  have ZZ : Hid ((((((((((x8.setCell ⟨w.heap.size + 1, 0, none⟩ (.int .i64 n0)).setCell ⟨w.heap.size + 1, 1, none⟩ (.int .i64 n1)).setCell ⟨w.heap.size + 1, 2, none⟩ (.int .i64 n2)).setCell ⟨w.heap.size + 1, 3, none⟩ (.int .i64 n3)).setCell ⟨w.heap.size + 1, 4, none⟩ (.slice p4 n4.length q4)).setCell ⟨w.heap.size + 1, 5, none⟩ (.slice p5 n5.length q5)).setCell ⟨w.heap.size + 1, 6, none⟩ (.slice p6 n6.length q6)).setCell ⟨w.heap.size + 1, 7, none⟩ (.slice p7 n7.length q7)).setCell ⟨w.heap.size + 1, 8, none⟩ (.slice p8 n8.length q8)).heap[w.heap.size + 1]? = some (Obj.cells #[.int .i64 n0, .int .i64 n1, .int .i64 n2, .int .i64 n3, .slice p4 n4.length q4, .slice p5 n5.length q5, .slice p6 n6.length q6, .slice p7 n7.length q7, .slice p8 n8.length q8] 49 (0, 0))) := heap_setCell_same _ (w.heap.size + 1) 8 _ _ (.slice p8 n8.length q8) (heap_setCell_same _ (w.heap.size + 1) 7 _ _ (.slice p7 n7.length q7) (heap_setCell_same _ (w.heap.size + 1) 6 _ _ (.slice p6 n6.length q6) (heap_setCell_same _ (w.heap.size + 1) 5 _ _ (.slice p5 n5.length q5) (heap_setCell_same _ (w.heap.size + 1) 4 _ _ (.slice p4 n4.length q4) (heap_setCell_same _ (w.heap.size + 1) 3 _ _ (.int .i64 n3) (heap_setCell_same _ (w.heap.size + 1) 2 _ _ (.int .i64 n2) (heap_setCell_same _ (w.heap.size + 1) 1 _ _ (.int .i64 n1) (heap_setCell_same _ (w.heap.size + 1) 0 _ _ (.int .i64 n0) (Z.out)))))))))
  have X8 : Hid (w.heap.size + 2 ≤ x8.heap.size) := by have := S2.out; have := Q8.out.2.1.size; unfold Hid; omega
  refine sched_skip rfl (((((((((x8.setCell ⟨w.heap.size + 1, 0, none⟩ (.int .i64 n0)).setCell ⟨w.heap.size + 1, 1, none⟩ (.int .i64 n1)).setCell ⟨w.heap.size + 1, 2, none⟩ (.int .i64 n2)).setCell ⟨w.heap.size + 1, 3, none⟩ (.int .i64 n3)).setCell ⟨w.heap.size + 1, 4, none⟩ (.slice p4 n4.length q4)).setCell ⟨w.heap.size + 1, 5, none⟩ (.slice p5 n5.length q5)).setCell ⟨w.heap.size + 1, 6, none⟩ (.slice p6 n6.length q6)).setCell ⟨w.heap.size + 1, 7, none⟩ (.slice p7 n7.length q7)).setCell ⟨w.heap.size + 1, 8, none⟩ (.slice p8 n8.length q8)) (by go_simp) (by go_simp) ((KC.out.cell ⟨w.heap.size, 0, none⟩ (by have := X8.out; show w.heap.size < _; omega) (by show w.heap.size ≠ _; omega) (by show w.heap.size ≠ _; omega)).trans cxx) ?_
  go_simp
  generalize (((((((((x8.setCell ⟨w.heap.size + 1, 0, none⟩ (.int .i64 n0)).setCell ⟨w.heap.size + 1, 1, none⟩ (.int .i64 n1)).setCell ⟨w.heap.size + 1, 2, none⟩ (.int .i64 n2)).setCell ⟨w.heap.size + 1, 3, none⟩ (.int .i64 n3)).setCell ⟨w.heap.size + 1, 4, none⟩ (.slice p4 n4.length q4)).setCell ⟨w.heap.size + 1, 5, none⟩ (.slice p5 n5.length q5)).setCell ⟨w.heap.size + 1, 6, none⟩ (.slice p6 n6.length q6)).setCell ⟨w.heap.size + 1, 7, none⟩ (.slice p7 n7.length q7)).setCell ⟨w.heap.size + 1, 8, none⟩ (.slice p8 n8.length q8)) = w3 at *
  unfold wpSched
  have s4 : w2.heap.size ≤ x3.heap.size := Q3.out.2.1.size
  have s5 : x3.heap.size ≤ x4.heap.size := Q4.out.2.2.size
  have s6 : x4.heap.size ≤ x5.heap.size := Q5.out.2.2.size
  have s7 : x5.heap.size ≤ x6.heap.size := Q6.out.2.2.size
  have s8 : x6.heap.size ≤ x7.heap.size := Q7.out.2.2.size
  have s2 := S2.out
  have od := ord.out
  have k78 := Q8.out.2.2
  have k68 := Q7.out.2.2.trans k78
  have k58 := Q6.out.2.2.trans k68
  have k48 := Q5.out.2.2.trans k58
  have FIN : Hid (RwSays w0 zb za zf zn v l w a f (.returned (.agg #[.int .i64 n0, .int .i64 n1, .int .i64 n2, .int .i64 n3, .slice p4 n4.length q4, .slice p5 n5.length q5, .slice p6 n6.length q6, .slice p7 n7.length q7, .slice p8 n8.length q8])) w3) := by
    refine ⟨⟨n0, n1, n2, n3, n4, n5, n6, n7, n8⟩, a8, f8, _, rfl, ⟨_, _, _, _, _, rfl, ?_, ?_, ?_, ?_, ?_⟩, R0.out.bind (R1.out.bind (R2.out.bind (R3.out.bind (R4.out.bind (R5.out.bind (R6.out.bind (R7.out.bind (R8.out.bind (Wd.Rd.ret _ _ _))))))))), ?_, ?_⟩
    · exact Ow.mono (owns_k2 (owns_k2 O4.out k48 (by omega) (by omega)) KC.out (by omega) (by omega)) (by omega)
    · exact Ow.mono (owns_k2 (owns_k2 O5.out k58 (by omega) (by omega)) KC.out (by omega) (by omega)) (by omega)
    · exact Ow.mono (owns_k2 (owns_k2 O6.out k68 (by omega) (by omega)) KC.out (by omega) (by omega)) (by omega)
    · exact Uno.mono (owns_k2 (owns_k2 O7.out k78 (by omega) (by omega)) KC.out (by omega) (by omega)) (by omega)
    · exact Jbo.mono (owns_k2 O8.out KC.out (by omega) (by omega)) (by omega)
    · exact Q8.out.1.kept (K2.below (Below.refl _ _) KC.out (by have := X8.out; omega) (by omega) (by omega))
    · exact (E0.out.2.trans Q8.out.2.1).then_below (K2.below (Below.refl _ _) KC.out (by have := X8.out; omega) (by omega) (by omega))
  have y0 : w3.cell? ⟨w.heap.size + 1, 0, none⟩ = some (.int .i64 n0) := by have := ZZ.out; simp [World.cell?, this]
  have y1 : w3.cell? ⟨w.heap.size + 1, 1, none⟩ = some (.int .i64 n1) := by have := ZZ.out; simp [World.cell?, this]
  have y2 : w3.cell? ⟨w.heap.size + 1, 2, none⟩ = some (.int .i64 n2) := by have := ZZ.out; simp [World.cell?, this]
  have y3 : w3.cell? ⟨w.heap.size + 1, 3, none⟩ = some (.int .i64 n3) := by have := ZZ.out; simp [World.cell?, this]
  have y4 : w3.cell? ⟨w.heap.size + 1, 4, none⟩ = some (.slice p4 n4.length q4) := by have := ZZ.out; simp [World.cell?, this]
  have y5 : w3.cell? ⟨w.heap.size + 1, 5, none⟩ = some (.slice p5 n5.length q5) := by have := ZZ.out; simp [World.cell?, this]
  have y6 : w3.cell? ⟨w.heap.size + 1, 6, none⟩ = some (.slice p6 n6.length q6) := by have := ZZ.out; simp [World.cell?, this]
  have y7 : w3.cell? ⟨w.heap.size + 1, 7, none⟩ = some (.slice p7 n7.length q7) := by have := ZZ.out; simp [World.cell?, this]
  have y8 : w3.cell? ⟨w.heap.size + 1, 8, none⟩ = some (.slice p8 n8.length q8) := by have := ZZ.out; simp [World.cell?, this]
  clear c0 t0 c1 t1 c2 t2 c3 t3 c4 t4 c5 t5 c6 t6 c7 t7 c8 t8 s2 s4 s5 s6 s7 s8 od k78 k68 k58 k48
  go_wp2
  refine bodyPost_ret (v := .agg #[.int .i64 n0, .int .i64 n1, .int .i64 n2, .int .i64 n3, .slice p4 n4.length q4, .slice p5 n5.length q5, .slice p6 n6.length q6, .slice p7 n7.length q7, .slice p8 n8.length q8]) (by simp [results, Tryd.results75, go_sem, y0, y1, y2, y3, y4, y5, y6, y7, y8]) rfl FIN.out
end Go.Proofs.YtefepjiajgoomaaDoor
