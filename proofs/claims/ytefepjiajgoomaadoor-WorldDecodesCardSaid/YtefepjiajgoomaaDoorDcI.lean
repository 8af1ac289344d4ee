/- Worlds: Decode. -/
import Derived.Test.YtefepjiajgoomaaDoorDcH
import Derived.Test.YtefepjiajgoomaaDoorWdB
import Derived.Deep.RegionHeld3
namespace Go.Proofs.YtefepjiajgoomaaDoor
open Go.RowKit
set_option linter.unusedVariables false

/-- what Decode says. -/
def DecSays (l : List UInt8) (w : World) (e : Ending) (w' : World) : Prop := match Wd.pworld l 0 with
  | some (W, n) => ∃ u, e = .returned (.tuple #[u, .int .i64 (n : Nat), .nilIface]) ∧ Wo w' w.heap.size u W
  | none => e = .returned (.tuple #[.agg #[.int .i64 0, .int .i64 0, .int .i64 0, .int .i64 0, .slice none 0 0, .slice none 0 0, .slice none 0 0, .slice none 0 0, .slice none 0 0], .int .i64 0, .iface 77 (.int .i64 9)])
set_option maxRecDepth 100000 in
set_option maxHeartbeats 8000000 in
theorem decode_any (v : Value) (l : List UInt8) (w : World) (h : By w v l) :
    Calls Tryd.prog 35 #[v] w fun e w' => DecSays l w e w' ∧ Below w.heap.size w w' := by
  have B : Hid (By w v l) := h
  obtain ⟨ad, cap, rfl, h1, h2, h3⟩ := h
  clear h1 h2 h3
  have sf : ∀ (a : Addr) (f : Fn) (x y : Array Value) (w : World) (m : Mode), (store a (.func f x y) m).run Tryd.prog w = stored Tryd.prog w a (.func f x y) m := fun a f x y w m => run_store _ w a _ m rfl
  go_enter Tryd.func35, Tryd.ntmps35
  go_wp2_with fail
  have D1 : Hid (Ds w w.heap.size (w.heap.size + 1 + 1) (w.heap.size + 1 + 1 + 1) (w.heap.size + 1 + 1 + 1 + 1) (.slice ad l.length cap) l (((((w.alloc (Obj.cells #[.slice ad l.length cap] 66)).alloc (Obj.cells #[.int .i64 0, .int .i64 0, .int .i64 0, .int .i64 0, .slice none 0 0, .slice none 0 0, .slice none 0 0, .slice none 0 0, .slice none 0 0] 49)).alloc (Obj.cells #[.int .i64 0] 3)).alloc (Obj.cells #[.bool false] 4)).alloc (Obj.cells #[.func (.func 72) #[] #[.pointer (some ⟨w.heap.size, 0, none⟩), .pointer (some ⟨w.heap.size + 1 + 1, 0, none⟩), .pointer (some ⟨w.heap.size + 1 + 1 + 1, 0, none⟩)]] 125)) 0 false) := by
    have f1 : (w.alloc (Obj.cells #[.slice ad l.length cap] 66)).heap.size = w.heap.size + 1 := by simp
    have f2 : ((w.alloc (Obj.cells #[.slice ad l.length cap] 66)).alloc (Obj.cells #[.int .i64 0, .int .i64 0, .int .i64 0, .int .i64 0, .slice none 0 0, .slice none 0 0, .slice none 0 0, .slice none 0 0, .slice none 0 0] 49)).heap.size = w.heap.size + 1 + 1 := by simp
    have f3 : (((w.alloc (Obj.cells #[.slice ad l.length cap] 66)).alloc (Obj.cells #[.int .i64 0, .int .i64 0, .int .i64 0, .int .i64 0, .slice none 0 0, .slice none 0 0, .slice none 0 0, .slice none 0 0, .slice none 0 0] 49)).alloc (Obj.cells #[.int .i64 0] 3)).heap.size = w.heap.size + 1 + 1 + 1 := by simp
    have f4 : ((((w.alloc (Obj.cells #[.slice ad l.length cap] 66)).alloc (Obj.cells #[.int .i64 0, .int .i64 0, .int .i64 0, .int .i64 0, .slice none 0 0, .slice none 0 0, .slice none 0 0, .slice none 0 0, .slice none 0 0] 49)).alloc (Obj.cells #[.int .i64 0] 3)).alloc (Obj.cells #[.bool false] 4)).heap.size = w.heap.size + 1 + 1 + 1 + 1 := by simp
    have g1 : Below (w.heap.size + 1) (w.alloc (Obj.cells #[.slice ad l.length cap] 66)) (((((w.alloc (Obj.cells #[.slice ad l.length cap] 66)).alloc (Obj.cells #[.int .i64 0, .int .i64 0, .int .i64 0, .int .i64 0, .slice none 0 0, .slice none 0 0, .slice none 0 0, .slice none 0 0, .slice none 0 0] 49)).alloc (Obj.cells #[.int .i64 0] 3)).alloc (Obj.cells #[.bool false] 4)).alloc (Obj.cells #[.func (.func 72) #[] #[.pointer (some ⟨w.heap.size, 0, none⟩), .pointer (some ⟨w.heap.size + 1 + 1, 0, none⟩), .pointer (some ⟨w.heap.size + 1 + 1 + 1, 0, none⟩)]] 125)) := ((((Below.refl _ _).alloc (by simp) _).alloc (by simp) _).alloc (by simp <;> omega) _).alloc (by simp <;> omega) _
    have g3 : Below (w.heap.size + 1 + 1 + 1) (((w.alloc (Obj.cells #[.slice ad l.length cap] 66)).alloc (Obj.cells #[.int .i64 0, .int .i64 0, .int .i64 0, .int .i64 0, .slice none 0 0, .slice none 0 0, .slice none 0 0, .slice none 0 0, .slice none 0 0] 49)).alloc (Obj.cells #[.int .i64 0] 3)) (((((w.alloc (Obj.cells #[.slice ad l.length cap] 66)).alloc (Obj.cells #[.int .i64 0, .int .i64 0, .int .i64 0, .int .i64 0, .slice none 0 0, .slice none 0 0, .slice none 0 0, .slice none 0 0, .slice none 0 0] 49)).alloc (Obj.cells #[.int .i64 0] 3)).alloc (Obj.cells #[.bool false] 4)).alloc (Obj.cells #[.func (.func 72) #[] #[.pointer (some ⟨w.heap.size, 0, none⟩), .pointer (some ⟨w.heap.size + 1 + 1, 0, none⟩), .pointer (some ⟨w.heap.size + 1 + 1 + 1, 0, none⟩)]] 125)) := ((Below.refl _ _).alloc (by simp) _).alloc (by simp) _
    have g4 : Below (w.heap.size + 1 + 1 + 1 + 1) ((((w.alloc (Obj.cells #[.slice ad l.length cap] 66)).alloc (Obj.cells #[.int .i64 0, .int .i64 0, .int .i64 0, .int .i64 0, .slice none 0 0, .slice none 0 0, .slice none 0 0, .slice none 0 0, .slice none 0 0] 49)).alloc (Obj.cells #[.int .i64 0] 3)).alloc (Obj.cells #[.bool false] 4)) (((((w.alloc (Obj.cells #[.slice ad l.length cap] 66)).alloc (Obj.cells #[.int .i64 0, .int .i64 0, .int .i64 0, .int .i64 0, .slice none 0 0, .slice none 0 0, .slice none 0 0, .slice none 0 0, .slice none 0 0] 49)).alloc (Obj.cells #[.int .i64 0] 3)).alloc (Obj.cells #[.bool false] 4)).alloc (Obj.cells #[.func (.func 72) #[] #[.pointer (some ⟨w.heap.size, 0, none⟩), .pointer (some ⟨w.heap.size + 1 + 1, 0, none⟩), .pointer (some ⟨w.heap.size + 1 + 1 + 1, 0, none⟩)]] 125)) := (Below.refl _ _).alloc (by simp) _
    refine ⟨⟨B.out, Nat.le_refl _, by omega, by omega, (((((Below.refl _ _).alloc (Nat.le_refl _) _).alloc (by simp) _).alloc (by simp <;> omega) _).alloc (by simp <;> omega) _).alloc (by simp <;> omega) _, ?_, ?_, ?_, Nat.zero_le _⟩, by omega, ?_⟩
    · rw [g1.cell (p := ⟨w.heap.size, 0, none⟩) (Nat.lt_succ_self _)]
      exact cell_of_new rfl rfl
    · rw [g3.block (w.heap.size + 1 + 1) (by omega), ← f2, heap_alloc_new]
      rfl
    · rw [g4.block (w.heap.size + 1 + 1 + 1) (by omega), ← f3, heap_alloc_new]
    · exact cell_of_new f4 rfl
  have ZR : Hid ((((((w.alloc (Obj.cells #[.slice ad l.length cap] 66)).alloc (Obj.cells #[.int .i64 0, .int .i64 0, .int .i64 0, .int .i64 0, .slice none 0 0, .slice none 0 0, .slice none 0 0, .slice none 0 0, .slice none 0 0] 49)).alloc (Obj.cells #[.int .i64 0] 3)).alloc (Obj.cells #[.bool false] 4)).alloc (Obj.cells #[.func (.func 72) #[] #[.pointer (some ⟨w.heap.size, 0, none⟩), .pointer (some ⟨w.heap.size + 1 + 1, 0, none⟩), .pointer (some ⟨w.heap.size + 1 + 1 + 1, 0, none⟩)]] 125)).heap[w.heap.size + 1]? = some (Obj.cells #[.int .i64 0, .int .i64 0, .int .i64 0, .int .i64 0, .slice none 0 0, .slice none 0 0, .slice none 0 0, .slice none 0 0, .slice none 0 0] 49 (0, 0))) := by
    have f1 : (w.alloc (Obj.cells #[.slice ad l.length cap] 66)).heap.size = w.heap.size + 1 := by simp
    have g2 : Below (w.heap.size + 1 + 1) ((w.alloc (Obj.cells #[.slice ad l.length cap] 66)).alloc (Obj.cells #[.int .i64 0, .int .i64 0, .int .i64 0, .int .i64 0, .slice none 0 0, .slice none 0 0, .slice none 0 0, .slice none 0 0, .slice none 0 0] 49)) (((((w.alloc (Obj.cells #[.slice ad l.length cap] 66)).alloc (Obj.cells #[.int .i64 0, .int .i64 0, .int .i64 0, .int .i64 0, .slice none 0 0, .slice none 0 0, .slice none 0 0, .slice none 0 0, .slice none 0 0] 49)).alloc (Obj.cells #[.int .i64 0] 3)).alloc (Obj.cells #[.bool false] 4)).alloc (Obj.cells #[.func (.func 72) #[] #[.pointer (some ⟨w.heap.size, 0, none⟩), .pointer (some ⟨w.heap.size + 1 + 1, 0, none⟩), .pointer (some ⟨w.heap.size + 1 + 1 + 1, 0, none⟩)]] 125)) := (((Below.refl _ _).alloc (by simp) _).alloc (by simp) _).alloc (by simp <;> omega) _
    unfold Hid
    rw [g2.block (w.heap.size + 1) (by omega), ← f1, heap_alloc_new]
  have B1 : Hid (Below w.heap.size w (((((w.alloc (Obj.cells #[.slice ad l.length cap] 66)).alloc (Obj.cells #[.int .i64 0, .int .i64 0, .int .i64 0, .int .i64 0, .slice none 0 0, .slice none 0 0, .slice none 0 0, .slice none 0 0, .slice none 0 0] 49)).alloc (Obj.cells #[.int .i64 0] 3)).alloc (Obj.cells #[.bool false] 4)).alloc (Obj.cells #[.func (.func 72) #[] #[.pointer (some ⟨w.heap.size, 0, none⟩), .pointer (some ⟨w.heap.size + 1 + 1, 0, none⟩), .pointer (some ⟨w.heap.size + 1 + 1 + 1, 0, none⟩)]] 125))) := (((((Below.refl _ _).alloc (Nat.le_refl _) _).alloc (by simp) _).alloc (by simp <;> omega) _).alloc (by simp <;> omega) _).alloc (by simp <;> omega) _
  have S1 : Hid ((((((w.alloc (Obj.cells #[.slice ad l.length cap] 66)).alloc (Obj.cells #[.int .i64 0, .int .i64 0, .int .i64 0, .int .i64 0, .slice none 0 0, .slice none 0 0, .slice none 0 0, .slice none 0 0, .slice none 0 0] 49)).alloc (Obj.cells #[.int .i64 0] 3)).alloc (Obj.cells #[.bool false] 4)).alloc (Obj.cells #[.func (.func 72) #[] #[.pointer (some ⟨w.heap.size, 0, none⟩), .pointer (some ⟨w.heap.size + 1 + 1, 0, none⟩), .pointer (some ⟨w.heap.size + 1 + 1 + 1, 0, none⟩)]] 125)).heap.size = w.heap.size + 5) := by unfold Hid; simp
  generalize (((((w.alloc (Obj.cells #[.slice ad l.length cap] 66)).alloc (Obj.cells #[.int .i64 0, .int .i64 0, .int .i64 0, .int .i64 0, .slice none 0 0, .slice none 0 0, .slice none 0 0, .slice none 0 0, .slice none 0 0] 49)).alloc (Obj.cells #[.int .i64 0] 3)).alloc (Obj.cells #[.bool false] 4)).alloc (Obj.cells #[.func (.func 72) #[] #[.pointer (some ⟨w.heap.size, 0, none⟩), .pointer (some ⟨w.heap.size + 1 + 1, 0, none⟩), .pointer (some ⟨w.heap.size + 1 + 1 + 1, 0, none⟩)]] 125)) = w1 at *
  generalize hzn : w.heap.size + 1 + 1 + 1 + 1 = zn at *
  generalize hzf : w.heap.size + 1 + 1 + 1 = zf at *
  generalize hza : w.heap.size + 1 + 1 = za at *
  generalize hzr : w.heap.size + 1 = zr at *
  have OR : Hid (w.heap.size + 1 = zr ∧ w.heap.size + 2 = za ∧ w.heap.size + 3 = zf ∧ w.heap.size + 4 = zn) := ⟨hzr, by omega, by omega, by omega⟩
  clear hzn hzf hza hzr sf
  refine (rworld_any w w.heap.size za zf zn (.slice ad l.length cap) l w1 0 false D1.out).mono ?_
  rintro e w2 ⟨W, a', f', u, rfl, hwo, hrd, hds, hk⟩
  have WO : Hid (Wo w2 w1.heap.size u W) := hwo
  have RD : Hid (Wd.Rd (Wd.pworld l) 0 false W a' f') := hrd
  have D2 : Hid (Ds w w.heap.size za zf zn (.slice ad l.length cap) l w2 a' f') := hds
  have K : Hid (K2 za zf w1 w2) := hk
  obtain ⟨u1, u2, u3, u4, u5, rfl, o1, o2, o3, o4, o5⟩ := hwo
  obtain ⟨p1, q1, rfl⟩ := o1.len
  obtain ⟨p2, q2, rfl⟩ := o2.len
  obtain ⟨p3, q3, rfl⟩ := o3.len
  obtain ⟨p4, q4, rfl⟩ := o4.len
  obtain ⟨p5, q5, rfl⟩ := o5.len
  clear hrd hds hk o1 o2 o3 o4 o5
  go_upto_region 5 with fail
  have S2 : Hid (w.heap.size + 5 ≤ w2.heap.size) := by have := S1.out; have := K.out.size; unfold Hid; omega
  have ZR2 : Hid (w2.heap[zr]? = some (Obj.cells #[.int .i64 0, .int .i64 0, .int .i64 0, .int .i64 0, .slice none 0 0, .slice none 0 0, .slice none 0 0, .slice none 0 0, .slice none 0 0] 49 (0, 0))) := by
    unfold Hid
    have := OR.out
    have := S1.out
    rw [K.out.block zr (by omega) (by omega) (by omega)]
    exact ZR.out
  have AL : Hid (Below w2.heap.size w2 (w2.alloc (Obj.cells #[.int .i64 W.turn, .int .i64 W.next, .int .i64 W.wide, .int .i64 W.high, .slice p1 W.gs.length q1, .slice p2 W.os.length q2, .slice p3 W.gold.length q3, .slice p4 W.us.length q4, .slice p5 W.qs.length q5] 49))) := (Below.refl _ _).alloc (Nat.le_refl _) _
  have y0 : (w2.alloc (Obj.cells #[.int .i64 W.turn, .int .i64 W.next, .int .i64 W.wide, .int .i64 W.high, .slice p1 W.gs.length q1, .slice p2 W.os.length q2, .slice p3 W.gold.length q3, .slice p4 W.us.length q4, .slice p5 W.qs.length q5] 49)).cell? ⟨w2.heap.size, 0, none⟩ = some (.int .i64 W.turn) := cell_of_new rfl rfl
  have y1 : (w2.alloc (Obj.cells #[.int .i64 W.turn, .int .i64 W.next, .int .i64 W.wide, .int .i64 W.high, .slice p1 W.gs.length q1, .slice p2 W.os.length q2, .slice p3 W.gold.length q3, .slice p4 W.us.length q4, .slice p5 W.qs.length q5] 49)).cell? ⟨w2.heap.size, 1, none⟩ = some (.int .i64 W.next) := cell_of_new rfl rfl
  have y2 : (w2.alloc (Obj.cells #[.int .i64 W.turn, .int .i64 W.next, .int .i64 W.wide, .int .i64 W.high, .slice p1 W.gs.length q1, .slice p2 W.os.length q2, .slice p3 W.gold.length q3, .slice p4 W.us.length q4, .slice p5 W.qs.length q5] 49)).cell? ⟨w2.heap.size, 2, none⟩ = some (.int .i64 W.wide) := cell_of_new rfl rfl
  have y3 : (w2.alloc (Obj.cells #[.int .i64 W.turn, .int .i64 W.next, .int .i64 W.wide, .int .i64 W.high, .slice p1 W.gs.length q1, .slice p2 W.os.length q2, .slice p3 W.gold.length q3, .slice p4 W.us.length q4, .slice p5 W.qs.length q5] 49)).cell? ⟨w2.heap.size, 3, none⟩ = some (.int .i64 W.high) := cell_of_new rfl rfl
  have y4 : (w2.alloc (Obj.cells #[.int .i64 W.turn, .int .i64 W.next, .int .i64 W.wide, .int .i64 W.high, .slice p1 W.gs.length q1, .slice p2 W.os.length q2, .slice p3 W.gold.length q3, .slice p4 W.us.length q4, .slice p5 W.qs.length q5] 49)).cell? ⟨w2.heap.size, 4, none⟩ = some (.slice p1 W.gs.length q1) := cell_of_new rfl rfl
  have y5 : (w2.alloc (Obj.cells #[.int .i64 W.turn, .int .i64 W.next, .int .i64 W.wide, .int .i64 W.high, .slice p1 W.gs.length q1, .slice p2 W.os.length q2, .slice p3 W.gold.length q3, .slice p4 W.us.length q4, .slice p5 W.qs.length q5] 49)).cell? ⟨w2.heap.size, 5, none⟩ = some (.slice p2 W.os.length q2) := cell_of_new rfl rfl
  have y6 : (w2.alloc (Obj.cells #[.int .i64 W.turn, .int .i64 W.next, .int .i64 W.wide, .int .i64 W.high, .slice p1 W.gs.length q1, .slice p2 W.os.length q2, .slice p3 W.gold.length q3, .slice p4 W.us.length q4, .slice p5 W.qs.length q5] 49)).cell? ⟨w2.heap.size, 6, none⟩ = some (.slice p3 W.gold.length q3) := cell_of_new rfl rfl
  have y7 : (w2.alloc (Obj.cells #[.int .i64 W.turn, .int .i64 W.next, .int .i64 W.wide, .int .i64 W.high, .slice p1 W.gs.length q1, .slice p2 W.os.length q2, .slice p3 W.gold.length q3, .slice p4 W.us.length q4, .slice p5 W.qs.length q5] 49)).cell? ⟨w2.heap.size, 7, none⟩ = some (.slice p4 W.us.length q4) := cell_of_new rfl rfl
  have y8 : (w2.alloc (Obj.cells #[.int .i64 W.turn, .int .i64 W.next, .int .i64 W.wide, .int .i64 W.high, .slice p1 W.gs.length q1, .slice p2 W.os.length q2, .slice p3 W.gold.length q3, .slice p4 W.us.length q4, .slice p5 W.qs.length q5] 49)).cell? ⟨w2.heap.size, 8, none⟩ = some (.slice p5 W.qs.length q5) := cell_of_new rfl rfl
  generalize (w2.alloc (Obj.cells #[.int .i64 W.turn, .int .i64 W.next, .int .i64 W.wide, .int .i64 W.high, .slice p1 W.gs.length q1, .slice p2 W.os.length q2, .slice p3 W.gold.length q3, .slice p4 W.us.length q4, .slice p5 W.qs.length q5] 49)) = w3 at *
  have ZR3 : Hid (w3.heap[zr]? = some (Obj.cells #[.int .i64 0, .int .i64 0, .int .i64 0, .int .i64 0, .slice none 0 0, .slice none 0 0, .slice none 0 0, .slice none 0 0, .slice none 0 0] 49 (0, 0))) := by
    unfold Hid
    have := OR.out
    have := S2.out
    rw [AL.out.block zr (by omega)]
    exact ZR2.out
  have D3 : Hid (Dc w w.heap.size za zf (.slice ad l.length cap) l w3 a' f') := D2.out.d.kept (AL.out.mono (by have := OR.out; have := S2.out; omega))
  have W3 : Hid (Wo w3 w1.heap.size (.agg #[.int .i64 W.turn, .int .i64 W.next, .int .i64 W.wide, .int .i64 W.high, .slice p1 W.gs.length q1, .slice p2 W.os.length q2, .slice p3 W.gold.length q3, .slice p4 W.us.length q4, .slice p5 W.qs.length q5]) W) := WO.out.below AL.out
  have B3 : Hid (Below w.heap.size w w3) := (K2.below B1.out K.out (by have := S1.out; omega) (by have := OR.out; omega) (by have := OR.out; omega)).trans (AL.out.mono (by have := S2.out; omega))
  have KZ : Hid (∀ x : World, K2 zr zr w3 x → Wo x w.heap.size (.agg #[.int .i64 W.turn, .int .i64 W.next, .int .i64 W.wide, .int .i64 W.high, .slice p1 W.gs.length q1, .slice p2 W.os.length q2, .slice p3 W.gold.length q3, .slice p4 W.us.length q4, .slice p5 W.qs.length q5]) W ∧ Below w.heap.size w x) := fun x hx => by
    have h1 := OR.out
    have h2 := S1.out
    have h3 := S2.out
    have h4 := AL.out.size
    have h5 := W3.out.k2 hx (by omega) (by omega)
    obtain ⟨v1, v2, v3, v4, v5, e, m1, m2, m3, m4, m5⟩ := h5
    exact ⟨⟨v1, v2, v3, v4, v5, e, m1.mono (by omega), m2.mono (by omega), m3.mono (by omega), m4.mono (by omega), m5.mono (by omega)⟩, K2.below B3.out hx (by omega) (by omega) (by omega)⟩
  have c0 : w3.cell? ⟨zr, 0, none⟩ = some (.int .i64 0) := by have := ZR3.out; simp [World.cell?, this]
  have t0 : w3.frozen? ⟨zr, 0, none⟩ = false := by have := ZR3.out; simp [World.frozen?, this]
  have c1 : w3.cell? ⟨zr, 1, none⟩ = some (.int .i64 0) := by have := ZR3.out; simp [World.cell?, this]
  have t1 : w3.frozen? ⟨zr, 1, none⟩ = false := by have := ZR3.out; simp [World.frozen?, this]
  have c2 : w3.cell? ⟨zr, 2, none⟩ = some (.int .i64 0) := by have := ZR3.out; simp [World.cell?, this]
  have t2 : w3.frozen? ⟨zr, 2, none⟩ = false := by have := ZR3.out; simp [World.frozen?, this]
  have c3 : w3.cell? ⟨zr, 3, none⟩ = some (.int .i64 0) := by have := ZR3.out; simp [World.cell?, this]
  have t3 : w3.frozen? ⟨zr, 3, none⟩ = false := by have := ZR3.out; simp [World.frozen?, this]
  have c4 : w3.cell? ⟨zr, 4, none⟩ = some (.slice none 0 0) := by have := ZR3.out; simp [World.cell?, this]
  have t4 : w3.frozen? ⟨zr, 4, none⟩ = false := by have := ZR3.out; simp [World.frozen?, this]
  have c5 : w3.cell? ⟨zr, 5, none⟩ = some (.slice none 0 0) := by have := ZR3.out; simp [World.cell?, this]
  have t5 : w3.frozen? ⟨zr, 5, none⟩ = false := by have := ZR3.out; simp [World.frozen?, this]
  have c6 : w3.cell? ⟨zr, 6, none⟩ = some (.slice none 0 0) := by have := ZR3.out; simp [World.cell?, this]
  have t6 : w3.frozen? ⟨zr, 6, none⟩ = false := by have := ZR3.out; simp [World.frozen?, this]
  have c7 : w3.cell? ⟨zr, 7, none⟩ = some (.slice none 0 0) := by have := ZR3.out; simp [World.cell?, this]
  have t7 : w3.frozen? ⟨zr, 7, none⟩ = false := by have := ZR3.out; simp [World.frozen?, this]
  have c8 : w3.cell? ⟨zr, 8, none⟩ = some (.slice none 0 0) := by have := ZR3.out; simp [World.cell?, this]
  have t8 : w3.frozen? ⟨zr, 8, none⟩ = false := by have := ZR3.out; simp [World.frozen?, this]
  have n1 : zr ≠ w2.heap.size := by have := OR.out; have := S2.out; omega
  have n2 : zr ≠ za := by have := OR.out; omega
  have n3 : za ≠ w2.heap.size := by have := OR.out; have := S2.out; omega
  have n1' : w2.heap.size ≠ zr := fun e => n1 e.symm
  have n2' : za ≠ zr := fun e => n2 e.symm
  obtain ⟨cf, ff⟩ := D3.out.lf
  obtain ⟨ca, fa⟩ := D3.out.la
  clear ff fa D1 D2 WO W3 ZR ZR2 B B1
  cases f' with
  | true =>
    have E : Hid (Wd.pworld l 0 = none) := by
      rcases RD.out.2 rfl with ⟨-, h⟩ | ⟨h, -⟩
      · cases h
      · exact h
    go_wp2
    have KC : Hid (K2 zr zr w3 (((((((((w3.setCell ⟨zr, 0, none⟩ (.int .i64 0)).setCell ⟨zr, 1, none⟩ (.int .i64 0)).setCell ⟨zr, 2, none⟩ (.int .i64 0)).setCell ⟨zr, 3, none⟩ (.int .i64 0)).setCell ⟨zr, 4, none⟩ (.slice none 0 0)).setCell ⟨zr, 5, none⟩ (.slice none 0 0)).setCell ⟨zr, 6, none⟩ (.slice none 0 0)).setCell ⟨zr, 7, none⟩ (.slice none 0 0)).setCell ⟨zr, 8, none⟩ (.slice none 0 0))) := (((((((((K2.setY w3 0 _).trans (K2.setY _ 1 _)).trans (K2.setY _ 2 _)).trans (K2.setY _ 3 _)).trans (K2.setY _ 4 _)).trans (K2.setY _ 5 _)).trans (K2.setY _ 6 _)).trans (K2.setY _ 7 _)).trans (K2.setY _ 8 _))
    have ZZ : Hid ((((((((((w3.setCell ⟨zr, 0, none⟩ (.int .i64 0)).setCell ⟨zr, 1, none⟩ (.int .i64 0)).setCell ⟨zr, 2, none⟩ (.int .i64 0)).setCell ⟨zr, 3, none⟩ (.int .i64 0)).setCell ⟨zr, 4, none⟩ (.slice none 0 0)).setCell ⟨zr, 5, none⟩ (.slice none 0 0)).setCell ⟨zr, 6, none⟩ (.slice none 0 0)).setCell ⟨zr, 7, none⟩ (.slice none 0 0)).setCell ⟨zr, 8, none⟩ (.slice none 0 0)).heap[zr]? = some (Obj.cells #[.int .i64 0, .int .i64 0, .int .i64 0, .int .i64 0, .slice none 0 0, .slice none 0 0, .slice none 0 0, .slice none 0 0, .slice none 0 0] 49 (0, 0))) := heap_setCell_same _ zr 8 _ _ (.slice none 0 0) (heap_setCell_same _ zr 7 _ _ (.slice none 0 0) (heap_setCell_same _ zr 6 _ _ (.slice none 0 0) (heap_setCell_same _ zr 5 _ _ (.slice none 0 0) (heap_setCell_same _ zr 4 _ _ (.slice none 0 0) (heap_setCell_same _ zr 3 _ _ (.int .i64 0) (heap_setCell_same _ zr 2 _ _ (.int .i64 0) (heap_setCell_same _ zr 1 _ _ (.int .i64 0) (heap_setCell_same _ zr 0 _ _ (.int .i64 0) (ZR3.out)))))))))
    generalize (((((((((w3.setCell ⟨zr, 0, none⟩ (.int .i64 0)).setCell ⟨zr, 1, none⟩ (.int .i64 0)).setCell ⟨zr, 2, none⟩ (.int .i64 0)).setCell ⟨zr, 3, none⟩ (.int .i64 0)).setCell ⟨zr, 4, none⟩ (.slice none 0 0)).setCell ⟨zr, 5, none⟩ (.slice none 0 0)).setCell ⟨zr, 6, none⟩ (.slice none 0 0)).setCell ⟨zr, 7, none⟩ (.slice none 0 0)).setCell ⟨zr, 8, none⟩ (.slice none 0 0)) = w4 at *
    clear c0 t0 y0 c1 t1 y1 c2 t2 y2 c3 t3 y3 c4 t4 y4 c5 t5 y5 c6 t6 y6 c7 t7 y7 c8 t8 y8
    have x0 : w4.cell? ⟨zr, 0, none⟩ = some (.int .i64 0) := by have := ZZ.out; simp [World.cell?, this]
    have x1 : w4.cell? ⟨zr, 1, none⟩ = some (.int .i64 0) := by have := ZZ.out; simp [World.cell?, this]
    have x2 : w4.cell? ⟨zr, 2, none⟩ = some (.int .i64 0) := by have := ZZ.out; simp [World.cell?, this]
    have x3 : w4.cell? ⟨zr, 3, none⟩ = some (.int .i64 0) := by have := ZZ.out; simp [World.cell?, this]
    have x4 : w4.cell? ⟨zr, 4, none⟩ = some (.slice none 0 0) := by have := ZZ.out; simp [World.cell?, this]
    have x5 : w4.cell? ⟨zr, 5, none⟩ = some (.slice none 0 0) := by have := ZZ.out; simp [World.cell?, this]
    have x6 : w4.cell? ⟨zr, 6, none⟩ = some (.slice none 0 0) := by have := ZZ.out; simp [World.cell?, this]
    have x7 : w4.cell? ⟨zr, 7, none⟩ = some (.slice none 0 0) := by have := ZZ.out; simp [World.cell?, this]
    have x8 : w4.cell? ⟨zr, 8, none⟩ = some (.slice none 0 0) := by have := ZZ.out; simp [World.cell?, this]
    refine bodyPost_ret (v := .tuple #[.agg #[.int .i64 0, .int .i64 0, .int .i64 0, .int .i64 0, .slice none 0 0, .slice none 0 0, .slice none 0 0, .slice none 0 0, .slice none 0 0], .int .i64 0, .iface 77 (.int .i64 9)]) (by simp [results, Tryd.results35, go_sem, x0, x1, x2, x3, x4, x5, x6, x7, x8]) rfl ⟨?_, (KZ.out _ KC.out).2⟩
    unfold DecSays
    rw [E.out]
  | false =>
    have E : Hid (Wd.pworld l 0 = some (W, a')) := by
      rcases RD.out.2 rfl with ⟨h, -⟩ | ⟨-, h⟩
      · exact h
      · cases h
    go_wp2
    go_region
    have KC0 : Hid (K2 zr zr w3 (((((((((w3.setCell ⟨zr, 0, none⟩ (.int .i64 W.turn)).setCell ⟨zr, 1, none⟩ (.int .i64 W.next)).setCell ⟨zr, 2, none⟩ (.int .i64 W.wide)).setCell ⟨zr, 3, none⟩ (.int .i64 W.high)).setCell ⟨zr, 4, none⟩ (.slice p1 W.gs.length q1)).setCell ⟨zr, 5, none⟩ (.slice p2 W.os.length q2)).setCell ⟨zr, 6, none⟩ (.slice p3 W.gold.length q3)).setCell ⟨zr, 7, none⟩ (.slice p4 W.us.length q4)).setCell ⟨zr, 8, none⟩ (.slice p5 W.qs.length q5))) := (((((((((K2.setY w3 0 _).trans (K2.setY _ 1 _)).trans (K2.setY _ 2 _)).trans (K2.setY _ 3 _)).trans (K2.setY _ 4 _)).trans (K2.setY _ 5 _)).trans (K2.setY _ 6 _)).trans (K2.setY _ 7 _)).trans (K2.setY _ 8 _))
    have ZZ0 : Hid ((((((((((w3.setCell ⟨zr, 0, none⟩ (.int .i64 W.turn)).setCell ⟨zr, 1, none⟩ (.int .i64 W.next)).setCell ⟨zr, 2, none⟩ (.int .i64 W.wide)).setCell ⟨zr, 3, none⟩ (.int .i64 W.high)).setCell ⟨zr, 4, none⟩ (.slice p1 W.gs.length q1)).setCell ⟨zr, 5, none⟩ (.slice p2 W.os.length q2)).setCell ⟨zr, 6, none⟩ (.slice p3 W.gold.length q3)).setCell ⟨zr, 7, none⟩ (.slice p4 W.us.length q4)).setCell ⟨zr, 8, none⟩ (.slice p5 W.qs.length q5)).heap[zr]? = some (Obj.cells #[.int .i64 W.turn, .int .i64 W.next, .int .i64 W.wide, .int .i64 W.high, .slice p1 W.gs.length q1, .slice p2 W.os.length q2, .slice p3 W.gold.length q3, .slice p4 W.us.length q4, .slice p5 W.qs.length q5] 49 (0, 0))) := heap_setCell_same _ zr 8 _ _ (.slice p5 W.qs.length q5) (heap_setCell_same _ zr 7 _ _ (.slice p4 W.us.length q4) (heap_setCell_same _ zr 6 _ _ (.slice p3 W.gold.length q3) (heap_setCell_same _ zr 5 _ _ (.slice p2 W.os.length q2) (heap_setCell_same _ zr 4 _ _ (.slice p1 W.gs.length q1) (heap_setCell_same _ zr 3 _ _ (.int .i64 W.high) (heap_setCell_same _ zr 2 _ _ (.int .i64 W.wide) (heap_setCell_same _ zr 1 _ _ (.int .i64 W.next) (heap_setCell_same _ zr 0 _ _ (.int .i64 W.turn) (ZR3.out)))))))))
    generalize (((((((((w3.setCell ⟨zr, 0, none⟩ (.int .i64 W.turn)).setCell ⟨zr, 1, none⟩ (.int .i64 W.next)).setCell ⟨zr, 2, none⟩ (.int .i64 W.wide)).setCell ⟨zr, 3, none⟩ (.int .i64 W.high)).setCell ⟨zr, 4, none⟩ (.slice p1 W.gs.length q1)).setCell ⟨zr, 5, none⟩ (.slice p2 W.os.length q2)).setCell ⟨zr, 6, none⟩ (.slice p3 W.gold.length q3)).setCell ⟨zr, 7, none⟩ (.slice p4 W.us.length q4)).setCell ⟨zr, 8, none⟩ (.slice p5 W.qs.length q5)) = w5 at *
    have KC : Hid (K2 zr zr w3 w5.drew) := KC0.out.trans (K2.of (Below.refl _ _).drew)
    have ZZ : Hid (w5.drew.heap[zr]? = some (Obj.cells #[.int .i64 W.turn, .int .i64 W.next, .int .i64 W.wide, .int .i64 W.high, .slice p1 W.gs.length q1, .slice p2 W.os.length q2, .slice p3 W.gold.length q3, .slice p4 W.us.length q4, .slice p5 W.qs.length q5] 49 (0, 0))) := ZZ0.out
    generalize w5.drew = w4 at *
    clear c0 t0 y0 c1 t1 y1 c2 t2 y2 c3 t3 y3 c4 t4 y4 c5 t5 y5 c6 t6 y6 c7 t7 y7 c8 t8 y8 cf ca
    go_wp2
    have x0 : w4.cell? ⟨zr, 0, none⟩ = some (.int .i64 W.turn) := by have := ZZ.out; simp [World.cell?, this]
    have x1 : w4.cell? ⟨zr, 1, none⟩ = some (.int .i64 W.next) := by have := ZZ.out; simp [World.cell?, this]
    have x2 : w4.cell? ⟨zr, 2, none⟩ = some (.int .i64 W.wide) := by have := ZZ.out; simp [World.cell?, this]
    have x3 : w4.cell? ⟨zr, 3, none⟩ = some (.int .i64 W.high) := by have := ZZ.out; simp [World.cell?, this]
    have x4 : w4.cell? ⟨zr, 4, none⟩ = some (.slice p1 W.gs.length q1) := by have := ZZ.out; simp [World.cell?, this]
    have x5 : w4.cell? ⟨zr, 5, none⟩ = some (.slice p2 W.os.length q2) := by have := ZZ.out; simp [World.cell?, this]
    have x6 : w4.cell? ⟨zr, 6, none⟩ = some (.slice p3 W.gold.length q3) := by have := ZZ.out; simp [World.cell?, this]
    have x7 : w4.cell? ⟨zr, 7, none⟩ = some (.slice p4 W.us.length q4) := by have := ZZ.out; simp [World.cell?, this]
    have x8 : w4.cell? ⟨zr, 8, none⟩ = some (.slice p5 W.qs.length q5) := by have := ZZ.out; simp [World.cell?, this]
    refine bodyPost_ret (v := .tuple #[.agg #[.int .i64 W.turn, .int .i64 W.next, .int .i64 W.wide, .int .i64 W.high, .slice p1 W.gs.length q1, .slice p2 W.os.length q2, .slice p3 W.gold.length q3, .slice p4 W.us.length q4, .slice p5 W.qs.length q5], .int .i64 (a' : Nat), .nilIface]) (by simp [results, Tryd.results35, go_sem, x0, x1, x2, x3, x4, x5, x6, x7, x8]) rfl ⟨?_, (KZ.out _ KC.out).2⟩
    unfold DecSays
    rw [E.out]
    exact ⟨_, rfl, (KZ.out _ KC.out).1⟩
end Go.Proofs.YtefepjiajgoomaaDoor
