/- The reference: the world that bytes begin with. -/
import Derived.Test.YtefepjiajgoomaaDoorRwB
import Derived.Test.YtefepjiajgoomaaDoorWdA
import Derived.Test.YtefepjiajgoomaaDoorUnO
import Derived.Test.YtefepjiajgoomaaDoorJbO
import Derived.Test.YtefepjiajgoomaaDoorDcH
import Derived.Test.YtefepjiajgoomaaDoorWdB
import Derived.Laws.ResultCell
import Derived.Deep.DeepCutAuto
import Derived.Deep.CutBlock
namespace Go.Proofs.YtefepjiajgoomaaDoor
open Go.RowKit
set_option linter.unusedVariables false

/-- block z is a world. -/
def Wb (w : World) (z : Nat) (X : WV) (u1 u2 u3 u4 u5 : Value) : Prop := w.heap[z]? = some (.cells #[.int .i64 X.turn, .int .i64 X.next, .int .i64 X.wide, .int .i64 X.high, u1, u2, u3, u4, u5] 49 (0, 0))
theorem Wb.cells {w : World} {z : Nat} {X : WV} {u1 u2 u3 u4 u5 : Value} (h : Wb w z X u1 u2 u3 u4 u5) : Bw w z X u1 u2 u3 u4 u5 := by
  unfold Wb at h
  constructor <;> simp [World.cell?, h]
theorem Wb.thaw {w : World} {z : Nat} {X : WV} {u1 u2 u3 u4 u5 : Value} (h : Wb w z X u1 u2 u3 u4 u5) (i : Nat) : w.frozen? ⟨z, i, none⟩ = false := by
  unfold Wb at h
  simp [World.frozen?, h]
/-- what is there while a world is read. -/
structure Ri (w w0 : World) (z zw base : Nat) (v : Value) (l : List UInt8) (X : WV) (u1 u2 u3 u4 u5 : Value) (a : Nat) (f : Bool) (W : World) : Prop where
  d : Dr w0 z v l W a f
  b : Wb W zw X u1 u2 u3 u4 u5
  r1 : Ow W base u1 X.gs
  r2 : Ow W base u2 X.os
  r3 : Ow W base u3 X.gold
  r4 : Uno W base u4 X.us
  r5 : Jbo W base u5 X.qs
  zr : W.heap[w.heap.size]? = some (.cells #[.int .i64 0, .int .i64 0, .int .i64 0, .int .i64 0, .slice none 0 0, .slice none 0 0, .slice none 0 0, .slice none 0 0, .slice none 0 0] 49 (0, 0))
  bl : Below w.heap.size w W
  o1 : w.heap.size < z
  o2 : z < zw
  o3 : zw < base
  o4 : base ≤ W.heap.size
theorem Ri.kp {w w0 : World} {z zw base : Nat} {v : Value} {l : List UInt8} {X : WV} {u1 u2 u3 u4 u5 : Value} {a : Nat} {f : Bool} {W W' : World} {a' : Nat} {f' : Bool} (h : Ri w w0 z zw base v l X u1 u2 u3 u4 u5 a f W) (d : Dr w0 z v l W' a' f') (k : Kp z W W') : Ri w w0 z zw base v l X u1 u2 u3 u4 u5 a' f' W' := by
  have q1 := h.o1
  have q2 := h.o2
  have q3 := h.o3
  have q4 := h.o4
  have ks := k.size
  exact ⟨d, (k.block zw (by omega) (by omega)).trans h.b, owns_kp h.r1 k (by omega), owns_kp h.r2 k (by omega), owns_kp h.r3 k (by omega), owns_kp h.r4 k (by omega), owns_kp h.r5 k (by omega), (k.block w.heap.size (by omega) (by omega)).trans h.zr, Kp.below h.bl k (by omega) (by omega), h.o1, h.o2, h.o3, by omega⟩
/-- what turns no block below base. -/
theorem Ri.stays {w w0 : World} {z zw base : Nat} {v : Value} {l : List UInt8} {X : WV} {u1 u2 u3 u4 u5 : Value} {a : Nat} {f : Bool} {W W' : World} (h : Ri w w0 z zw base v l X u1 u2 u3 u4 u5 a f W) (k : Below W.heap.size W W') : Ri w w0 z zw base v l X u1 u2 u3 u4 u5 a f W' := by
  have q1 := h.o1
  have q2 := h.o2
  have q3 := h.o3
  have q4 := h.o4
  exact h.kp (h.d.kept (k.mono (by omega))) (Kp.of k)
/-- a store into another block. -/
theorem Ri.other {w w0 : World} {z zw base : Nat} {v : Value} {l : List UInt8} {X : WV} {u1 u2 u3 u4 u5 : Value} {a : Nat} {f : Bool} {W W' : World} {y : Nat} (h : Ri w w0 z zw base v l X u1 u2 u3 u4 u5 a f W) (k : Kp y W W') (hy : base ≤ y) (n1 : u1.ownBlock ≠ some y) (n2 : u2.ownBlock ≠ some y) (n3 : u3.ownBlock ≠ some y) (n4 : u4.ownBlock ≠ some y) (n5 : u5.ownBlock ≠ some y) : Ri w w0 z zw base v l X u1 u2 u3 u4 u5 a f W' := by
  have q1 := h.o1
  have q2 := h.o2
  have q3 := h.o3
  have q4 := h.o4
  have ks := k.size
  have far : ∀ {T : TypeId} {size n : Nat} {u : Value} {cs : List Value}, W.ownsRow base T size u n cs → u.ownBlock ≠ some y → W'.ownsRow base T size u n cs := fun {T size n u cs} hh hn => by
    refine ⟨hh.1, ?_⟩
    rcases hh.2 with h1 | ⟨g, cap, cur, h1, h2, h3, h4⟩
    · exact .inl h1
    · refine .inr ⟨g, cap, cur, h1, h2, (k.block g (lt_of_block h3) (fun e => hn ?_)).trans h3, h4⟩
      rw [h1, e]
      rfl
  exact ⟨⟨h.d.src, h.d.low, Kp.below h.d.bl k (by omega) (by omega), (k.block z (by omega) (by omega)).trans h.d.blk, h.d.le⟩, (k.block zw (by omega) (by omega)).trans h.b, far h.r1 n1, far h.r2 n2, far h.r3 n3, far h.r4 n4, far h.r5 n5, (k.block w.heap.size (by omega) (by omega)).trans h.zr, Kp.below h.bl k (by omega) (by omega), h.o1, h.o2, h.o3, by omega⟩
/-- a store into the world itself. -/
theorem Ri.put {w w0 : World} {z zw base : Nat} {v : Value} {l : List UInt8} {X X' : WV} {u1 u2 u3 u4 u5 u1' u2' u3' u4' u5' : Value} {a : Nat} {f : Bool} {W W' : World} (h : Ri w w0 z zw base v l X u1 u2 u3 u4 u5 a f W) (k : Kp zw W W') (b : Wb W' zw X' u1' u2' u3' u4' u5')
    (g1 : Ow W base u1' X'.gs) (g2 : Ow W base u2' X'.os) (g3 : Ow W base u3' X'.gold) (g4 : Uno W base u4' X'.us) (g5 : Jbo W base u5' X'.qs) : Ri w w0 z zw base v l X' u1' u2' u3' u4' u5' a f W' := by
  have q1 := h.o1
  have q2 := h.o2
  have q3 := h.o3
  have q4 := h.o4
  have ks := k.size
  exact ⟨⟨h.d.src, h.d.low, Kp.below h.d.bl k (by omega) (by omega), (k.block z (by omega) (by omega)).trans h.d.blk, h.d.le⟩, b, owns_kp g1 k (by omega), owns_kp g2 k (by omega), owns_kp g3 k (by omega), owns_kp g4 k (by omega), owns_kp g5 k (by omega), (k.block w.heap.size (by omega) (by omega)).trans h.zr, Kp.below h.bl k (by omega) (by omega), h.o1, h.o2, h.o3, by omega⟩
/-- what Decode says. -/
def RdSays (l : List UInt8) (w : World) (e : Ending) (w' : World) : Prop := match Wd.pworld l 0 with
  | some (W, n) => ∃ u, e = .returned (.tuple #[u, .int .i64 (n : Nat), .bool true]) ∧ Wl w' u W
  | none => e = .returned (.tuple #[.agg #[.int .i64 0, .int .i64 0, .int .i64 0, .int .i64 0, .slice none 0 0, .slice none 0 0, .slice none 0 0, .slice none 0 0, .slice none 0 0], .int .i64 0, .bool false])
theorem own_none (u : Value) (y : Nat) (h : ∀ b, u.ownBlock = some b → b < y) : u.ownBlock ≠ some y := fun e => by have := h y e; omega
theorem owns_ne {w : World} {base : Nat} {T1 T2 : TypeId} {s1 s2 n1 n2 : Nat} {u1 u2 : Value} {c1 c2 : List Value} (h1 : w.ownsRow base T1 s1 u1 n1 c1) (h2 : w.ownsRow base T2 s2 u2 n2 c2) (hne : T1 ≠ T2) : u1.ownBlock = none ∨ u1.ownBlock ≠ u2.ownBlock := by
  rcases h1.2 with ⟨e, -⟩ | ⟨g, cap, cur, e, -, hg, -⟩
  · exact .inl (by rw [e]; rfl)
  · right
    rcases h2.2 with ⟨e', -⟩ | ⟨g', cap', cur', e', -, hg', -⟩
    · rw [e, e']; intro h; cases h
    · rw [e, e']
      intro h
      have : g = g' := by simpa [Value.ownBlock] using h
      subst this
      rw [hg] at hg'
      injection hg' with hg'
      injection hg' with a1 a2 a3
      exact hne a2
theorem Ri.grow {w w0 : World} {z zw base : Nat} {v : Value} {l : List UInt8} {X : WV} {u1 u2 u3 u4 u5 : Value} {a : Nat} {f : Bool} {W X0 W5 : World} {row : Option Nat} (h : Ri w w0 z zw base v l X u1 u2 u3 u4 u5 a f W) (hb : Below W.heap.size W X0) (hg : X0.grownBy W5 row) (hr : ∀ b, row = some b → base ≤ b) :
    Dr w0 z v l W5 a f ∧ Wb W5 zw X u1 u2 u3 u4 u5 ∧ W5.heap[w.heap.size]? = some (.cells #[.int .i64 0, .int .i64 0, .int .i64 0, .int .i64 0, .slice none 0 0, .slice none 0 0, .slice none 0 0, .slice none 0 0, .slice none 0 0] 49 (0, 0)) ∧ Below w.heap.size w W5 ∧ base ≤ W5.heap.size ∧
    ∀ {T : TypeId} {size n : Nat} {u : Value} {cs : List Value}, W.ownsRow base T size u n cs → (u.ownBlock = none ∨ u.ownBlock ≠ row) → W5.ownsRow base T size u n cs := by
  have q1 := h.o1
  have q2 := h.o2
  have q3 := h.o3
  have q4 := h.o4
  have s1 := hb.size
  have s2 := hg.size
  have lowb : Below base W W5 := (hb.mono (by omega)).grown hg (by omega) hr
  refine ⟨h.d.kept (lowb.mono (by omega)), (lowb.block zw (by omega)).trans h.b, (lowb.block w.heap.size (by omega)).trans h.zr, h.bl.trans (lowb.mono (by omega)), by omega, ?_⟩
  intro T size n u cs hh hn
  exact World.ownsRow.kept (World.ownsRow.kept hh (row := none) ⟨hb.os, hb.tape, hb.output, hb.size, fun k hk _ => hb.block k hk⟩ (by cases u.ownBlock <;> simp)) hg hn
theorem Ri.units {w w0 : World} {z zw base : Nat} {v : Value} {l : List UInt8} {t x wd hg_ : Int} {gs os gold : List Int} {us us' : List UnV} {qs : List JbV} {u1 u2 u3 u4 u5 u4' : Value} {a : Nat} {f : Bool} {W X0 W5 : World} (h : Ri w w0 z zw base v l ⟨t, x, wd, hg_, gs, os, gold, us, qs⟩ u1 u2 u3 u4 u5 a f W) (hb : Below W.heap.size W X0) (hg : X0.grownBy W5 u4.ownBlock) (o5 : Uno W5 base u4' us') :
    Ri w w0 z zw base v l ⟨t, x, wd, hg_, gs, os, gold, us', qs⟩ u1 u2 u3 u4' u5 a f (W5.setCell ⟨zw, 7, none⟩ u4') := by
  have q1 := h.o1
  have q2 := h.o2
  have q3 := h.o3
  obtain ⟨d, b, zr, bl, o4, far⟩ := h.grow hb hg (fun b hb => (h.r4.block b hb).1)
  have k : Kp zw W5 (W5.setCell ⟨zw, 7, none⟩ u4') := Kp.set W5 7 _
  have ks := k.size
  have far' : ∀ {T : TypeId} {size n : Nat} {u : Value} {cs : List Value}, W.ownsRow base T size u n cs → T ≠ 62 → (W5.setCell ⟨zw, 7, none⟩ u4').ownsRow base T size u n cs := fun {T size n u cs} hh hn => owns_kp (far hh (owns_ne hh h.r4 hn)) k (by omega)
  exact ⟨⟨d.src, d.low, Kp.below d.bl k (by omega) (by omega), (k.block z (by omega) (by omega)).trans d.blk, d.le⟩, heap_setCell_same W5 zw 7 _ _ u4' b, far' h.r1 (by decide), far' h.r2 (by decide), far' h.r3 (by decide), owns_kp o5 k (by omega), far' h.r5 (by decide), (k.block w.heap.size (by omega) (by omega)).trans zr, Kp.below bl k (by omega) (by omega), h.o1, h.o2, h.o3, by omega⟩
theorem Ri.jobs {w w0 : World} {z zw base : Nat} {v : Value} {l : List UInt8} {t x wd hg_ : Int} {gs os gold : List Int} {us : List UnV} {qs qs' : List JbV} {u1 u2 u3 u4 u5 u5' : Value} {a : Nat} {f : Bool} {W X0 W5 : World} (h : Ri w w0 z zw base v l ⟨t, x, wd, hg_, gs, os, gold, us, qs⟩ u1 u2 u3 u4 u5 a f W) (hb : Below W.heap.size W X0) (hg : X0.grownBy W5 u5.ownBlock) (o5 : Jbo W5 base u5' qs') :
    Ri w w0 z zw base v l ⟨t, x, wd, hg_, gs, os, gold, us, qs'⟩ u1 u2 u3 u4 u5' a f (W5.setCell ⟨zw, 8, none⟩ u5') := by
  have q1 := h.o1
  have q2 := h.o2
  have q3 := h.o3
  obtain ⟨d, b, zr, bl, o4, far⟩ := h.grow hb hg (fun b hb => (h.r5.block b hb).1)
  have k : Kp zw W5 (W5.setCell ⟨zw, 8, none⟩ u5') := Kp.set W5 8 _
  have ks := k.size
  have far' : ∀ {T : TypeId} {size n : Nat} {u : Value} {cs : List Value}, W.ownsRow base T size u n cs → T ≠ 110 → (W5.setCell ⟨zw, 8, none⟩ u5').ownsRow base T size u n cs := fun {T size n u cs} hh hn => owns_kp (far hh (owns_ne hh h.r5 hn)) k (by omega)
  exact ⟨⟨d.src, d.low, Kp.below d.bl k (by omega) (by omega), (k.block z (by omega) (by omega)).trans d.blk, d.le⟩, heap_setCell_same W5 zw 8 _ _ u5' b, far' h.r1 (by decide), far' h.r2 (by decide), far' h.r3 (by decide), far' h.r4 (by decide), owns_kp o5 k (by omega), (k.block w.heap.size (by omega) (by omega)).trans zr, Kp.below bl k (by omega) (by omega), h.o1, h.o2, h.o3, by omega⟩
def Ub (w : World) (z : Nat) (u : UnV) : Prop := w.heap[z]? = some (.cells #[.int .i64 u.id, .int .i64 u.player, .int .i64 u.kind, .int .i64 u.at_, .int .i64 u.life, .int .i64 u.load, .int .i64 u.task, .int .i64 u.goal] 62 (0, 0))
theorem Ub.cells {w : World} {z : Nat} {u : UnV} (h : Ub w z u) : w.cell? ⟨z, 0, none⟩ = some (.int .i64 u.id) ∧ w.cell? ⟨z, 1, none⟩ = some (.int .i64 u.player) ∧ w.cell? ⟨z, 2, none⟩ = some (.int .i64 u.kind) ∧ w.cell? ⟨z, 3, none⟩ = some (.int .i64 u.at_) ∧ w.cell? ⟨z, 4, none⟩ = some (.int .i64 u.life) ∧ w.cell? ⟨z, 5, none⟩ = some (.int .i64 u.load) ∧ w.cell? ⟨z, 6, none⟩ = some (.int .i64 u.task) ∧ w.cell? ⟨z, 7, none⟩ = some (.int .i64 u.goal) := by
  unfold Ub at h
  refine ⟨?_, ?_, ?_, ?_, ?_, ?_, ?_, ?_⟩ <;> simp [World.cell?, h]
theorem Ub.thaw {w : World} {z : Nat} {u : UnV} (h : Ub w z u) (i : Nat) : w.frozen? ⟨z, i, none⟩ = false := by
  unfold Ub at h
  simp [World.frozen?, h]
def Jk (w : World) (z : Nat) (u : JbV) : Prop := w.heap[z]? = some (.cells #[.int .i64 u.player, .int .i64 u.unit, .int .i64 u.kind, .int .i64 u.left] 110 (0, 0))
theorem Jk.cells {w : World} {z : Nat} {u : JbV} (h : Jk w z u) : w.cell? ⟨z, 0, none⟩ = some (.int .i64 u.player) ∧ w.cell? ⟨z, 1, none⟩ = some (.int .i64 u.unit) ∧ w.cell? ⟨z, 2, none⟩ = some (.int .i64 u.kind) ∧ w.cell? ⟨z, 3, none⟩ = some (.int .i64 u.left) := by
  unfold Jk at h
  refine ⟨?_, ?_, ?_, ?_⟩ <;> simp [World.cell?, h]
theorem Jk.thaw {w : World} {z : Nat} {u : JbV} (h : Jk w z u) (i : Nat) : w.frozen? ⟨z, i, none⟩ = false := by
  unfold Jk at h
  simp [World.frozen?, h]
set_option maxRecDepth 100000 in
set_option maxHeartbeats 16000000 in
theorem rdecode_any (v : Value) (l : List UInt8) (w : World) (h : By w v l) :
    Calls Tryd.prog 34 #[v] w fun e w' => RdSays l w e w' ∧ Below w.heap.size w w' := by
  have B : Hid (By w v l) := h
  obtain ⟨ad, cap, rfl, h1, h2, h3⟩ := h
  clear h1 h2 h3
  go_enter Tryd.func34, Tryd.ntmps34
  go_upto_region 3 with fail
  have I0 : ∃ w0, Hid (Ri w w0 (w.heap.size + 1) (w.heap.size + 1 + 1) (w.heap.size + 1 + 1 + 1) (.slice ad l.length cap) l ⟨0, 0, 0, 0, [], [], [], [], []⟩ (.slice none 0 0) (.slice none 0 0) (.slice none 0 0) (.slice none 0 0) (.slice none 0 0) 0 false (((w.alloc (Obj.cells #[.int .i64 0, .int .i64 0, .int .i64 0, .int .i64 0, .slice none 0 0, .slice none 0 0, .slice none 0 0, .slice none 0 0, .slice none 0 0] 49)).alloc (Obj.cells #[.slice ad l.length cap, .int .i64 0, .bool false] 124)).alloc (Obj.cells #[.int .i64 0, .int .i64 0, .int .i64 0, .int .i64 0, .slice none 0 0, .slice none 0 0, .slice none 0 0, .slice none 0 0, .slice none 0 0] 49))) := by
    refine ⟨w.alloc (Obj.cells #[.int .i64 0, .int .i64 0, .int .i64 0, .int .i64 0, .slice none 0 0, .slice none 0 0, .slice none 0 0, .slice none 0 0, .slice none 0 0] 49), ?_⟩
    have f1 : (w.alloc (Obj.cells #[.int .i64 0, .int .i64 0, .int .i64 0, .int .i64 0, .slice none 0 0, .slice none 0 0, .slice none 0 0, .slice none 0 0, .slice none 0 0] 49)).heap.size = w.heap.size + 1 := by simp
    have f2 : ((w.alloc (Obj.cells #[.int .i64 0, .int .i64 0, .int .i64 0, .int .i64 0, .slice none 0 0, .slice none 0 0, .slice none 0 0, .slice none 0 0, .slice none 0 0] 49)).alloc (Obj.cells #[.slice ad l.length cap, .int .i64 0, .bool false] 124)).heap.size = w.heap.size + 1 + 1 := by simp
    have g1 : Below (w.heap.size + 1) (w.alloc (Obj.cells #[.int .i64 0, .int .i64 0, .int .i64 0, .int .i64 0, .slice none 0 0, .slice none 0 0, .slice none 0 0, .slice none 0 0, .slice none 0 0] 49)) (((w.alloc (Obj.cells #[.int .i64 0, .int .i64 0, .int .i64 0, .int .i64 0, .slice none 0 0, .slice none 0 0, .slice none 0 0, .slice none 0 0, .slice none 0 0] 49)).alloc (Obj.cells #[.slice ad l.length cap, .int .i64 0, .bool false] 124)).alloc (Obj.cells #[.int .i64 0, .int .i64 0, .int .i64 0, .int .i64 0, .slice none 0 0, .slice none 0 0, .slice none 0 0, .slice none 0 0, .slice none 0 0] 49)) := ((Below.refl _ _).alloc (by simp) _).alloc (by simp) _
    have g2 : Below (w.heap.size + 1 + 1) ((w.alloc (Obj.cells #[.int .i64 0, .int .i64 0, .int .i64 0, .int .i64 0, .slice none 0 0, .slice none 0 0, .slice none 0 0, .slice none 0 0, .slice none 0 0] 49)).alloc (Obj.cells #[.slice ad l.length cap, .int .i64 0, .bool false] 124)) (((w.alloc (Obj.cells #[.int .i64 0, .int .i64 0, .int .i64 0, .int .i64 0, .slice none 0 0, .slice none 0 0, .slice none 0 0, .slice none 0 0, .slice none 0 0] 49)).alloc (Obj.cells #[.slice ad l.length cap, .int .i64 0, .bool false] 124)).alloc (Obj.cells #[.int .i64 0, .int .i64 0, .int .i64 0, .int .i64 0, .slice none 0 0, .slice none 0 0, .slice none 0 0, .slice none 0 0, .slice none 0 0] 49)) := (Below.refl _ _).alloc (by simp) _
    refine ⟨⟨B.out.below ((Below.refl _ _).alloc (Nat.le_refl _) _), by simp, g1, ?_, Nat.zero_le _⟩, ?_, Ow.nil _ _, Ow.nil _ _, Ow.nil _ _, Uno.nil _ _, Jbo.nil _ _, ?_, (((Below.refl _ _).alloc (Nat.le_refl _) _).alloc (by simp) _).alloc (by simp <;> omega) _, by omega, by omega, by omega, by simp⟩
    · rw [g2.block (w.heap.size + 1) (by omega), ← f1, heap_alloc_new]
      rfl
    · unfold Wb
      rw [← f2, heap_alloc_new]
    · rw [g1.block w.heap.size (by omega), heap_alloc_new]
  obtain ⟨w0, I⟩ := I0
  generalize (((w.alloc (Obj.cells #[.int .i64 0, .int .i64 0, .int .i64 0, .int .i64 0, .slice none 0 0, .slice none 0 0, .slice none 0 0, .slice none 0 0, .slice none 0 0] 49)).alloc (Obj.cells #[.slice ad l.length cap, .int .i64 0, .bool false] 124)).alloc (Obj.cells #[.int .i64 0, .int .i64 0, .int .i64 0, .int .i64 0, .slice none 0 0, .slice none 0 0, .slice none 0 0, .slice none 0 0, .slice none 0 0] 49)) = x0 at *
  generalize w.heap.size + 1 + 1 + 1 = base at *
  generalize w.heap.size + 1 + 1 = zw at *
  generalize w.heap.size + 1 = z at *
  generalize hv : Value.slice ad l.length cap = v at *
  clear hv B
  go_wp2_with fail
  refine (rnum_any w0 z v l x0 0 false I.out.d).mono ?_
  rintro e y0 ⟨n0, a0, f0, rfl, hrd, hd, hk⟩
  have R0 : Hid (Wd.Rd (Wd.pnum l) 0 false n0 a0 f0) := hrd
  have J0 : Hid (Ri w w0 z zw base v l ⟨0, 0, 0, 0, [], [], [], [], []⟩ (.slice none 0 0) (.slice none 0 0) (.slice none 0 0) (.slice none 0 0) (.slice none 0 0) a0 f0 y0) := I.out.kp hd hk
  clear hrd hd hk
  have ck := J0.out.b.cells.c0
  have tk := J0.out.b.thaw 0
  have I0 : Hid (Ri w w0 z zw base v l ⟨n0, 0, 0, 0, [], [], [], [], []⟩ (.slice none 0 0) (.slice none 0 0) (.slice none 0 0) (.slice none 0 0) (.slice none 0 0) a0 f0 (y0.setCell ⟨zw, 0, none⟩ (.int .i64 n0))) := J0.out.put (Kp.set y0 0 _) (heap_setCell_same y0 zw 0 _ _ (.int .i64 n0) J0.out.b) J0.out.r1 J0.out.r2 J0.out.r3 J0.out.r4 J0.out.r5
  go_upto_region 4 with fail
  generalize (y0.setCell ⟨zw, 0, none⟩ (.int .i64 n0)) = x1 at *
  clear ck tk J0 I
  go_wp2_with fail
  refine (rnum_any w0 z v l x1 a0 f0 I0.out.d).mono ?_
  rintro e y1 ⟨n1, a1, f1, rfl, hrd, hd, hk⟩
  have R1 : Hid (Wd.Rd (Wd.pnum l) a0 f0 n1 a1 f1) := hrd
  have J1 : Hid (Ri w w0 z zw base v l ⟨n0, 0, 0, 0, [], [], [], [], []⟩ (.slice none 0 0) (.slice none 0 0) (.slice none 0 0) (.slice none 0 0) (.slice none 0 0) a1 f1 y1) := I0.out.kp hd hk
  clear hrd hd hk
  have ck := J1.out.b.cells.c1
  have tk := J1.out.b.thaw 1
  have I1 : Hid (Ri w w0 z zw base v l ⟨n0, n1, 0, 0, [], [], [], [], []⟩ (.slice none 0 0) (.slice none 0 0) (.slice none 0 0) (.slice none 0 0) (.slice none 0 0) a1 f1 (y1.setCell ⟨zw, 1, none⟩ (.int .i64 n1))) := J1.out.put (Kp.set y1 1 _) (heap_setCell_same y1 zw 1 _ _ (.int .i64 n1) J1.out.b) J1.out.r1 J1.out.r2 J1.out.r3 J1.out.r4 J1.out.r5
  go_upto_region 5 with fail
  generalize (y1.setCell ⟨zw, 1, none⟩ (.int .i64 n1)) = x2 at *
  clear ck tk J1 I0
  go_wp2_with fail
  refine (rnum_any w0 z v l x2 a1 f1 I1.out.d).mono ?_
  rintro e y2 ⟨n2, a2, f2, rfl, hrd, hd, hk⟩
  have R2 : Hid (Wd.Rd (Wd.pnum l) a1 f1 n2 a2 f2) := hrd
  have J2 : Hid (Ri w w0 z zw base v l ⟨n0, n1, 0, 0, [], [], [], [], []⟩ (.slice none 0 0) (.slice none 0 0) (.slice none 0 0) (.slice none 0 0) (.slice none 0 0) a2 f2 y2) := I1.out.kp hd hk
  clear hrd hd hk
  have ck := J2.out.b.cells.c2
  have tk := J2.out.b.thaw 2
  have I2 : Hid (Ri w w0 z zw base v l ⟨n0, n1, n2, 0, [], [], [], [], []⟩ (.slice none 0 0) (.slice none 0 0) (.slice none 0 0) (.slice none 0 0) (.slice none 0 0) a2 f2 (y2.setCell ⟨zw, 2, none⟩ (.int .i64 n2))) := J2.out.put (Kp.set y2 2 _) (heap_setCell_same y2 zw 2 _ _ (.int .i64 n2) J2.out.b) J2.out.r1 J2.out.r2 J2.out.r3 J2.out.r4 J2.out.r5
  go_upto_region 6 with fail
  generalize (y2.setCell ⟨zw, 2, none⟩ (.int .i64 n2)) = x3 at *
  clear ck tk J2 I1
  go_wp2_with fail
  refine (rnum_any w0 z v l x3 a2 f2 I2.out.d).mono ?_
  rintro e y3 ⟨n3, a3, f3, rfl, hrd, hd, hk⟩
  have R3 : Hid (Wd.Rd (Wd.pnum l) a2 f2 n3 a3 f3) := hrd
  have J3 : Hid (Ri w w0 z zw base v l ⟨n0, n1, n2, 0, [], [], [], [], []⟩ (.slice none 0 0) (.slice none 0 0) (.slice none 0 0) (.slice none 0 0) (.slice none 0 0) a3 f3 y3) := I2.out.kp hd hk
  clear hrd hd hk
  have ck := J3.out.b.cells.c3
  have tk := J3.out.b.thaw 3
  have I3 : Hid (Ri w w0 z zw base v l ⟨n0, n1, n2, n3, [], [], [], [], []⟩ (.slice none 0 0) (.slice none 0 0) (.slice none 0 0) (.slice none 0 0) (.slice none 0 0) a3 f3 (y3.setCell ⟨zw, 3, none⟩ (.int .i64 n3))) := J3.out.put (Kp.set y3 3 _) (heap_setCell_same y3 zw 3 _ _ (.int .i64 n3) J3.out.b) J3.out.r1 J3.out.r2 J3.out.r3 J3.out.r4 J3.out.r5
  go_upto_region 7 with fail
  generalize (y3.setCell ⟨zw, 3, none⟩ (.int .i64 n3)) = x4 at *
  clear ck tk J3 I2
  go_wp2_with fail
  refine (rlst_any w0 z v l x4 a3 f3 I3.out.d).mono ?_
  rintro e y4 ⟨gs, a4, f4, t4, rfl, ho, hlen, hrd, hd, hk⟩
  obtain ⟨p4, q4, rfl⟩ := ho.len
  have R4 : Hid (Wd.Rd (Wd.plist l (Wd.pnum l)) a3 f3 gs a4 f4) := hrd
  have J4 : Hid (Ri w w0 z zw base v l ⟨n0, n1, n2, n3, [], [], [], [], []⟩ (.slice none 0 0) (.slice none 0 0) (.slice none 0 0) (.slice none 0 0) (.slice none 0 0) a4 f4 y4) := I3.out.kp hd hk
  have O4 : Hid (Ow y4 base (.slice p4 gs.length q4) gs) := ho.mono I3.out.o4
  clear ho hlen
  clear hrd hd hk
  have ck := J4.out.b.cells.c4
  have tk := J4.out.b.thaw 4
  have I4 : Hid (Ri w w0 z zw base v l ⟨n0, n1, n2, n3, gs, [], [], [], []⟩ (.slice p4 gs.length q4) (.slice none 0 0) (.slice none 0 0) (.slice none 0 0) (.slice none 0 0) a4 f4 (y4.setCell ⟨zw, 4, none⟩ (.slice p4 gs.length q4))) := J4.out.put (Kp.set y4 4 _) (heap_setCell_same y4 zw 4 _ _ (.slice p4 gs.length q4) J4.out.b) O4.out J4.out.r2 J4.out.r3 J4.out.r4 J4.out.r5
  go_upto_region 8 with fail
  generalize (y4.setCell ⟨zw, 4, none⟩ (.slice p4 gs.length q4)) = x5 at *
  clear ck tk J4 I3
  go_wp2_with fail
  refine (rlst_any w0 z v l x5 a4 f4 I4.out.d).mono ?_
  rintro e y5 ⟨os, a5, f5, t5, rfl, ho, hlen, hrd, hd, hk⟩
  obtain ⟨p5, q5, rfl⟩ := ho.len
  have R5 : Hid (Wd.Rd (Wd.plist l (Wd.pnum l)) a4 f4 os a5 f5) := hrd
  have J5 : Hid (Ri w w0 z zw base v l ⟨n0, n1, n2, n3, gs, [], [], [], []⟩ (.slice p4 gs.length q4) (.slice none 0 0) (.slice none 0 0) (.slice none 0 0) (.slice none 0 0) a5 f5 y5) := I4.out.kp hd hk
  have O5 : Hid (Ow y5 base (.slice p5 os.length q5) os) := ho.mono I4.out.o4
  clear ho hlen
  clear hrd hd hk
  have ck := J5.out.b.cells.c5
  have tk := J5.out.b.thaw 5
  have I5 : Hid (Ri w w0 z zw base v l ⟨n0, n1, n2, n3, gs, os, [], [], []⟩ (.slice p4 gs.length q4) (.slice p5 os.length q5) (.slice none 0 0) (.slice none 0 0) (.slice none 0 0) a5 f5 (y5.setCell ⟨zw, 5, none⟩ (.slice p5 os.length q5))) := J5.out.put (Kp.set y5 5 _) (heap_setCell_same y5 zw 5 _ _ (.slice p5 os.length q5) J5.out.b) J5.out.r1 O5.out J5.out.r3 J5.out.r4 J5.out.r5
  go_upto_region 9 with fail
  generalize (y5.setCell ⟨zw, 5, none⟩ (.slice p5 os.length q5)) = x6 at *
  clear ck tk J5 I4
  go_wp2_with fail
  refine (rlst_any w0 z v l x6 a5 f5 I5.out.d).mono ?_
  rintro e y6 ⟨gold, a6, f6, t6, rfl, ho, hlen, hrd, hd, hk⟩
  obtain ⟨p6, q6, rfl⟩ := ho.len
  have R6 : Hid (Wd.Rd (Wd.plist l (Wd.pnum l)) a5 f5 gold a6 f6) := hrd
  have J6 : Hid (Ri w w0 z zw base v l ⟨n0, n1, n2, n3, gs, os, [], [], []⟩ (.slice p4 gs.length q4) (.slice p5 os.length q5) (.slice none 0 0) (.slice none 0 0) (.slice none 0 0) a6 f6 y6) := I5.out.kp hd hk
  have O6 : Hid (Ow y6 base (.slice p6 gold.length q6) gold) := ho.mono I5.out.o4
  clear ho hlen
  clear hrd hd hk
  have ck := J6.out.b.cells.c6
  have tk := J6.out.b.thaw 6
  have I6 : Hid (Ri w w0 z zw base v l ⟨n0, n1, n2, n3, gs, os, gold, [], []⟩ (.slice p4 gs.length q4) (.slice p5 os.length q5) (.slice p6 gold.length q6) (.slice none 0 0) (.slice none 0 0) a6 f6 (y6.setCell ⟨zw, 6, none⟩ (.slice p6 gold.length q6))) := J6.out.put (Kp.set y6 6 _) (heap_setCell_same y6 zw 6 _ _ (.slice p6 gold.length q6) J6.out.b) J6.out.r1 J6.out.r2 O6.out J6.out.r4 J6.out.r5
  go_upto_region 10 with fail
  generalize (y6.setCell ⟨zw, 6, none⟩ (.slice p6 gold.length q6)) = x7 at *
  clear ck tk J6 I5
  go_wp2_with fail
  refine (rmany_any w0 z v l x7 a6 f6 I6.out.d).mono ?_
  rintro e y7 ⟨m7, a7, f7, rfl, h200, hrd, hd, hk⟩
  have M7 : Hid (Wd.Rd (Wd.pmany l) a6 f6 m7 a7 f7) := hrd
  have J7 : Hid (Ri w w0 z zw base v l ⟨n0, n1, n2, n3, gs, os, gold, [], []⟩ (.slice p4 gs.length q4) (.slice p5 os.length q5) (.slice p6 gold.length q6) (.slice none 0 0) (.slice none 0 0) a7 f7 y7) := I6.out.kp hd hk
  clear hrd hd hk I6
  go_upto_block 0 with fail
  go_cut [8] from 42 (fun _ W' => ∃ (us : List UnV) (a' : Nat) (f' : Bool) (uu : Value), Wd.Rd (Wd.plist l (Wd.punit l)) a6 f6 us a' f' ∧ Ri w w0 z zw base v l ⟨n0, n1, n2, n3, gs, os, gold, us, []⟩ (.slice p4 gs.length q4) (.slice p5 os.length q5) (.slice p6 gold.length q6) (uu) (.slice none 0 0) a' f' W')
  case first =>
    go_wp2
    go_loopw [8] (fun iv W => ∃ (us : List UnV) (k a' : Nat) (f' : Bool) (uu : Value), iv = .int .i64 (k : Nat) ∧ k ≤ m7 ∧ us.length = k ∧ Wd.Rd (Wd.prep (Wd.punit l) k) a7 f7 us a' f' ∧ Ri w w0 z zw base v l ⟨n0, n1, n2, n3, gs, os, gold, us, []⟩ (.slice p4 gs.length q4) (.slice p5 os.length q5) (.slice p6 gold.length q6) (uu) (.slice none 0 0) a' f' W) (fun iv _ => m7 - (intOf iv).toNat)
    case atStart => exact ⟨[], 0, a7, f7, .slice none 0 0, rfl, Nat.zero_le _, rfl, Wd.Rd.nil _ _ _, J7.out⟩
    case round =>
      obtain ⟨us, k, a', f', uu, rfl, hkn, hxl, hrd, hri⟩ := hrel
      have HX : Hid (us.length = k) := hxl
      have PR : Hid (Wd.Rd (Wd.prep (Wd.punit l) k) a7 f7 us a' f') := hrd
      have I : Hid (Ri w w0 z zw base v l ⟨n0, n1, n2, n3, gs, os, gold, us, []⟩ (.slice p4 gs.length q4) (.slice p5 os.length q5) (.slice p6 gold.length q6) (uu) (.slice none 0 0) a' f' wr) := hri
      obtain ⟨c0, c1, c2⟩ := hri.d.cells
      clear hrd hri hxl
      have hcase : (¬ ((k : Int) < (m7 : Int)) ∧ k = m7) ∨ ((k : Int) < (m7 : Int) ∧ f' = true) ∨ ((k : Int) < (m7 : Int) ∧ f' = false) := by
        by_cases he : k = m7
        · exact .inl ⟨by omega, he⟩
        · cases f'
          · exact .inr (.inr ⟨by omega, rfl⟩)
          · exact .inr (.inl ⟨by omega, rfl⟩)
      rcases hcase with ⟨hlt, he⟩ | ⟨hlt, rfl⟩ | ⟨hlt, rfl⟩
      · have R7 : Hid (Wd.Rd (Wd.plist l (Wd.punit l)) a6 f6 us a' f') := M7.out.list (by rw [← he]; exact PR.out)
        have HE : Hid (k = m7) := he
        clear he
        go_wp2
        go_meet
        case rel => exact ⟨us, a', f', uu, R7.out, I.out⟩
      · have R7 : Hid (Wd.Rd (Wd.plist l (Wd.punit l)) a6 f6 us a' true) := M7.out.list (PR.out.early hkn _ _)
        go_wp2
        go_meet
        case rel => exact ⟨us, a', true, uu, R7.out, I.out⟩
      · clear c0 c1 c2
        have ZU : Hid (wr.heap.size ≤ wr.heap.size ∧ base ≤ wr.heap.size) := ⟨Nat.le_refl _, I.out.o4⟩
        have c2 := I.out.d.cells.2.2
        go_upto_region 15 with fail
        have U0 : Hid (Ub (wr.alloc (Obj.cells #[.int .i64 0, .int .i64 0, .int .i64 0, .int .i64 0, .int .i64 0, .int .i64 0, .int .i64 0, .int .i64 0] 62)) wr.heap.size ⟨0, 0, 0, 0, 0, 0, 0, 0⟩) := by unfold Hid Ub; rw [heap_alloc_new]
        have I0 : Hid (Ri w w0 z zw base v l ⟨n0, n1, n2, n3, gs, os, gold, us, []⟩ (.slice p4 gs.length q4) (.slice p5 os.length q5) (.slice p6 gold.length q6) (uu) (.slice none 0 0) a' false (wr.alloc (Obj.cells #[.int .i64 0, .int .i64 0, .int .i64 0, .int .i64 0, .int .i64 0, .int .i64 0, .int .i64 0, .int .i64 0] 62))) := I.out.stays ((Below.refl _ _).alloc (Nat.le_refl _) _)
        have NE : Hid ((Value.slice p4 gs.length q4).ownBlock ≠ some wr.heap.size ∧ (Value.slice p5 os.length q5).ownBlock ≠ some wr.heap.size ∧ (Value.slice p6 gold.length q6).ownBlock ≠ some wr.heap.size ∧ (uu).ownBlock ≠ some wr.heap.size ∧ (Value.slice none 0 0).ownBlock ≠ some wr.heap.size) := ⟨own_none _ _ (fun b hb => (I.out.r1.block b hb).2), own_none _ _ (fun b hb => (I.out.r2.block b hb).2), own_none _ _ (fun b hb => (I.out.r3.block b hb).2), own_none _ _ (fun b hb => (I.out.r4.block b hb).2), own_none _ _ (fun b hb => (I.out.r5.block b hb).2)⟩
        generalize (wr.alloc (Obj.cells #[.int .i64 0, .int .i64 0, .int .i64 0, .int .i64 0, .int .i64 0, .int .i64 0, .int .i64 0, .int .i64 0] 62)) = x0 at *
        generalize hzu : wr.heap.size = zu at *
        have HB : Hid (base ≤ zu) := ZU.out.2
        clear ZU I c2 hzu
        go_wp2_with fail
        refine (rnum_any w0 z v l x0 a' false I0.out.d).mono ?_
        rintro e y0 ⟨g0, b0, e0, rfl, hrd, hd, hk⟩
        have S0 : Hid (Wd.Rd (Wd.pnum l) a' false g0 b0 e0) := hrd
        have J0 : Hid (Ri w w0 z zw base v l ⟨n0, n1, n2, n3, gs, os, gold, us, []⟩ (.slice p4 gs.length q4) (.slice p5 os.length q5) (.slice p6 gold.length q6) (uu) (.slice none 0 0) b0 e0 y0) := I0.out.kp hd hk
        have V0 : Hid (Ub y0 zu ⟨0, 0, 0, 0, 0, 0, 0, 0⟩) := (hk.block zu (lt_of_block U0.out) (by have := HB.out; have := I0.out.o2; have := I0.out.o3; omega)).trans U0.out
        clear hrd hd hk I0 U0
        have ck := V0.out.cells.1
        have tk := V0.out.thaw 0
        have I1 : Hid (Ri w w0 z zw base v l ⟨n0, n1, n2, n3, gs, os, gold, us, []⟩ (.slice p4 gs.length q4) (.slice p5 os.length q5) (.slice p6 gold.length q6) (uu) (.slice none 0 0) b0 e0 (y0.setCell ⟨zu, 0, none⟩ (.int .i64 g0))) := J0.out.other (Kp.set y0 0 _) HB.out NE.out.1 NE.out.2.1 NE.out.2.2.1 NE.out.2.2.2.1 NE.out.2.2.2.2
        have U1 : Hid (Ub (y0.setCell ⟨zu, 0, none⟩ (.int .i64 g0)) zu ⟨g0, 0, 0, 0, 0, 0, 0, 0⟩) := heap_setCell_same y0 zu 0 _ _ (.int .i64 g0) V0.out
        go_upto_region 16 with fail
        generalize (y0.setCell ⟨zu, 0, none⟩ (.int .i64 g0)) = x1 at *
        clear ck tk J0 V0
        go_wp2_with fail
        refine (rnum_any w0 z v l x1 b0 e0 I1.out.d).mono ?_
        rintro e y1 ⟨g1, b1, e1, rfl, hrd, hd, hk⟩
        have S1 : Hid (Wd.Rd (Wd.pnum l) b0 e0 g1 b1 e1) := hrd
        have J1 : Hid (Ri w w0 z zw base v l ⟨n0, n1, n2, n3, gs, os, gold, us, []⟩ (.slice p4 gs.length q4) (.slice p5 os.length q5) (.slice p6 gold.length q6) (uu) (.slice none 0 0) b1 e1 y1) := I1.out.kp hd hk
        have V1 : Hid (Ub y1 zu ⟨g0, 0, 0, 0, 0, 0, 0, 0⟩) := (hk.block zu (lt_of_block U1.out) (by have := HB.out; have := I1.out.o2; have := I1.out.o3; omega)).trans U1.out
        clear hrd hd hk I1 U1
        have ck := V1.out.cells.2.1
        have tk := V1.out.thaw 1
        have I2 : Hid (Ri w w0 z zw base v l ⟨n0, n1, n2, n3, gs, os, gold, us, []⟩ (.slice p4 gs.length q4) (.slice p5 os.length q5) (.slice p6 gold.length q6) (uu) (.slice none 0 0) b1 e1 (y1.setCell ⟨zu, 1, none⟩ (.int .i64 g1))) := J1.out.other (Kp.set y1 1 _) HB.out NE.out.1 NE.out.2.1 NE.out.2.2.1 NE.out.2.2.2.1 NE.out.2.2.2.2
        have U2 : Hid (Ub (y1.setCell ⟨zu, 1, none⟩ (.int .i64 g1)) zu ⟨g0, g1, 0, 0, 0, 0, 0, 0⟩) := heap_setCell_same y1 zu 1 _ _ (.int .i64 g1) V1.out
        go_upto_region 17 with fail
        generalize (y1.setCell ⟨zu, 1, none⟩ (.int .i64 g1)) = x2 at *
        clear ck tk J1 V1
        go_wp2_with fail
        refine (rnum_any w0 z v l x2 b1 e1 I2.out.d).mono ?_
        rintro e y2 ⟨g2, b2, e2, rfl, hrd, hd, hk⟩
        have S2 : Hid (Wd.Rd (Wd.pnum l) b1 e1 g2 b2 e2) := hrd
        have J2 : Hid (Ri w w0 z zw base v l ⟨n0, n1, n2, n3, gs, os, gold, us, []⟩ (.slice p4 gs.length q4) (.slice p5 os.length q5) (.slice p6 gold.length q6) (uu) (.slice none 0 0) b2 e2 y2) := I2.out.kp hd hk
        have V2 : Hid (Ub y2 zu ⟨g0, g1, 0, 0, 0, 0, 0, 0⟩) := (hk.block zu (lt_of_block U2.out) (by have := HB.out; have := I2.out.o2; have := I2.out.o3; omega)).trans U2.out
        clear hrd hd hk I2 U2
        have ck := V2.out.cells.2.2.1
        have tk := V2.out.thaw 2
        have I3 : Hid (Ri w w0 z zw base v l ⟨n0, n1, n2, n3, gs, os, gold, us, []⟩ (.slice p4 gs.length q4) (.slice p5 os.length q5) (.slice p6 gold.length q6) (uu) (.slice none 0 0) b2 e2 (y2.setCell ⟨zu, 2, none⟩ (.int .i64 g2))) := J2.out.other (Kp.set y2 2 _) HB.out NE.out.1 NE.out.2.1 NE.out.2.2.1 NE.out.2.2.2.1 NE.out.2.2.2.2
        have U3 : Hid (Ub (y2.setCell ⟨zu, 2, none⟩ (.int .i64 g2)) zu ⟨g0, g1, g2, 0, 0, 0, 0, 0⟩) := heap_setCell_same y2 zu 2 _ _ (.int .i64 g2) V2.out
        go_upto_region 18 with fail
        generalize (y2.setCell ⟨zu, 2, none⟩ (.int .i64 g2)) = x3 at *
        clear ck tk J2 V2
        go_wp2_with fail
        refine (rnum_any w0 z v l x3 b2 e2 I3.out.d).mono ?_
        rintro e y3 ⟨g3, b3, e3, rfl, hrd, hd, hk⟩
        have S3 : Hid (Wd.Rd (Wd.pnum l) b2 e2 g3 b3 e3) := hrd
        have J3 : Hid (Ri w w0 z zw base v l ⟨n0, n1, n2, n3, gs, os, gold, us, []⟩ (.slice p4 gs.length q4) (.slice p5 os.length q5) (.slice p6 gold.length q6) (uu) (.slice none 0 0) b3 e3 y3) := I3.out.kp hd hk
        have V3 : Hid (Ub y3 zu ⟨g0, g1, g2, 0, 0, 0, 0, 0⟩) := (hk.block zu (lt_of_block U3.out) (by have := HB.out; have := I3.out.o2; have := I3.out.o3; omega)).trans U3.out
        clear hrd hd hk I3 U3
        have ck := V3.out.cells.2.2.2.1
        have tk := V3.out.thaw 3
        have I4 : Hid (Ri w w0 z zw base v l ⟨n0, n1, n2, n3, gs, os, gold, us, []⟩ (.slice p4 gs.length q4) (.slice p5 os.length q5) (.slice p6 gold.length q6) (uu) (.slice none 0 0) b3 e3 (y3.setCell ⟨zu, 3, none⟩ (.int .i64 g3))) := J3.out.other (Kp.set y3 3 _) HB.out NE.out.1 NE.out.2.1 NE.out.2.2.1 NE.out.2.2.2.1 NE.out.2.2.2.2
        have U4 : Hid (Ub (y3.setCell ⟨zu, 3, none⟩ (.int .i64 g3)) zu ⟨g0, g1, g2, g3, 0, 0, 0, 0⟩) := heap_setCell_same y3 zu 3 _ _ (.int .i64 g3) V3.out
        go_upto_region 19 with fail
        generalize (y3.setCell ⟨zu, 3, none⟩ (.int .i64 g3)) = x4 at *
        clear ck tk J3 V3
        go_wp2_with fail
        refine (rnum_any w0 z v l x4 b3 e3 I4.out.d).mono ?_
        rintro e y4 ⟨g4, b4, e4, rfl, hrd, hd, hk⟩
        have S4 : Hid (Wd.Rd (Wd.pnum l) b3 e3 g4 b4 e4) := hrd
        have J4 : Hid (Ri w w0 z zw base v l ⟨n0, n1, n2, n3, gs, os, gold, us, []⟩ (.slice p4 gs.length q4) (.slice p5 os.length q5) (.slice p6 gold.length q6) (uu) (.slice none 0 0) b4 e4 y4) := I4.out.kp hd hk
        have V4 : Hid (Ub y4 zu ⟨g0, g1, g2, g3, 0, 0, 0, 0⟩) := (hk.block zu (lt_of_block U4.out) (by have := HB.out; have := I4.out.o2; have := I4.out.o3; omega)).trans U4.out
        clear hrd hd hk I4 U4
        have ck := V4.out.cells.2.2.2.2.1
        have tk := V4.out.thaw 4
        have I5 : Hid (Ri w w0 z zw base v l ⟨n0, n1, n2, n3, gs, os, gold, us, []⟩ (.slice p4 gs.length q4) (.slice p5 os.length q5) (.slice p6 gold.length q6) (uu) (.slice none 0 0) b4 e4 (y4.setCell ⟨zu, 4, none⟩ (.int .i64 g4))) := J4.out.other (Kp.set y4 4 _) HB.out NE.out.1 NE.out.2.1 NE.out.2.2.1 NE.out.2.2.2.1 NE.out.2.2.2.2
        have U5 : Hid (Ub (y4.setCell ⟨zu, 4, none⟩ (.int .i64 g4)) zu ⟨g0, g1, g2, g3, g4, 0, 0, 0⟩) := heap_setCell_same y4 zu 4 _ _ (.int .i64 g4) V4.out
        go_upto_region 20 with fail
        generalize (y4.setCell ⟨zu, 4, none⟩ (.int .i64 g4)) = x5 at *
        clear ck tk J4 V4
        go_wp2_with fail
        refine (rnum_any w0 z v l x5 b4 e4 I5.out.d).mono ?_
        rintro e y5 ⟨g5, b5, e5, rfl, hrd, hd, hk⟩
        have S5 : Hid (Wd.Rd (Wd.pnum l) b4 e4 g5 b5 e5) := hrd
        have J5 : Hid (Ri w w0 z zw base v l ⟨n0, n1, n2, n3, gs, os, gold, us, []⟩ (.slice p4 gs.length q4) (.slice p5 os.length q5) (.slice p6 gold.length q6) (uu) (.slice none 0 0) b5 e5 y5) := I5.out.kp hd hk
        have V5 : Hid (Ub y5 zu ⟨g0, g1, g2, g3, g4, 0, 0, 0⟩) := (hk.block zu (lt_of_block U5.out) (by have := HB.out; have := I5.out.o2; have := I5.out.o3; omega)).trans U5.out
        clear hrd hd hk I5 U5
        have ck := V5.out.cells.2.2.2.2.2.1
        have tk := V5.out.thaw 5
        have I6 : Hid (Ri w w0 z zw base v l ⟨n0, n1, n2, n3, gs, os, gold, us, []⟩ (.slice p4 gs.length q4) (.slice p5 os.length q5) (.slice p6 gold.length q6) (uu) (.slice none 0 0) b5 e5 (y5.setCell ⟨zu, 5, none⟩ (.int .i64 g5))) := J5.out.other (Kp.set y5 5 _) HB.out NE.out.1 NE.out.2.1 NE.out.2.2.1 NE.out.2.2.2.1 NE.out.2.2.2.2
        have U6 : Hid (Ub (y5.setCell ⟨zu, 5, none⟩ (.int .i64 g5)) zu ⟨g0, g1, g2, g3, g4, g5, 0, 0⟩) := heap_setCell_same y5 zu 5 _ _ (.int .i64 g5) V5.out
        go_upto_region 21 with fail
        generalize (y5.setCell ⟨zu, 5, none⟩ (.int .i64 g5)) = x6 at *
        clear ck tk J5 V5
        go_wp2_with fail
        refine (rnum_any w0 z v l x6 b5 e5 I6.out.d).mono ?_
        rintro e y6 ⟨g6, b6, e6, rfl, hrd, hd, hk⟩
        have S6 : Hid (Wd.Rd (Wd.pnum l) b5 e5 g6 b6 e6) := hrd
        have J6 : Hid (Ri w w0 z zw base v l ⟨n0, n1, n2, n3, gs, os, gold, us, []⟩ (.slice p4 gs.length q4) (.slice p5 os.length q5) (.slice p6 gold.length q6) (uu) (.slice none 0 0) b6 e6 y6) := I6.out.kp hd hk
        have V6 : Hid (Ub y6 zu ⟨g0, g1, g2, g3, g4, g5, 0, 0⟩) := (hk.block zu (lt_of_block U6.out) (by have := HB.out; have := I6.out.o2; have := I6.out.o3; omega)).trans U6.out
        clear hrd hd hk I6 U6
        have ck := V6.out.cells.2.2.2.2.2.2.1
        have tk := V6.out.thaw 6
        have I7 : Hid (Ri w w0 z zw base v l ⟨n0, n1, n2, n3, gs, os, gold, us, []⟩ (.slice p4 gs.length q4) (.slice p5 os.length q5) (.slice p6 gold.length q6) (uu) (.slice none 0 0) b6 e6 (y6.setCell ⟨zu, 6, none⟩ (.int .i64 g6))) := J6.out.other (Kp.set y6 6 _) HB.out NE.out.1 NE.out.2.1 NE.out.2.2.1 NE.out.2.2.2.1 NE.out.2.2.2.2
        have U7 : Hid (Ub (y6.setCell ⟨zu, 6, none⟩ (.int .i64 g6)) zu ⟨g0, g1, g2, g3, g4, g5, g6, 0⟩) := heap_setCell_same y6 zu 6 _ _ (.int .i64 g6) V6.out
        go_upto_region 22 with fail
        generalize (y6.setCell ⟨zu, 6, none⟩ (.int .i64 g6)) = x7 at *
        clear ck tk J6 V6
        go_wp2_with fail
        refine (rnum_any w0 z v l x7 b6 e6 I7.out.d).mono ?_
        rintro e y7 ⟨g7, b7, e7, rfl, hrd, hd, hk⟩
        have S7 : Hid (Wd.Rd (Wd.pnum l) b6 e6 g7 b7 e7) := hrd
        have J7 : Hid (Ri w w0 z zw base v l ⟨n0, n1, n2, n3, gs, os, gold, us, []⟩ (.slice p4 gs.length q4) (.slice p5 os.length q5) (.slice p6 gold.length q6) (uu) (.slice none 0 0) b7 e7 y7) := I7.out.kp hd hk
        have V7 : Hid (Ub y7 zu ⟨g0, g1, g2, g3, g4, g5, g6, 0⟩) := (hk.block zu (lt_of_block U7.out) (by have := HB.out; have := I7.out.o2; have := I7.out.o3; omega)).trans U7.out
        clear hrd hd hk I7 U7
        have ck := V7.out.cells.2.2.2.2.2.2.2
        have tk := V7.out.thaw 7
        have I8 : Hid (Ri w w0 z zw base v l ⟨n0, n1, n2, n3, gs, os, gold, us, []⟩ (.slice p4 gs.length q4) (.slice p5 os.length q5) (.slice p6 gold.length q6) (uu) (.slice none 0 0) b7 e7 (y7.setCell ⟨zu, 7, none⟩ (.int .i64 g7))) := J7.out.other (Kp.set y7 7 _) HB.out NE.out.1 NE.out.2.1 NE.out.2.2.1 NE.out.2.2.2.1 NE.out.2.2.2.2
        have U8 : Hid (Ub (y7.setCell ⟨zu, 7, none⟩ (.int .i64 g7)) zu ⟨g0, g1, g2, g3, g4, g5, g6, g7⟩) := heap_setCell_same y7 zu 7 _ _ (.int .i64 g7) V7.out
        go_upto_region 23 with fail
        generalize (y7.setCell ⟨zu, 7, none⟩ (.int .i64 g7)) = x8 at *
        clear ck tk J7 V7
        have RX : Hid (Wd.Rd (Wd.punit l) a' false ⟨g0, g1, g2, g3, g4, g5, g6, g7⟩ b7 e7) := S0.out.bind (S1.out.bind (S2.out.bind (S3.out.bind (S4.out.bind (S5.out.bind (S6.out.bind (S7.out.bind (Wd.Rd.ret _ _ _))))))))
        have PS : Hid (Wd.Rd (Wd.prep (Wd.punit l) (k + 1)) a7 f7 (us ++ [⟨g0, g1, g2, g3, g4, g5, g6, g7⟩]) b7 e7) := PR.out.snoc RX.out
        obtain ⟨d0, d1, d2, d3, d4, d5, d6, d7⟩ := U8.out.cells
        have cz := I8.out.b.cells.c7
        have tz := I8.out.b.thaw 7
        obtain ⟨pu, qu, huu⟩ := I8.out.r4.len
        subst huu
        go_wp2_with (at_builtin; refine app_un _ rfl _ _ rfl base _ us rfl (I8.out.r4.alloc _) x8.heap.size ⟨g0, g1, g2, g3, g4, g5, g6, g7⟩ rfl (Unc.mk' ⟨g0, g1, g2, g3, g4, g5, g6, g7⟩ rfl) (by have := HX.out; omega) (by have := I8.out.o4; simp; omega) ?_)
        intro gg cap2 w5 oo gr qq ll
        have GR : Hid (_ ∧ _) := ⟨(I8.out.grow ((Below.refl _ _).alloc (Nat.le_refl _) _) gr (fun b hb => (I8.out.r4.block b hb).1)).2.1, trivial⟩
        have cz5 := (show Wb w5 zw _ _ _ _ _ _ from GR.out.1).cells.c7
        have tz5 := (show Wb w5 zw _ _ _ _ _ _ from GR.out.1).thaw 7
        have I9 : Hid (Ri w w0 z zw base v l ⟨n0, n1, n2, n3, gs, os, gold, (us ++ [⟨g0, g1, g2, g3, g4, g5, g6, g7⟩]), []⟩ (.slice p4 gs.length q4) (.slice p5 os.length q5) (.slice p6 gold.length q6) (.slice (some ⟨gg, 0, none⟩) (us.length + 1) cap2) (.slice none 0 0) b7 e7 (w5.setCell ⟨zw, 7, none⟩ (.slice (some ⟨gg, 0, none⟩) (us.length + 1) cap2))) := I8.out.units ((Below.refl _ _).alloc (Nat.le_refl _) _) gr oo
        clear oo gr qq ll GR cz tz d0 d1 d2 d3 d4 d5 d6 d7
        go_wp2
        generalize (w5.setCell ⟨zw, 7, none⟩ (.slice (some ⟨gg, 0, none⟩) (us.length + 1) cap2)) = x9 at *
        clear cz5 tz5 I8 U8
        go_roundw
        case rel => exact ⟨us ++ [⟨g0, g1, g2, g3, g4, g5, g6, g7⟩], k + 1, b7, e7, _, rfl, by omega, by rw [List.length_append, HX.out]; rfl, PS.out, I9.out⟩
        case measure => simp [intOf]; omega
  case rest =>
    obtain ⟨us, a', f', uu, hR, hI⟩ := hcut
    have R7 : Hid (Wd.Rd (Wd.plist l (Wd.punit l)) a6 f6 us a' f') := hR
    have I : Hid (Ri w w0 z zw base v l ⟨n0, n1, n2, n3, gs, os, gold, us, []⟩ (.slice p4 gs.length q4) (.slice p5 os.length q5) (.slice p6 gold.length q6) (uu) (.slice none 0 0) a' f' wc) := hI
    clear hR hI M7 J7
    obtain ⟨pw, qw, huw⟩ := I.out.r4.len
    subst huw
    go_wp2_with fail
    refine (rmany_any w0 z v l wc a' f' I.out.d).mono ?_
    rintro e y8 ⟨m8, a8, f8, rfl, h200, hrd, hd, hk⟩
    have M8 : Hid (Wd.Rd (Wd.pmany l) a' f' m8 a8 f8) := hrd
    have J8 : Hid (Ri w w0 z zw base v l ⟨n0, n1, n2, n3, gs, os, gold, us, []⟩ (.slice p4 gs.length q4) (.slice p5 os.length q5) (.slice p6 gold.length q6) (.slice pw us.length qw) (.slice none 0 0) a8 f8 y8) := I.out.kp hd hk
    clear hrd hd hk I
    go_upto_block 2 with fail
    go_cut [10] from 42 (fun _ W' => ∃ (qs : List JbV) (a2' : Nat) (f2' : Bool) (uv : Value), Wd.Rd (Wd.plist l (Wd.pjob l)) a' f' qs a2' f2' ∧ Ri w w0 z zw base v l ⟨n0, n1, n2, n3, gs, os, gold, us, qs⟩ (.slice p4 gs.length q4) (.slice p5 os.length q5) (.slice p6 gold.length q6) (.slice pw us.length qw) (uv) a2' f2' W')
    case first =>
      go_wp2
      go_loopw [10] (fun iv W => ∃ (qs : List JbV) (k2 a2' : Nat) (f2' : Bool) (uv : Value), iv = .int .i64 (k2 : Nat) ∧ k2 ≤ m8 ∧ qs.length = k2 ∧ Wd.Rd (Wd.prep (Wd.pjob l) k2) a8 f8 qs a2' f2' ∧ Ri w w0 z zw base v l ⟨n0, n1, n2, n3, gs, os, gold, us, qs⟩ (.slice p4 gs.length q4) (.slice p5 os.length q5) (.slice p6 gold.length q6) (.slice pw us.length qw) (uv) a2' f2' W) (fun iv _ => m8 - (intOf iv).toNat)
      case atStart => exact ⟨[], 0, a8, f8, .slice none 0 0, rfl, Nat.zero_le _, rfl, Wd.Rd.nil _ _ _, J8.out⟩
      case round =>
        obtain ⟨qs, k2, a2', f2', uv, rfl, hkn, hxl, hrd, hri⟩ := hrel
        have HX : Hid (qs.length = k2) := hxl
        have PR : Hid (Wd.Rd (Wd.prep (Wd.pjob l) k2) a8 f8 qs a2' f2') := hrd
        have I : Hid (Ri w w0 z zw base v l ⟨n0, n1, n2, n3, gs, os, gold, us, qs⟩ (.slice p4 gs.length q4) (.slice p5 os.length q5) (.slice p6 gold.length q6) (.slice pw us.length qw) (uv) a2' f2' wr) := hri
        obtain ⟨c0, c1, c2⟩ := hri.d.cells
        clear hrd hri hxl
        have hcase : (¬ ((k2 : Int) < (m8 : Int)) ∧ k2 = m8) ∨ ((k2 : Int) < (m8 : Int) ∧ f2' = true) ∨ ((k2 : Int) < (m8 : Int) ∧ f2' = false) := by
          by_cases he : k2 = m8
          · exact .inl ⟨by omega, he⟩
          · cases f2'
            · exact .inr (.inr ⟨by omega, rfl⟩)
            · exact .inr (.inl ⟨by omega, rfl⟩)
        rcases hcase with ⟨hlt, he⟩ | ⟨hlt, rfl⟩ | ⟨hlt, rfl⟩
        · have R8 : Hid (Wd.Rd (Wd.plist l (Wd.pjob l)) a' f' qs a2' f2') := M8.out.list (by rw [← he]; exact PR.out)
          have HE : Hid (k2 = m8) := he
          clear he
          go_wp2
          go_meet
          case rel => exact ⟨qs, a2', f2', uv, R8.out, I.out⟩
        · have R8 : Hid (Wd.Rd (Wd.plist l (Wd.pjob l)) a' f' qs a2' true) := M8.out.list (PR.out.early hkn _ _)
          go_wp2
          go_meet
          case rel => exact ⟨qs, a2', true, uv, R8.out, I.out⟩
        · clear c0 c1 c2
          have ZU : Hid (wr.heap.size ≤ wr.heap.size ∧ base ≤ wr.heap.size) := ⟨Nat.le_refl _, I.out.o4⟩
          have c2 := I.out.d.cells.2.2
          go_upto_region 29 with fail
          have U0 : Hid (Jk (wr.alloc (Obj.cells #[.int .i64 0, .int .i64 0, .int .i64 0, .int .i64 0] 110)) wr.heap.size ⟨0, 0, 0, 0⟩) := by unfold Hid Jk; rw [heap_alloc_new]
          have I0 : Hid (Ri w w0 z zw base v l ⟨n0, n1, n2, n3, gs, os, gold, us, qs⟩ (.slice p4 gs.length q4) (.slice p5 os.length q5) (.slice p6 gold.length q6) (.slice pw us.length qw) (uv) a2' false (wr.alloc (Obj.cells #[.int .i64 0, .int .i64 0, .int .i64 0, .int .i64 0] 110))) := I.out.stays ((Below.refl _ _).alloc (Nat.le_refl _) _)
          have NE : Hid ((Value.slice p4 gs.length q4).ownBlock ≠ some wr.heap.size ∧ (Value.slice p5 os.length q5).ownBlock ≠ some wr.heap.size ∧ (Value.slice p6 gold.length q6).ownBlock ≠ some wr.heap.size ∧ (Value.slice pw us.length qw).ownBlock ≠ some wr.heap.size ∧ (uv).ownBlock ≠ some wr.heap.size) := ⟨own_none _ _ (fun b hb => (I.out.r1.block b hb).2), own_none _ _ (fun b hb => (I.out.r2.block b hb).2), own_none _ _ (fun b hb => (I.out.r3.block b hb).2), own_none _ _ (fun b hb => (I.out.r4.block b hb).2), own_none _ _ (fun b hb => (I.out.r5.block b hb).2)⟩
          generalize (wr.alloc (Obj.cells #[.int .i64 0, .int .i64 0, .int .i64 0, .int .i64 0] 110)) = x0 at *
          generalize hzu : wr.heap.size = zu at *
          have HB : Hid (base ≤ zu) := ZU.out.2
          clear ZU I c2 hzu
          go_wp2_with fail
          refine (rnum_any w0 z v l x0 a2' false I0.out.d).mono ?_
          rintro e y0 ⟨g0, b0, e0, rfl, hrd, hd, hk⟩
          have S0 : Hid (Wd.Rd (Wd.pnum l) a2' false g0 b0 e0) := hrd
          have J0 : Hid (Ri w w0 z zw base v l ⟨n0, n1, n2, n3, gs, os, gold, us, qs⟩ (.slice p4 gs.length q4) (.slice p5 os.length q5) (.slice p6 gold.length q6) (.slice pw us.length qw) (uv) b0 e0 y0) := I0.out.kp hd hk
          have V0 : Hid (Jk y0 zu ⟨0, 0, 0, 0⟩) := (hk.block zu (lt_of_block U0.out) (by have := HB.out; have := I0.out.o2; have := I0.out.o3; omega)).trans U0.out
          clear hrd hd hk I0 U0
          have ck := V0.out.cells.1
          have tk := V0.out.thaw 0
          have I1 : Hid (Ri w w0 z zw base v l ⟨n0, n1, n2, n3, gs, os, gold, us, qs⟩ (.slice p4 gs.length q4) (.slice p5 os.length q5) (.slice p6 gold.length q6) (.slice pw us.length qw) (uv) b0 e0 (y0.setCell ⟨zu, 0, none⟩ (.int .i64 g0))) := J0.out.other (Kp.set y0 0 _) HB.out NE.out.1 NE.out.2.1 NE.out.2.2.1 NE.out.2.2.2.1 NE.out.2.2.2.2
          have U1 : Hid (Jk (y0.setCell ⟨zu, 0, none⟩ (.int .i64 g0)) zu ⟨g0, 0, 0, 0⟩) := heap_setCell_same y0 zu 0 _ _ (.int .i64 g0) V0.out
          go_upto_region 30 with fail
          generalize (y0.setCell ⟨zu, 0, none⟩ (.int .i64 g0)) = x1 at *
          clear ck tk J0 V0
          go_wp2_with fail
          refine (rnum_any w0 z v l x1 b0 e0 I1.out.d).mono ?_
          rintro e y1 ⟨g1, b1, e1, rfl, hrd, hd, hk⟩
          have S1 : Hid (Wd.Rd (Wd.pnum l) b0 e0 g1 b1 e1) := hrd
          have J1 : Hid (Ri w w0 z zw base v l ⟨n0, n1, n2, n3, gs, os, gold, us, qs⟩ (.slice p4 gs.length q4) (.slice p5 os.length q5) (.slice p6 gold.length q6) (.slice pw us.length qw) (uv) b1 e1 y1) := I1.out.kp hd hk
          have V1 : Hid (Jk y1 zu ⟨g0, 0, 0, 0⟩) := (hk.block zu (lt_of_block U1.out) (by have := HB.out; have := I1.out.o2; have := I1.out.o3; omega)).trans U1.out
          clear hrd hd hk I1 U1
          have ck := V1.out.cells.2.1
          have tk := V1.out.thaw 1
          have I2 : Hid (Ri w w0 z zw base v l ⟨n0, n1, n2, n3, gs, os, gold, us, qs⟩ (.slice p4 gs.length q4) (.slice p5 os.length q5) (.slice p6 gold.length q6) (.slice pw us.length qw) (uv) b1 e1 (y1.setCell ⟨zu, 1, none⟩ (.int .i64 g1))) := J1.out.other (Kp.set y1 1 _) HB.out NE.out.1 NE.out.2.1 NE.out.2.2.1 NE.out.2.2.2.1 NE.out.2.2.2.2
          have U2 : Hid (Jk (y1.setCell ⟨zu, 1, none⟩ (.int .i64 g1)) zu ⟨g0, g1, 0, 0⟩) := heap_setCell_same y1 zu 1 _ _ (.int .i64 g1) V1.out
          go_upto_region 31 with fail
          generalize (y1.setCell ⟨zu, 1, none⟩ (.int .i64 g1)) = x2 at *
          clear ck tk J1 V1
          go_wp2_with fail
          refine (rnum_any w0 z v l x2 b1 e1 I2.out.d).mono ?_
          rintro e y2 ⟨g2, b2, e2, rfl, hrd, hd, hk⟩
          have S2 : Hid (Wd.Rd (Wd.pnum l) b1 e1 g2 b2 e2) := hrd
          have J2 : Hid (Ri w w0 z zw base v l ⟨n0, n1, n2, n3, gs, os, gold, us, qs⟩ (.slice p4 gs.length q4) (.slice p5 os.length q5) (.slice p6 gold.length q6) (.slice pw us.length qw) (uv) b2 e2 y2) := I2.out.kp hd hk
          have V2 : Hid (Jk y2 zu ⟨g0, g1, 0, 0⟩) := (hk.block zu (lt_of_block U2.out) (by have := HB.out; have := I2.out.o2; have := I2.out.o3; omega)).trans U2.out
          clear hrd hd hk I2 U2
          have ck := V2.out.cells.2.2.1
          have tk := V2.out.thaw 2
          have I3 : Hid (Ri w w0 z zw base v l ⟨n0, n1, n2, n3, gs, os, gold, us, qs⟩ (.slice p4 gs.length q4) (.slice p5 os.length q5) (.slice p6 gold.length q6) (.slice pw us.length qw) (uv) b2 e2 (y2.setCell ⟨zu, 2, none⟩ (.int .i64 g2))) := J2.out.other (Kp.set y2 2 _) HB.out NE.out.1 NE.out.2.1 NE.out.2.2.1 NE.out.2.2.2.1 NE.out.2.2.2.2
          have U3 : Hid (Jk (y2.setCell ⟨zu, 2, none⟩ (.int .i64 g2)) zu ⟨g0, g1, g2, 0⟩) := heap_setCell_same y2 zu 2 _ _ (.int .i64 g2) V2.out
          go_upto_region 32 with fail
          generalize (y2.setCell ⟨zu, 2, none⟩ (.int .i64 g2)) = x3 at *
          clear ck tk J2 V2
          go_wp2_with fail
          refine (rnum_any w0 z v l x3 b2 e2 I3.out.d).mono ?_
          rintro e y3 ⟨g3, b3, e3, rfl, hrd, hd, hk⟩
          have S3 : Hid (Wd.Rd (Wd.pnum l) b2 e2 g3 b3 e3) := hrd
          have J3 : Hid (Ri w w0 z zw base v l ⟨n0, n1, n2, n3, gs, os, gold, us, qs⟩ (.slice p4 gs.length q4) (.slice p5 os.length q5) (.slice p6 gold.length q6) (.slice pw us.length qw) (uv) b3 e3 y3) := I3.out.kp hd hk
          have V3 : Hid (Jk y3 zu ⟨g0, g1, g2, 0⟩) := (hk.block zu (lt_of_block U3.out) (by have := HB.out; have := I3.out.o2; have := I3.out.o3; omega)).trans U3.out
          clear hrd hd hk I3 U3
          have ck := V3.out.cells.2.2.2
          have tk := V3.out.thaw 3
          have I4 : Hid (Ri w w0 z zw base v l ⟨n0, n1, n2, n3, gs, os, gold, us, qs⟩ (.slice p4 gs.length q4) (.slice p5 os.length q5) (.slice p6 gold.length q6) (.slice pw us.length qw) (uv) b3 e3 (y3.setCell ⟨zu, 3, none⟩ (.int .i64 g3))) := J3.out.other (Kp.set y3 3 _) HB.out NE.out.1 NE.out.2.1 NE.out.2.2.1 NE.out.2.2.2.1 NE.out.2.2.2.2
          have U4 : Hid (Jk (y3.setCell ⟨zu, 3, none⟩ (.int .i64 g3)) zu ⟨g0, g1, g2, g3⟩) := heap_setCell_same y3 zu 3 _ _ (.int .i64 g3) V3.out
          go_upto_region 33 with fail
          generalize (y3.setCell ⟨zu, 3, none⟩ (.int .i64 g3)) = x4 at *
          clear ck tk J3 V3
          have RX : Hid (Wd.Rd (Wd.pjob l) a2' false ⟨g0, g1, g2, g3⟩ b3 e3) := S0.out.bind (S1.out.bind (S2.out.bind (S3.out.bind (Wd.Rd.ret _ _ _))))
          have PS : Hid (Wd.Rd (Wd.prep (Wd.pjob l) (k2 + 1)) a8 f8 (qs ++ [⟨g0, g1, g2, g3⟩]) b3 e3) := PR.out.snoc RX.out
          obtain ⟨d0, d1, d2, d3⟩ := U4.out.cells
          have cz := I4.out.b.cells.c8
          have tz := I4.out.b.thaw 8
          obtain ⟨pu, qu, huu⟩ := I4.out.r5.len
          subst huu
          go_wp2_with (at_builtin; refine app_jb _ rfl _ _ rfl base _ qs rfl (I4.out.r5.alloc _) x4.heap.size ⟨g0, g1, g2, g3⟩ rfl (Jbc.mk' ⟨g0, g1, g2, g3⟩ rfl) (by have := HX.out; omega) (by have := I4.out.o4; simp; omega) ?_)
          intro gg cap2 w5 oo gr qq ll
          have GR : Hid (_ ∧ _) := ⟨(I4.out.grow ((Below.refl _ _).alloc (Nat.le_refl _) _) gr (fun b hb => (I4.out.r5.block b hb).1)).2.1, trivial⟩
          have cz5 := (show Wb w5 zw _ _ _ _ _ _ from GR.out.1).cells.c8
          have tz5 := (show Wb w5 zw _ _ _ _ _ _ from GR.out.1).thaw 8
          have I9 : Hid (Ri w w0 z zw base v l ⟨n0, n1, n2, n3, gs, os, gold, us, (qs ++ [⟨g0, g1, g2, g3⟩])⟩ (.slice p4 gs.length q4) (.slice p5 os.length q5) (.slice p6 gold.length q6) (.slice pw us.length qw) (.slice (some ⟨gg, 0, none⟩) (qs.length + 1) cap2) b3 e3 (w5.setCell ⟨zw, 8, none⟩ (.slice (some ⟨gg, 0, none⟩) (qs.length + 1) cap2))) := I4.out.jobs ((Below.refl _ _).alloc (Nat.le_refl _) _) gr oo
          clear oo gr qq ll GR cz tz d0 d1 d2 d3
          go_wp2
          generalize (w5.setCell ⟨zw, 8, none⟩ (.slice (some ⟨gg, 0, none⟩) (qs.length + 1) cap2)) = x9 at *
          clear cz5 tz5 I4 U4
          go_roundw
          case rel => exact ⟨qs ++ [⟨g0, g1, g2, g3⟩], k2 + 1, b3, e3, _, rfl, by omega, by rw [List.length_append, HX.out]; rfl, PS.out, I9.out⟩
          case measure => simp [intOf]; omega
    case rest =>
      obtain ⟨qs, a2', f2', uv, hR, hI⟩ := hcut
      have R8 : Hid (Wd.Rd (Wd.plist l (Wd.pjob l)) a' f' qs a2' f2') := hR
      have I : Hid (Ri w w0 z zw base v l ⟨n0, n1, n2, n3, gs, os, gold, us, qs⟩ (.slice p4 gs.length q4) (.slice p5 os.length q5) (.slice p6 gold.length q6) (.slice pw us.length qw) (uv) a2' f2' wc) := hI
      clear hR hI M8 J8
      have RW : Hid (Wd.Rd (Wd.pworld l) 0 false ⟨n0, n1, n2, n3, gs, os, gold, us, qs⟩ a2' f2') := R0.out.bind (R1.out.bind (R2.out.bind (R3.out.bind (R4.out.bind (R5.out.bind (R6.out.bind (R7.out.bind (R8.out.bind (Wd.Rd.ret _ _ _)))))))))
      have cz0 : wc.cell? ⟨w.heap.size, 0, none⟩ = some (.int .i64 0) := by have := I.out.zr; simp [World.cell?, this]
      have tz0 : wc.frozen? ⟨w.heap.size, 0, none⟩ = false := by have := I.out.zr; simp [World.frozen?, this]
      have cz1 : wc.cell? ⟨w.heap.size, 1, none⟩ = some (.int .i64 0) := by have := I.out.zr; simp [World.cell?, this]
      have tz1 : wc.frozen? ⟨w.heap.size, 1, none⟩ = false := by have := I.out.zr; simp [World.frozen?, this]
      have cz2 : wc.cell? ⟨w.heap.size, 2, none⟩ = some (.int .i64 0) := by have := I.out.zr; simp [World.cell?, this]
      have tz2 : wc.frozen? ⟨w.heap.size, 2, none⟩ = false := by have := I.out.zr; simp [World.frozen?, this]
      have cz3 : wc.cell? ⟨w.heap.size, 3, none⟩ = some (.int .i64 0) := by have := I.out.zr; simp [World.cell?, this]
      have tz3 : wc.frozen? ⟨w.heap.size, 3, none⟩ = false := by have := I.out.zr; simp [World.frozen?, this]
      have cz4 : wc.cell? ⟨w.heap.size, 4, none⟩ = some (.slice none 0 0) := by have := I.out.zr; simp [World.cell?, this]
      have tz4 : wc.frozen? ⟨w.heap.size, 4, none⟩ = false := by have := I.out.zr; simp [World.frozen?, this]
      have cz5 : wc.cell? ⟨w.heap.size, 5, none⟩ = some (.slice none 0 0) := by have := I.out.zr; simp [World.cell?, this]
      have tz5 : wc.frozen? ⟨w.heap.size, 5, none⟩ = false := by have := I.out.zr; simp [World.frozen?, this]
      have cz6 : wc.cell? ⟨w.heap.size, 6, none⟩ = some (.slice none 0 0) := by have := I.out.zr; simp [World.cell?, this]
      have tz6 : wc.frozen? ⟨w.heap.size, 6, none⟩ = false := by have := I.out.zr; simp [World.frozen?, this]
      have cz7 : wc.cell? ⟨w.heap.size, 7, none⟩ = some (.slice none 0 0) := by have := I.out.zr; simp [World.cell?, this]
      have tz7 : wc.frozen? ⟨w.heap.size, 7, none⟩ = false := by have := I.out.zr; simp [World.frozen?, this]
      have cz8 : wc.cell? ⟨w.heap.size, 8, none⟩ = some (.slice none 0 0) := by have := I.out.zr; simp [World.cell?, this]
      have tz8 : wc.frozen? ⟨w.heap.size, 8, none⟩ = false := by have := I.out.zr; simp [World.frozen?, this]
      obtain ⟨pv, qv, huv⟩ := I.out.r5.len
      subst huv
      obtain ⟨c0, c1, c2⟩ := I.out.d.cells
      cases f2' with
      | true =>
        have E : Hid (Wd.pworld l 0 = none) := by
          rcases RW.out.2 rfl with ⟨-, h⟩ | ⟨h, -⟩
          · cases h
          · exact h
        go_wp2
        have KC : Hid (Kp w.heap.size wc (((((((((wc.setCell ⟨w.heap.size, 0, none⟩ (.int .i64 0)).setCell ⟨w.heap.size, 1, none⟩ (.int .i64 0)).setCell ⟨w.heap.size, 2, none⟩ (.int .i64 0)).setCell ⟨w.heap.size, 3, none⟩ (.int .i64 0)).setCell ⟨w.heap.size, 4, none⟩ (.slice none 0 0)).setCell ⟨w.heap.size, 5, none⟩ (.slice none 0 0)).setCell ⟨w.heap.size, 6, none⟩ (.slice none 0 0)).setCell ⟨w.heap.size, 7, none⟩ (.slice none 0 0)).setCell ⟨w.heap.size, 8, none⟩ (.slice none 0 0))) := (((((((((Kp.set wc 0 _).trans (Kp.set _ 1 _)).trans (Kp.set _ 2 _)).trans (Kp.set _ 3 _)).trans (Kp.set _ 4 _)).trans (Kp.set _ 5 _)).trans (Kp.set _ 6 _)).trans (Kp.set _ 7 _)).trans (Kp.set _ 8 _))
        have ZZ : Hid ((((((((((wc.setCell ⟨w.heap.size, 0, none⟩ (.int .i64 0)).setCell ⟨w.heap.size, 1, none⟩ (.int .i64 0)).setCell ⟨w.heap.size, 2, none⟩ (.int .i64 0)).setCell ⟨w.heap.size, 3, none⟩ (.int .i64 0)).setCell ⟨w.heap.size, 4, none⟩ (.slice none 0 0)).setCell ⟨w.heap.size, 5, none⟩ (.slice none 0 0)).setCell ⟨w.heap.size, 6, none⟩ (.slice none 0 0)).setCell ⟨w.heap.size, 7, none⟩ (.slice none 0 0)).setCell ⟨w.heap.size, 8, none⟩ (.slice none 0 0)).heap[w.heap.size]? = some (Obj.cells #[.int .i64 0, .int .i64 0, .int .i64 0, .int .i64 0, .slice none 0 0, .slice none 0 0, .slice none 0 0, .slice none 0 0, .slice none 0 0] 49 (0, 0))) := heap_setCell_same _ w.heap.size 8 _ _ (.slice none 0 0) (heap_setCell_same _ w.heap.size 7 _ _ (.slice none 0 0) (heap_setCell_same _ w.heap.size 6 _ _ (.slice none 0 0) (heap_setCell_same _ w.heap.size 5 _ _ (.slice none 0 0) (heap_setCell_same _ w.heap.size 4 _ _ (.slice none 0 0) (heap_setCell_same _ w.heap.size 3 _ _ (.int .i64 0) (heap_setCell_same _ w.heap.size 2 _ _ (.int .i64 0) (heap_setCell_same _ w.heap.size 1 _ _ (.int .i64 0) (heap_setCell_same _ w.heap.size 0 _ _ (.int .i64 0) (I.out.zr)))))))))
        generalize (((((((((wc.setCell ⟨w.heap.size, 0, none⟩ (.int .i64 0)).setCell ⟨w.heap.size, 1, none⟩ (.int .i64 0)).setCell ⟨w.heap.size, 2, none⟩ (.int .i64 0)).setCell ⟨w.heap.size, 3, none⟩ (.int .i64 0)).setCell ⟨w.heap.size, 4, none⟩ (.slice none 0 0)).setCell ⟨w.heap.size, 5, none⟩ (.slice none 0 0)).setCell ⟨w.heap.size, 6, none⟩ (.slice none 0 0)).setCell ⟨w.heap.size, 7, none⟩ (.slice none 0 0)).setCell ⟨w.heap.size, 8, none⟩ (.slice none 0 0)) = w8 at *
        clear cz0 tz0 cz1 tz1 cz2 tz2 cz3 tz3 cz4 tz4 cz5 tz5 cz6 tz6 cz7 tz7 cz8 tz8
        have e0 : w8.cell? ⟨w.heap.size, 0, none⟩ = some (.int .i64 0) := by have := ZZ.out; simp [World.cell?, this]
        have e1 : w8.cell? ⟨w.heap.size, 1, none⟩ = some (.int .i64 0) := by have := ZZ.out; simp [World.cell?, this]
        have e2 : w8.cell? ⟨w.heap.size, 2, none⟩ = some (.int .i64 0) := by have := ZZ.out; simp [World.cell?, this]
        have e3 : w8.cell? ⟨w.heap.size, 3, none⟩ = some (.int .i64 0) := by have := ZZ.out; simp [World.cell?, this]
        have e4 : w8.cell? ⟨w.heap.size, 4, none⟩ = some (.slice none 0 0) := by have := ZZ.out; simp [World.cell?, this]
        have e5 : w8.cell? ⟨w.heap.size, 5, none⟩ = some (.slice none 0 0) := by have := ZZ.out; simp [World.cell?, this]
        have e6 : w8.cell? ⟨w.heap.size, 6, none⟩ = some (.slice none 0 0) := by have := ZZ.out; simp [World.cell?, this]
        have e7 : w8.cell? ⟨w.heap.size, 7, none⟩ = some (.slice none 0 0) := by have := ZZ.out; simp [World.cell?, this]
        have e8 : w8.cell? ⟨w.heap.size, 8, none⟩ = some (.slice none 0 0) := by have := ZZ.out; simp [World.cell?, this]
        refine bodyPost_ret (v := .tuple #[.agg #[.int .i64 0, .int .i64 0, .int .i64 0, .int .i64 0, .slice none 0 0, .slice none 0 0, .slice none 0 0, .slice none 0 0, .slice none 0 0], .int .i64 0, .bool false]) (by simp [results, Tryd.results34, go_sem, e0, e1, e2, e3, e4, e5, e6, e7, e8]) rfl ⟨?_, Kp.below I.out.bl KC.out (by have := I.out.o1; have := I.out.o2; have := I.out.o3; have := I.out.o4; omega) (Nat.le_refl _)⟩
        unfold RdSays
        rw [E.out]
      | false =>
        have E : Hid (Wd.pworld l 0 = some (⟨n0, n1, n2, n3, gs, os, gold, us, qs⟩, a2')) := by
          rcases RW.out.2 rfl with ⟨h, -⟩ | ⟨-, h⟩
          · exact h
          · cases h
        obtain ⟨b0, b1, b2, b3, b4, b5, b6, b7, b8⟩ := I.out.b.cells
        have nz : w.heap.size ≠ zw := by have := I.out.o1; have := I.out.o2; omega
        have nz' : zw ≠ w.heap.size := fun e => nz e.symm
        have ny : z ≠ w.heap.size := by have := I.out.o1; omega
        have ny' : w.heap.size ≠ z := fun e => ny e.symm
        go_wp2
        go_region
        have KC0 : Hid (Kp w.heap.size wc (((((((((wc.setCell ⟨w.heap.size, 0, none⟩ (.int .i64 n0)).setCell ⟨w.heap.size, 1, none⟩ (.int .i64 n1)).setCell ⟨w.heap.size, 2, none⟩ (.int .i64 n2)).setCell ⟨w.heap.size, 3, none⟩ (.int .i64 n3)).setCell ⟨w.heap.size, 4, none⟩ (.slice p4 gs.length q4)).setCell ⟨w.heap.size, 5, none⟩ (.slice p5 os.length q5)).setCell ⟨w.heap.size, 6, none⟩ (.slice p6 gold.length q6)).setCell ⟨w.heap.size, 7, none⟩ (.slice pw us.length qw)).setCell ⟨w.heap.size, 8, none⟩ (.slice pv qs.length qv))) := (((((((((Kp.set wc 0 _).trans (Kp.set _ 1 _)).trans (Kp.set _ 2 _)).trans (Kp.set _ 3 _)).trans (Kp.set _ 4 _)).trans (Kp.set _ 5 _)).trans (Kp.set _ 6 _)).trans (Kp.set _ 7 _)).trans (Kp.set _ 8 _))
        have ZZ0 : Hid ((((((((((wc.setCell ⟨w.heap.size, 0, none⟩ (.int .i64 n0)).setCell ⟨w.heap.size, 1, none⟩ (.int .i64 n1)).setCell ⟨w.heap.size, 2, none⟩ (.int .i64 n2)).setCell ⟨w.heap.size, 3, none⟩ (.int .i64 n3)).setCell ⟨w.heap.size, 4, none⟩ (.slice p4 gs.length q4)).setCell ⟨w.heap.size, 5, none⟩ (.slice p5 os.length q5)).setCell ⟨w.heap.size, 6, none⟩ (.slice p6 gold.length q6)).setCell ⟨w.heap.size, 7, none⟩ (.slice pw us.length qw)).setCell ⟨w.heap.size, 8, none⟩ (.slice pv qs.length qv)).heap[w.heap.size]? = some (Obj.cells #[.int .i64 n0, .int .i64 n1, .int .i64 n2, .int .i64 n3, .slice p4 gs.length q4, .slice p5 os.length q5, .slice p6 gold.length q6, .slice pw us.length qw, .slice pv qs.length qv] 49 (0, 0))) := heap_setCell_same _ w.heap.size 8 _ _ (.slice pv qs.length qv) (heap_setCell_same _ w.heap.size 7 _ _ (.slice pw us.length qw) (heap_setCell_same _ w.heap.size 6 _ _ (.slice p6 gold.length q6) (heap_setCell_same _ w.heap.size 5 _ _ (.slice p5 os.length q5) (heap_setCell_same _ w.heap.size 4 _ _ (.slice p4 gs.length q4) (heap_setCell_same _ w.heap.size 3 _ _ (.int .i64 n3) (heap_setCell_same _ w.heap.size 2 _ _ (.int .i64 n2) (heap_setCell_same _ w.heap.size 1 _ _ (.int .i64 n1) (heap_setCell_same _ w.heap.size 0 _ _ (.int .i64 n0) (I.out.zr)))))))))
        generalize (((((((((wc.setCell ⟨w.heap.size, 0, none⟩ (.int .i64 n0)).setCell ⟨w.heap.size, 1, none⟩ (.int .i64 n1)).setCell ⟨w.heap.size, 2, none⟩ (.int .i64 n2)).setCell ⟨w.heap.size, 3, none⟩ (.int .i64 n3)).setCell ⟨w.heap.size, 4, none⟩ (.slice p4 gs.length q4)).setCell ⟨w.heap.size, 5, none⟩ (.slice p5 os.length q5)).setCell ⟨w.heap.size, 6, none⟩ (.slice p6 gold.length q6)).setCell ⟨w.heap.size, 7, none⟩ (.slice pw us.length qw)).setCell ⟨w.heap.size, 8, none⟩ (.slice pv qs.length qv)) = w7 at *
        have KC : Hid (Kp w.heap.size wc w7.drew) := KC0.out.trans (Kp.of (Below.refl _ _).drew)
        have ZZ : Hid (w7.drew.heap[w.heap.size]? = some (Obj.cells #[.int .i64 n0, .int .i64 n1, .int .i64 n2, .int .i64 n3, .slice p4 gs.length q4, .slice p5 os.length q5, .slice p6 gold.length q6, .slice pw us.length qw, .slice pv qs.length qv] 49 (0, 0))) := ZZ0.out
        generalize w7.drew = w8 at *
        clear cz0 tz0 cz1 tz1 cz2 tz2 cz3 tz3 cz4 tz4 cz5 tz5 cz6 tz6 cz7 tz7 cz8 tz8 b0 b1 b2 b3 b4 b5 b6 b7 b8
        go_wp2
        have e0 : w8.cell? ⟨w.heap.size, 0, none⟩ = some (.int .i64 n0) := by have := ZZ.out; simp [World.cell?, this]
        have e1 : w8.cell? ⟨w.heap.size, 1, none⟩ = some (.int .i64 n1) := by have := ZZ.out; simp [World.cell?, this]
        have e2 : w8.cell? ⟨w.heap.size, 2, none⟩ = some (.int .i64 n2) := by have := ZZ.out; simp [World.cell?, this]
        have e3 : w8.cell? ⟨w.heap.size, 3, none⟩ = some (.int .i64 n3) := by have := ZZ.out; simp [World.cell?, this]
        have e4 : w8.cell? ⟨w.heap.size, 4, none⟩ = some (.slice p4 gs.length q4) := by have := ZZ.out; simp [World.cell?, this]
        have e5 : w8.cell? ⟨w.heap.size, 5, none⟩ = some (.slice p5 os.length q5) := by have := ZZ.out; simp [World.cell?, this]
        have e6 : w8.cell? ⟨w.heap.size, 6, none⟩ = some (.slice p6 gold.length q6) := by have := ZZ.out; simp [World.cell?, this]
        have e7 : w8.cell? ⟨w.heap.size, 7, none⟩ = some (.slice pw us.length qw) := by have := ZZ.out; simp [World.cell?, this]
        have e8 : w8.cell? ⟨w.heap.size, 8, none⟩ = some (.slice pv qs.length qv) := by have := ZZ.out; simp [World.cell?, this]
        refine bodyPost_ret (v := .tuple #[.agg #[.int .i64 n0, .int .i64 n1, .int .i64 n2, .int .i64 n3, .slice p4 gs.length q4, .slice p5 os.length q5, .slice p6 gold.length q6, .slice pw us.length qw, .slice pv qs.length qv], .int .i64 (a2' : Nat), .bool true]) (by simp [results, Tryd.results34, go_sem, e0, e1, e2, e3, e4, e5, e6, e7, e8]) rfl ⟨?_, Kp.below I.out.bl KC.out (by have := I.out.o1; have := I.out.o2; have := I.out.o3; have := I.out.o4; omega) (Nat.le_refl _)⟩
        unfold RdSays
        rw [E.out]
        have zb : w.heap.size < base := by have := I.out.o1; have := I.out.o2; have := I.out.o3; omega
        exact ⟨_, rfl, _, _, _, _, _, rfl, Ow.ro (owns_kp I.out.r1 KC.out zb), Ow.ro (owns_kp I.out.r2 KC.out zb), Ow.ro (owns_kp I.out.r3 KC.out zb), Uno.l (owns_kp I.out.r4 KC.out zb), Jbo.l (owns_kp I.out.r5 KC.out zb)⟩
end Go.Proofs.YtefepjiajgoomaaDoor
