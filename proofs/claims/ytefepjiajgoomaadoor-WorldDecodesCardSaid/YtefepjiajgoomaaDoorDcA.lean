/- world.Decode: what next reads. -/
import Derived.Test.YtefepjiajgoomaaDoorPaA
import Derived.Test.YtefepjiajgoomaaDoorWdR
namespace Go.Proofs.YtefepjiajgoomaaDoor
open Go.RowKit
set_option linter.unusedVariables false

/-- nothing that was there has turned but blocks y and z. -/
structure K2 (y z : Nat) (w w' : World) : Prop where
  os : w'.os = w.os
  tape : w'.tape = w.tape
  output : w'.output = w.output
  size : w.heap.size ≤ w'.heap.size
  block : ∀ k, k < w.heap.size → k ≠ y → k ≠ z → w'.heap[k]? = w.heap[k]?
theorem K2.of {y z : Nat} {w w' : World} (h : Below w.heap.size w w') : K2 y z w w' := ⟨h.os, h.tape, h.output, h.size, fun k hk _ _ => h.block k hk⟩
theorem K2.refl (y z : Nat) (w : World) : K2 y z w w := K2.of (Below.refl _ _)
theorem K2.trans {y z : Nat} {a b c : World} (h : K2 y z a b) (k : K2 y z b c) : K2 y z a c :=
  ⟨k.os.trans h.os, k.tape.trans h.tape, k.output.trans h.output, Nat.le_trans h.size k.size, fun i hi hy hz => (k.block i (Nat.lt_of_lt_of_le hi h.size) hy hz).trans (h.block i hi hy hz)⟩
theorem K2.setY {y z : Nat} (w : World) (i : Nat) (u : Value) : K2 y z w (w.setCell ⟨y, i, none⟩ u) :=
  ⟨rfl, rfl, rfl, by simp [World.setCell], fun k _ hy _ => Below.heap_setCell _ _ _ _ hy⟩
theorem K2.setZ {y z : Nat} (w : World) (i : Nat) (u : Value) : K2 y z w (w.setCell ⟨z, i, none⟩ u) :=
  ⟨rfl, rfl, rfl, by simp [World.setCell], fun k _ _ hz => Below.heap_setCell _ _ _ _ hz⟩
theorem K2.below {y z B : Nat} {a w w' : World} (h : Below B a w) (k : K2 y z w w') (hB : B ≤ w.heap.size) (hy : B ≤ y) (hz : B ≤ z) : Below B a w' :=
  h.trans ⟨k.os, k.tape, k.output, k.size, fun i hi => k.block i (by omega) (by omega) (by omega)⟩
theorem K2.cell {y z : Nat} {w w' : World} (k : K2 y z w w') (p : Addr) (hp : p.block < w.heap.size) (hy : p.block ≠ y) (hz : p.block ≠ z) : w'.cell? p = w.cell? p := by
  have := k.block p.block hp hy hz
  simp only [World.cell?, this]
theorem K2.grown {y z : Nat} {w w' : World} (k : K2 y z w w') {row : Option Nat} {w'' : World} (h : w'.grownBy w'' row) (hr : ∀ b, row = some b → w.heap.size ≤ b) : K2 y z w w'' :=
  ⟨h.os.trans k.os, h.tape.trans k.tape, h.output.trans k.output, Nat.le_trans k.size h.size, fun i hi hy hz => (h.block i (Nat.lt_of_lt_of_le hi k.size) (fun e => by have := hr i e.symm; omega)).trans (k.block i hi hy hz)⟩

/-- what is read, how far, and whether something was wrong. -/
structure Dc (w0 : World) (zb za zf : Nat) (v : Value) (l : List UInt8) (w : World) (a : Nat) (f : Bool) : Prop where
  src : By w0 v l
  low : w0.heap.size ≤ zb
  ba : zb < za
  af : za < zf
  bl : Below zb w0 w
  cb : w.cell? ⟨zb, 0, none⟩ = some v
  ca : w.heap[za]? = some (.cells #[.int .i64 (a : Nat)] 3 (0, 0))
  cf : w.heap[zf]? = some (.cells #[.bool f] 4 (0, 0))
  le : a ≤ l.length
theorem Dc.ltf {w0 w : World} {zb za zf a : Nat} {v : Value} {l : List UInt8} {f : Bool} (h : Dc w0 zb za zf v l w a f) : zf < w.heap.size := lt_of_block h.cf
theorem Dc.kept {w0 w w' : World} {zb za zf a : Nat} {v : Value} {l : List UInt8} {f : Bool} (h : Dc w0 zb za zf v l w a f) (hb : Below (zf + 1) w w') : Dc w0 zb za zf v l w' a f := by
  have h1 := h.ba
  have h2 := h.af
  exact ⟨h.src, h.low, h.ba, h.af, h.bl.trans (hb.mono (by omega)), by rw [hb.cell (p := ⟨zb, 0, none⟩) (by show zb < _; omega)]; exact h.cb, by rw [hb.block za (by omega)]; exact h.ca, by rw [hb.block zf (by omega)]; exact h.cf, h.le⟩
theorem Dc.la {w0 w : World} {zb za zf a : Nat} {v : Value} {l : List UInt8} {f : Bool} (h : Dc w0 zb za zf v l w a f) : w.cell? ⟨za, 0, none⟩ = some (.int .i64 (a : Nat)) ∧ w.frozen? ⟨za, 0, none⟩ = false := ⟨by simp [World.cell?, h.ca], by simp [World.frozen?, h.ca]⟩
theorem Dc.lf {w0 w : World} {zb za zf a : Nat} {v : Value} {l : List UInt8} {f : Bool} (h : Dc w0 zb za zf v l w a f) : w.cell? ⟨zf, 0, none⟩ = some (.bool f) ∧ w.frozen? ⟨zf, 0, none⟩ = false := ⟨by simp [World.cell?, h.cf], by simp [World.frozen?, h.cf]⟩
theorem Dc.by_ {w0 w : World} {zb za zf a : Nat} {v : Value} {l : List UInt8} {f : Bool} (h : Dc w0 zb za zf v l w a f) : By w v l := h.src.below (h.bl.mono h.low)

/-- the function that reads a number. -/
def nextF (zb za zf : Nat) : Value := .func (.func 72) #[] #[.pointer (some ⟨zb, 0, none⟩), .pointer (some ⟨za, 0, none⟩), .pointer (some ⟨zf, 0, none⟩)]
/-- what it says. -/
def NextSays (w0 : World) (zb za zf : Nat) (v : Value) (l : List UInt8) (w : World) (a : Nat) (f : Bool) (e : Ending) (w' : World) : Prop :=
  ∃ (n : Int) (a' : Nat) (f' : Bool), e = .returned (.int .i64 n) ∧ Wd.Rd (Wd.pnum l) a f n a' f' ∧ Dc w0 zb za zf v l w' a' f' ∧ K2 za zf w w'
theorem By.drop {w : World} {ad : Option Addr} {n : Nat} {l : List UInt8} {c k : Nat} (h : By w (.slice ad n c) l) (hk : k ≤ l.length) : By w (.slice (Option.map (fun x => x.add k) ad) (l.length - k) (c - k)) (l.drop k) := by
  obtain ⟨a, c', e, h1, h2, h3⟩ := h
  injection e with e1 e2 e3
  subst e1 e3
  refine ⟨_, _, by rw [List.length_drop], by rw [List.length_drop]; omega, by omega, fun hn => ?_⟩
  obtain ⟨y, e, hy, hc⟩ := h3 (by intro h; subst h; simp at hn)
  subst e
  refine ⟨_, rfl, by rw [add_block]; exact hy, fun i d hi => ?_⟩
  rw [List.getElem?_drop] at hi
  rw [Addr.add_add]
  exact hc _ d hi
theorem By.end_ (w : World) (ad : Option Addr) (l : List UInt8) {k : Nat} (hk : l.length ≤ k) : By w (.slice ad (l.length - k) 0) (l.drop k) := by
  have : l.drop k = [] := List.drop_eq_nil_of_le hk
  rw [this]
  exact ⟨ad, 0, by rw [List.length_nil]; congr 1; omega, Nat.le_refl _, by omega, fun h => absurd rfl h⟩
theorem Dc.put {w0 w : World} {zb za zf a a' : Nat} {v : Value} {l : List UInt8} {f f' : Bool} (h : Dc w0 zb za zf v l w a f) (hle : a' ≤ l.length) : Dc w0 zb za zf v l ((w.setCell ⟨za, 0, none⟩ (.int .i64 (a' : Nat))).setCell ⟨zf, 0, none⟩ (.bool f')) a' f' ∧ K2 za zf w ((w.setCell ⟨za, 0, none⟩ (.int .i64 (a' : Nat))).setCell ⟨zf, 0, none⟩ (.bool f')) := by
  have h1 := h.ba
  have h2 := h.af
  have hs : K2 za zf w ((w.setCell ⟨za, 0, none⟩ (.int .i64 (a' : Nat))).setCell ⟨zf, 0, none⟩ (.bool f')) := (K2.setY w 0 _).trans (K2.setZ _ 0 _)
  have lf := h.ltf
  refine ⟨⟨h.src, h.low, h.ba, h.af, hs.below h.bl (by omega) (by omega) (by omega), ?_, ?_, ?_, hle⟩, hs⟩
  · rw [hs.cell ⟨zb, 0, none⟩ (by show zb < _; omega) (by show zb ≠ _; omega) (by show zb ≠ _; omega)]; exact h.cb
  · rw [Below.heap_setCell _ _ _ _ (by show za ≠ zf; omega)]
    exact heap_setCell_same w za 0 _ _ (.int .i64 (a' : Nat)) h.ca
  · exact heap_setCell_same _ zf 0 _ _ (.bool f') ((Below.heap_setCell w ⟨za, 0, none⟩ _ _ (by show zf ≠ za; omega)).trans h.cf)
set_option maxHeartbeats 2000000 in
theorem dnext_any (w0 : World) (zb za zf : Nat) (v : Value) (l : List UInt8) (w : World) (a : Nat) (f : Bool) (h : Dc w0 zb za zf v l w a f) :
    Calls Tryd.prog 72 #[.pointer (some ⟨zb, 0, none⟩), .pointer (some ⟨za, 0, none⟩), .pointer (some ⟨zf, 0, none⟩)] w (NextSays w0 zb za zf v l w a f) := by
  have D : Hid (Dc w0 zb za zf v l w a f) := h
  have B : Hid (By w v l) := h.by_
  obtain ⟨ad, cap, rfl, h1, h2, h3⟩ := h.by_
  have cb := h.cb
  obtain ⟨ca, fa⟩ := h.la
  obtain ⟨cf, ff⟩ := h.lf
  have le := h.le
  have cm : cap ≤ 9223372036854775807 := by unfold maxLen at h2; omega
  clear h h2 h3
  go_enter Tryd.func72, Tryd.ntmps72
  go_wp2_with fail
  all_goals
    refine (read_any _ (l.drop a) _ (by first | exact B.out.drop le | exact By.end_ _ _ _ (by omega))).mono ?_
    rintro e w1 ⟨⟨u, rfl, hu⟩, rfl⟩
    have ne : za ≠ zf := by have := D.out.af; omega
    have ne' : zf ≠ za := fun e => ne e.symm
    unfold ReadSays at hu
    cases hr : Wd.rd 0 0 (l.drop a) with
    | none =>
      rw [hr] at hu
      subst hu
      have E : Hid (Wd.pnum l a = none) := by unfold Hid Wd.pnum; rw [hr]
      have F : Hid (NextSays w0 zb za zf (.slice ad l.length _) l w1 a f (.returned (.int .i64 0)) ((w1.setCell ⟨za, 0, none⟩ (.int .i64 (a : Nat))).setCell ⟨zf, 0, none⟩ (.bool true))) := ⟨0, a, true, rfl, ⟨fun _ => rfl, fun _ => .inr ⟨E.out, rfl⟩⟩, (D.out.put le).1, (D.out.put le).2⟩
      cases f
      all_goals
        go_wp2
        go_ret
        exact F.out
    | some p =>
      obtain ⟨x, n⟩ := p
      rw [hr] at hu
      subst hu
      obtain ⟨k1, k2, k3, k4⟩ := Wd.rd_le _ 0 0 x n (by omega) (by decide) hr
      rw [List.length_drop] at k2
      obtain ⟨a', ha'⟩ : ∃ a', a + n = a' := ⟨_, rfl⟩
      have E : Hid (Wd.pnum l a = some (Wd.unz x, a')) := by unfold Hid Wd.pnum; rw [hr, ← ha']
      have ai : (a : Int) + (n : Int) = (a' : Nat) := by omega
      have wa : IntKind.i64.wrap ((a' : Nat) : Int) = (a' : Nat) := by rw [IntKind.wrap_i64]; omega
      have hn0 : (((n : Nat) : Int) == 0) = false := by
        have : ¬ ((n : Nat) : Int) = 0 := by omega
        simpa using this
      have F : Hid (NextSays w0 zb za zf (.slice ad l.length _) l w1 a f (.returned (.int .i64 (Wd.unz x))) ((w1.setCell ⟨za, 0, none⟩ (.int .i64 (a' : Nat))).setCell ⟨zf, 0, none⟩ (.bool f))) := ⟨_, a', f, rfl, ⟨fun h => h, fun h => .inl ⟨E.out, h⟩⟩, (D.out.put (by omega)).1, (D.out.put (by omega)).2⟩
      clear hr k1 k2 k3 k4 ha'
      cases f
      all_goals
        go_wp2
        go_ret
        exact F.out
end Go.Proofs.YtefepjiajgoomaaDoor
