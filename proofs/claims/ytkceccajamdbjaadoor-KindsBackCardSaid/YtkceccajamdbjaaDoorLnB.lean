/- A range over strings.Lines: the law of the statement. -/
import Derived.Test.YtkceccajamdbjaaDoorLnA
namespace Go.Proofs.YtkceccajamdbjaaDoor
open Go.RowKit
set_option linter.unusedVariables false

/-- what the iterator and the loop's own records leave: all but block cb, and what is no cells and lies from B on. -/
structure Aside (B cb : Nat) (W W' : World) : Prop where
  os : W'.os = W.os
  tape : W'.tape = W.tape
  output : W'.output = W.output
  size : W.heap.size ≤ W'.heap.size
  same : ∀ (k : Nat) (o : Obj), W.heap[k]? = some o → k ≠ cb → (k < B ∨ o.isCells = true) → W'.heap[k]? = some o
theorem Aside.setCell (B cb : Nat) (W : World) (v : Value) : Aside B cb W (W.setCell ⟨cb, 0, none⟩ v) :=
  ⟨rfl, rfl, rfl, by simp, fun k o h hk _ => (Below.heap_setCell W ⟨cb, 0, none⟩ v k hk).trans h⟩
theorem Aside.drew (B cb : Nat) (W : World) : Aside B cb W W.drew := ⟨rfl, rfl, rfl, Nat.le_refl _, fun k o h _ _ => h⟩
theorem Aside.alloc (B cb : Nat) (W : World) (o : Obj) : Aside B cb W (W.alloc o) :=
  ⟨rfl, rfl, rfl, by simp, fun k o' h _ _ => (Below.heap_alloc W o k (Array.getElem?_eq_some_iff.1 h).1).trans h⟩
theorem Aside.putObj {B cb : Nat} {W : World} {r : Nat} {o : Obj} (h : W.heap[r]? = some o) (ho : o.isCells = false) (hr : B ≤ r) (o' : Obj) : Aside B cb W (W.putObj r o') :=
  ⟨rfl, rfl, rfl, by simp, fun k o2 h2 _ hk => by
    have : k ≠ r := by
      rintro rfl
      rw [h] at h2
      cases h2
      rcases hk with hk | hk
      · omega
      · rw [ho] at hk; cases hk
    exact (World.putObj_heap_other this).trans h2⟩
/-- what a round leaves: block cb, and what is no cells and lies from B on. -/
structure Stays (B cb : Nat) (W W' : World) : Prop where
  size : W.heap.size ≤ W'.heap.size
  same : ∀ (k : Nat) (o : Obj), W.heap[k]? = some o → (k = cb ∨ (B ≤ k ∧ o.isCells = false)) → W'.heap[k]? = some o
def linePost (B cb : Nat) (I Ix : List ByteArray → World → Prop) (xs : List ByteArray) (W : World) : Exit → Act → World → Prop
  | .normal, _, W' => Stays B cb W W' ∧ I xs W'
  | .ret, _, W' => Stays B cb W W' ∧ Ix xs W'
  | _, _, _ => False

/-- for line := range strings.Lines(s): the body is walked once, from whatever it has made of the lines ahead. -/
theorem range_lines {n : Nat} {g : Operand} {p : Tmp} {assign body : Code} {Q : Exit → Act → World → Prop} {a : Act} {w : World} (s : ByteArray) (hs : s.size ≤ 9223372036854775806) (cb : Nat)
    (hg : a.eval g = .func (.func 41) #[] #[.pointer (some ⟨cb, 0, none⟩)]) (hc : Boxed w cb 9 (.string s))
    (I Ix : List ByteArray → World → Prop) (hI : ∀ xs W W', Aside w.heap.size cb W W' → I xs W → I xs W') (hIx : ∀ xs W W', Aside w.heap.size cb W W' → Ix xs W → Ix xs W') (h0 : I [] w) (a₁ : ByteArray → Act)
    (hassign : ∀ (l : Nat) (x : ByteArray) (W : World) (K : Act → World → Prop), K (a₁ x) W →
      assign.wpIn (Fence.wide.inRound l) (n - 1 - 1) Tryd.prog (Exit.then K (fun _ _ _ => False)) { tmps := a.tmps.setIfInBounds p (.string x), defers := [] } W)
    (hbody : ∀ (l : Nat) (pre : List ByteArray) (x : ByteArray) (post : List (List UInt8)) (W : World), I pre W → pre.map tl ++ tl x :: post = Tx.lines (tl s) → body.wpIn (Fence.wide.inRound l) (n - 1 - 1) Tryd.prog (linePost w.heap.size cb I Ix (pre ++ [x]) W) (a₁ x) W)
    (hdone : ∀ (D : Nat) (xs : List ByteArray) (W : World), w.heap.size ≤ D → xs.map tl = Tx.lines (tl s) → I xs W → W.heap[D]? = some (.deferred (some [])) → Q .normal { a with defers := { target := .collected D, args := #[] } :: a.defers } W)
    (hstop : ∀ (D : Nat) (pre : List ByteArray) (post : List (List UInt8)) (W : World), w.heap.size ≤ D → pre.map tl ++ post = Tx.lines (tl s) → Ix pre W → W.heap[D]? = some (.deferred (some [])) → Code.ret.wpIn Fence.wide n Tryd.prog Q { a with defers := { target := .collected D, args := #[] } :: a.defers } W) :
    (Code.rangeFunc g #[p] assign body).wpIn Fence.wide n Tryd.prog Q a w := by
  have hcb : cb < w.heap.size := hc.lt
  refine wpIn_rangeFunc ?_
  intro fn hfn
  rw [show Fence.wide.round = none from rfl]
  obtain ⟨rec, hrec⟩ : ∃ rec : LoopState → Option Code → Loop, rec = fun st pe => { state := st, pending := pe, fn, tmps := a.tmps, params := #[p], assign, body, defers := w.heap.size } := ⟨_, rfl⟩
  obtain ⟨W1, hW1⟩ : ∃ W1, (w.alloc (.deferred (some []))).alloc (.loop (rec .ready none)) = W1 := ⟨_, rfl⟩
  have hL1 : W1.heap[w.heap.size + 1]? = some (.loop (rec .ready none)) := by
    rw [← hW1]
    have := World.alloc_heap_new (w.alloc (.deferred (some []))) (.loop (rec .ready none))
    rwa [World.size_alloc] at this
  have hK1 : W1.heap[w.heap.size]? = some (.deferred (some [])) := by
    rw [← hW1]
    exact (Below.heap_alloc _ _ _ (by simp)).trans (World.alloc_heap_new w _)
  have hI1 : I [] W1 := by rw [← hW1]; exact hI _ _ _ (Aside.alloc _ _ _ _) (hI _ _ _ (Aside.alloc _ _ _ _) h0)
  have hc1 : Boxed W1 cb 9 (.string s) := by
    rw [← hW1]
    exact (Below.heap_alloc _ _ _ (by simp; omega)).trans ((Below.heap_alloc _ _ _ hcb).trans hc)
  refine ⟨w.heap.size + 1, [{ target := .collected w.heap.size, args := #[] }], W1, { target := .fn (.func 41) #[.pointer (some ⟨cb, 0, none⟩)], args := #[.func (.yield (w.heap.size + 1)) #[] #[]] }, W1, 41,
    #[.func (.yield (w.heap.size + 1)) #[] #[], .pointer (some ⟨cb, 0, none⟩)], W1, ?_, ?_, ?_, ?_, fun h => by simp [Fence.wide] at h, ?_⟩
  · rw [← hW1, hrec]; exact run_enterLoop_outer _ _ _ _ _
  · simp only [resolve, hg]
    simp [go_sem]
  · intro f' _; trivial
  · simp [invoke, go_sem]
  · refine (lines1_in (n - 1) (w.heap.size + 1) cb s hs
      (fun pre W => I pre W ∧ W.heap[w.heap.size + 1]? = some (.loop (rec .ready none)) ∧ W.heap[w.heap.size]? = some (.deferred (some [])))
      (fun pre W => Ix pre W ∧ W.heap[w.heap.size + 1]? = some (.loop (rec .done (some .ret))) ∧ W.heap[w.heap.size]? = some (.deferred (some [])))
      (fun pre W v h => ⟨hI _ _ _ (Aside.setCell _ _ _ _) h.1, (Below.heap_setCell W ⟨cb, 0, none⟩ v _ (by show w.heap.size + 1 ≠ cb; omega)).trans h.2.1, (Below.heap_setCell W ⟨cb, 0, none⟩ v _ (by show w.heap.size ≠ cb; omega)).trans h.2.2⟩)
      (fun pre W h => ⟨hI _ _ _ (Aside.drew _ _ _) h.1, h.2⟩) ?_ W1 hc1 ⟨hI1, hL1, hK1⟩).mono ?_
    · rintro pre x W r ⟨hi, hl, hk⟩ hbx hpx
      have hlt : w.heap.size + 1 < W.heap.size := (Array.getElem?_eq_some_iff.1 hl).1
      have hy : (Instr.yield (w.heap.size + 1) #[.string x]).run Tryd.prog W = .ok (.round (w.heap.size + 1) fn (a.tmps.setIfInBounds p (.string x)) assign body) W := by
        have := run_yield (P := Tryd.prog) (args := #[.string x]) hl (by rw [hrec]; rfl)
        rw [hrec] at this
        simpa using this
      refine ⟨fn, _, assign, body, hy, roundIn_of_wpIn hfn (hassign _ x W _ ⟨_, run_beginRound hl (by rw [hrec]), ?_⟩)⟩
      have hl2 : (W.putObj (w.heap.size + 1) (.loop { rec .ready none with state := .busy })).heap[w.heap.size + 1]? = some (.loop { rec .ready none with state := .busy }) := World.putObj_heap_same hlt
      have hk2 : (W.putObj (w.heap.size + 1) (.loop { rec .ready none with state := .busy })).heap[w.heap.size]? = some (.deferred (some [])) := (World.putObj_heap_other (by omega)).trans hk
      have hb2 : (W.putObj (w.heap.size + 1) (.loop { rec .ready none with state := .busy })).heap[cb]? = some (.cells #[.string r] 9 (0, 0)) := (World.putObj_heap_other (by omega)).trans hbx
      refine wpIn_mono (hbody _ pre x _ _ (hI _ _ _ (Aside.putObj hl rfl (by omega) _) hi) hpx) ?_
      have fin : ∀ (jump : Option Code) (W3 : World), Stays w.heap.size cb (W.putObj (w.heap.size + 1) (.loop { rec .ready none with state := .busy })) W3 →
          (Instr.endRound (w.heap.size + 1) jump).run Tryd.prog W3 = .ok (.bool jump.isNone) (W3.putObj (w.heap.size + 1) (.loop (rec (if jump.isNone then .ready else .done) jump))) ∧
          W3.heap[w.heap.size + 1]? = some (.loop { rec .ready none with state := .busy }) ∧
          (W3.putObj (w.heap.size + 1) (.loop (rec (if jump.isNone then .ready else .done) jump))).heap[w.heap.size + 1]? = some (.loop (rec (if jump.isNone then .ready else .done) jump)) ∧
          (W3.putObj (w.heap.size + 1) (.loop (rec (if jump.isNone then .ready else .done) jump))).heap[w.heap.size]? = some (.deferred (some [])) ∧
          Boxed (W3.putObj (w.heap.size + 1) (.loop (rec (if jump.isNone then .ready else .done) jump))) cb 9 (.string r) := fun jump W3 hk3 => by
        have hl3 := hk3.same _ _ hl2 (.inr ⟨by omega, rfl⟩)
        have := run_endRound (P := Tryd.prog) jump hl3
        rw [hrec] at this ⊢
        exact ⟨this, by rw [hrec] at hl3; exact hl3, World.putObj_heap_same (Array.getElem?_eq_some_iff.1 hl3).1, (World.putObj_heap_other (by omega)).trans (hk3.same _ _ hk2 (.inr ⟨Nat.le_refl _, rfl⟩)), (World.putObj_heap_other (by omega)).trans (hk3.same _ _ hb2 (.inl rfl))⟩
      rintro e a3 W3 hp
      cases e with
      | normal =>
        obtain ⟨hk3, hi3⟩ := hp
        obtain ⟨hr, hl3, hl4, hk4, hb4⟩ := fin none W3 hk3
        exact ⟨_, _, hr, .inl ⟨rfl, ⟨hI _ _ _ (Aside.putObj hl3 rfl (by omega) _) hi3, hl4, hk4⟩, hb4⟩⟩
      | ret =>
        obtain ⟨hk3, hi3⟩ := hp
        obtain ⟨hr, hl3, hl4, hk4, hb4⟩ := fin (some .ret) W3 hk3
        exact ⟨_, _, hr, .inr ⟨rfl, hIx _ _ _ (Aside.putObj hl3 rfl (by omega) _) hi3, hl4, hk4⟩⟩
      | exit id => exact hp.elim
      | goto t => exact hp.elim
      | panic ch => exact hp.elim
      | outgrown => exact hp.elim
    · rintro e W2 ⟨⟨v, rfl⟩, (⟨xs, hS, hi, hl, hk⟩ | ⟨pre, post, hS, hi, hl, hk⟩)⟩
      · exact ⟨none, _, by have := run_endLoop (P := Tryd.prog) hl (by rw [hrec]; simp); rw [hrec] at this; exact this, hdone _ xs _ (Nat.le_refl _) hS (hI _ _ _ (Aside.putObj hl rfl (by omega) _) hi) ((World.putObj_heap_other (by omega)).trans hk)⟩
      · exact ⟨some .ret, _, by have := run_endLoop (P := Tryd.prog) hl (by rw [hrec]; simp); rw [hrec] at this; exact this, hstop _ pre post _ (Nat.le_refl _) hS (hIx _ _ _ (Aside.putObj hl rfl (by omega) _) hi) ((World.putObj_heap_other (by omega)).trans hk)⟩
end Go.Proofs.YtkceccajamdbjaaDoor
