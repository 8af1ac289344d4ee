/- A range over strings.Lines: what the round and the iterator leave as it was. -/
import Derived.Test.YtkceccajamdbjaaDoorLnB
import Derived.OwnWalkIn
namespace Go.Proofs.YtkceccajamdbjaaDoor
open Go.RowKit
set_option linter.unusedVariables false

theorem boxed_aside {B cb : Nat} {W W' : World} {k : Nat} {t : TypeId} {v : Value} (h : Boxed W k t v) (a : Aside B cb W W') (hk : k ≠ cb) : Boxed W' k t v := a.same k _ h hk (.inr rfl)
theorem below_aside {B cb : Nat} {w W W' : World} (h : Below w.heap.size w W) (a : Aside B cb W W') (hB : w.heap.size ≤ B) (hc : w.heap.size ≤ cb) : Below w.heap.size w W' :=
  ⟨a.os.trans h.os, a.tape.trans h.tape, a.output.trans h.output, Nat.le_trans h.size a.size, fun k hk => by
    have e := h.block k hk
    rw [Array.getElem?_eq_getElem hk] at e ⊢
    exact a.same k _ e (by omega) (.inl (by omega))⟩
theorem ownsRow_aside {B cb : Nat} {W W' : World} {base n size : Nat} {e : TypeId} {v : Value} {xs : List Value} (h : W.ownsRow base e size v n xs) (a : Aside B cb W W') (hc : cb < base) : W'.ownsRow base e size v n xs := by
  refine ⟨h.1, ?_⟩
  rcases h.2 with h1 | ⟨g, cap, cur, h1, h2, h3, h4⟩
  · exact .inl h1
  · exact .inr ⟨g, cap, cur, h1, h2, a.same g _ h3 (by omega) (.inr rfl), h4⟩
theorem Stays.refl (B cb : Nat) (W : World) : Stays B cb W W := ⟨Nat.le_refl _, fun _ _ h _ => h⟩
theorem Stays.trans {B cb : Nat} {W W' W'' : World} (h : Stays B cb W W') (k : Stays B cb W' W'') : Stays B cb W W'' := ⟨Nat.le_trans h.size k.size, fun i o hi ho => k.same i o (h.same i o hi ho) ho⟩
theorem Stays.below {B cb : Nat} {W W' : World} (hb : Below W.heap.size W W') : Stays B cb W W' := ⟨hb.size, fun k o h _ => (hb.block k (Array.getElem?_eq_some_iff.1 h).1).trans h⟩
theorem Stays.drew {B cb : Nat} {W W' : World} (h : Stays B cb W W') : Stays B cb W W'.drew := ⟨h.size, h.same⟩
theorem Stays.setBoxed {B cb : Nat} {W : World} {p : Nat} {t : TypeId} {v : Value} (h : Boxed W p t v) (hp : p ≠ cb) (u : Value) : Stays B cb W (W.setCell ⟨p, 0, none⟩ u) :=
  ⟨by simp, fun k o hk ho => by
    have : k ≠ p := by
      rintro rfl
      rcases ho with e | ⟨-, e⟩
      · exact hp e
      · rw [show W.heap[k]? = _ from h] at hk
        cases hk
        cases e
    exact (Below.heap_setCell W ⟨p, 0, none⟩ u k this).trans hk⟩
theorem Stays.grownRow {B cb : Nat} {W W' : World} {base n size : Nat} {e : TypeId} {v : Value} {xs : List Value} (h : W.ownsRow base e size v n xs) (g : W.grownBy W' v.ownBlock) (hc : cb < base) : Stays B cb W W' :=
  ⟨g.size, fun k o hk ho => by
    refine (g.block k (Array.getElem?_eq_some_iff.1 hk).1 (fun e => ?_)).trans hk
    rcases h.2 with ⟨rfl, -⟩ | ⟨q, cap, cur, rfl, h2, h3, -⟩
    · cases e
    · have : k = q := by simpa [Value.ownBlock] using e
      subst this
      rcases ho with e2 | ⟨-, e2⟩
      · omega
      · rw [h3] at hk
        cases hk
        cases e2⟩
theorem boxed_below {W W' : World} {B k : Nat} {t : TypeId} {v : Value} (h : Boxed W k t v) (hb : Below B W W') (hk : k < B) : Boxed W' k t v := (hb.block k hk).trans h
theorem boxed_grown {W W' : World} {k : Nat} {t : TypeId} {v : Value} {row : Option Nat} (h : Boxed W k t v) (g : W.grownBy W' row) (hne : row ≠ some k) : Boxed W' k t v := (g.block k h.lt (fun e => hne e.symm)).trans h
theorem boxed_other {W : World} {k p : Nat} {t : TypeId} {v u : Value} (h : Boxed W k t v) (hne : k ≠ p) : Boxed (W.setCell ⟨p, 0, none⟩ u) k t v := (Below.heap_setCell W ⟨p, 0, none⟩ u k hne).trans h

theorem lines_any (s : ByteArray) (w : World) : Calls Tryd.prog 21 #[.string s] w fun e w' => e = .returned (.func (.func 41) #[] #[.pointer (some ⟨w.heap.size, 0, none⟩)]) ∧ w' = w.alloc (.cells #[.string s] 9) := by
  go_enter Tryd.func21, Tryd.ntmps21
  go_wp2
  go_ret
  exact ⟨rfl, rfl⟩
end Go.Proofs.YtkceccajamdbjaaDoor
