/- A range over strings.Lines: what the round and the iterator leave as it was. -/
import Derived.Test.YtkceccajamdbjaaDoorLnB
import Derived.Test.YtkceccajamdbjaaDoorOdR
import Derived.Test.YtkceccajamdbjaaDoorOrO
import Derived.OwnWalkIn
namespace Go.Proofs.YtkceccajamdbjaaDoor
open Go.RowKit
set_option linter.unusedVariables false

theorem boxed_aside {B cb : Nat} {W W' : World} {k : Nat} {t : TypeId} {v : Value} (h : Boxed W k t v) (a : Aside B cb W W') (hk : k ≠ cb) : Boxed W' k t v := a.same k _ h hk (.inr rfl)
theorem below_aside {B cb : Nat} {w W W' : World} (h : Below w.heap.size w W) (a : Aside B cb W W') (hB : w.heap.size ≤ B) (hc : w.heap.size ≤ cb) : Below w.heap.size w W' :=
  ⟨a.os.trans h.os, a.tape.trans h.tape, a.output.trans h.output, Nat.le_trans h.size a.size, fun k hk => by
    have e := h.block k hk
    rw [Array.getElem?_eq_getElem hk] at e ⊢
    exact a.same k _ e (by omega) (.inl (by omega))⟩
theorem Oro.aside {B cb : Nat} {W W' : World} {base : Nat} {v : Value} {ks : List OrV} (h : Oro W base v ks) (a : Aside B cb W W') (hc : cb < base) : Oro W' base v ks := by
  refine ⟨h.1, ?_⟩
  rcases h.2 with h1 | ⟨g, cap, cur, h1, h2, h3, h4⟩
  · exact .inl h1
  · exact .inr ⟨g, cap, cur, h1, h2, a.same g _ h3 (by omega) (.inr rfl), h4⟩
theorem Wm.aside {B cb : Nat} {W W' : World} {b n : Nat} {D : DataW Unit} (h : Wm W b n D) (a : Aside B cb W W') (hb : b < B) (hne : b ≠ cb) : Wm W' b n D := by
  obtain ⟨es, clock, h1, h2⟩ := h
  exact ⟨es, clock, a.same b _ h1 hne (.inl hb), h2⟩
theorem Stays.refl (B cb : Nat) (W : World) : Stays B cb W W := ⟨Nat.le_refl _, fun _ _ h _ => h⟩
theorem Stays.trans {B cb : Nat} {W W' W'' : World} (h : Stays B cb W W') (k : Stays B cb W' W'') : Stays B cb W W'' := ⟨Nat.le_trans h.size k.size, fun i o hi ho => k.same i o (h.same i o hi ho) ho⟩
theorem Stays.below {B cb : Nat} {W W' : World} (hb : Below W.heap.size W W') : Stays B cb W W' := ⟨hb.size, fun k o h _ => (hb.block k (Array.getElem?_eq_some_iff.1 h).1).trans h⟩
theorem Stays.drew {B cb : Nat} {W W' : World} (h : Stays B cb W W') : Stays B cb W W'.drew := ⟨h.size, h.same⟩
theorem Stays.setBoxed {B cb : Nat} {W : World} {p : Nat} {t : TypeId} {v : Value} (h : Boxed W p t v) (hp : p ≠ cb) (u : Value) : Stays B cb W (W.setCell ⟨p, 0, none⟩ u) :=
  ⟨by simp, fun k o hk ho => by
    have : k ≠ p := by
      rintro rfl
      rcases ho with e | ⟨-, e⟩
      · exact hp e
      · rw [show W.heap[k]? = _ from h] at hk
        cases hk
        cases e
    exact (Below.heap_setCell W ⟨p, 0, none⟩ u k this).trans hk⟩
theorem Stays.grown {B cb : Nat} {W W' : World} {base : Nat} {v : Value} {ks : List OrV} (h : Oro W base v ks) (g : W.grownBy W' v.ownBlock) (hc : cb < base) : Stays B cb W W' :=
  ⟨g.size, fun k o hk ho => by
    refine (g.block k (Array.getElem?_eq_some_iff.1 hk).1 (fun e => ?_)).trans hk
    rcases h.2 with ⟨rfl, -⟩ | ⟨q, cap, cur, rfl, h2, h3, -⟩
    · cases e
    · have : k = q := by simpa [Value.ownBlock] using e
      subst this
      rcases ho with e2 | ⟨-, e2⟩
      · omega
      · rw [h3] at hk
        cases hk
        cases e2⟩
theorem boxed_below {W W' : World} {B k : Nat} {t : TypeId} {v : Value} (h : Boxed W k t v) (hb : Below B W W') (hk : k < B) : Boxed W' k t v := (hb.block k hk).trans h
theorem boxed_grown {W W' : World} {k : Nat} {t : TypeId} {v : Value} {row : Option Nat} (h : Boxed W k t v) (g : W.grownBy W' row) (hne : row ≠ some k) : Boxed W' k t v := (g.block k h.lt (fun e => hne e.symm)).trans h
theorem boxed_other {W : World} {k p : Nat} {t : TypeId} {v u : Value} (h : Boxed W k t v) (hne : k ≠ p) : Boxed (W.setCell ⟨p, 0, none⟩ u) k t v := (Below.heap_setCell W ⟨p, 0, none⟩ u k hne).trans h

/-- one more, in a round. -/
theorem app_or_in {F : Fence} {n : Nat} {ops : Array Oper} {rest : List Oper} {o : Oper} {a : Act} {Q : Exit → Act → World → Prop} (w : World) (hgd : o.guard = none) (s x : Operand)
    (ho : o.op = Op.call { callee := Callee.builtin Builtin.append, args := #[s, x], argTypes := #[33, 33] }) (base : Nat) (v : Value) (ks : List OrV) (hs : a.eval s = v) (hown : Oro w base v ks)
    (b : Nat) (d : OrV) (hx : a.eval x = .slice (some ⟨b, 0, none⟩) 1 1) (hd : Orc w ⟨b, 0, none⟩ d) (hl : ks.length ≤ 1000000) (hbase : base ≤ w.heap.size)
    (h : ∀ v' w', Oro w' base v' (ks ++ [d]) → w.grownBy w' v.ownBlock → wpListIn F n Tryd.prog ops Q rest (a.put o.dst v') w') :
    wpListIn F n Tryd.prog ops Q (o :: rest) a w := by
  obtain ⟨i0, hi, hz0, hz1, hz2⟩ := info_parts info_or
  refine wpListIn_append_own w hgd s x 33 ho base 51 i0 (.agg #[.int .i64 0, .int .i64 0, .int .i64 0, .int .i64 0]) 4 32 Tryd.underlying33 hi hz0 hz1 hz2 rfl (by decide) v ks.length _ hs hown ⟨b, 0, none⟩ 1 1 d.cs hx rfl ?_ ?_ (by unfold maxLen; omega) (by omega) hbase ?_
  · intro j u hj
    have hjn : j < 4 := (List.getElem?_eq_some_iff.1 hj).1
    rw [Addr.add_lit, Nat.zero_add]
    match j, hjn, hj with
    | 0, _, hj => simp [OrV.cs] at hj; subst hj; exact hd.c0
    | 1, _, hj => simp [OrV.cs] at hj; subst hj; exact hd.c1
    | 2, _, hj => simp [OrV.cs] at hj; subst hj; exact hd.c2
    | 3, _, hj => simp [OrV.cs] at hj; subst hj; exact hd.c3
  · intro u hu
    simp [OrV.cs] at hu
    rcases hu with rfl | rfl | rfl | rfl <;> rfl
  · intro v' w' h1 h2 _
    refine h v' w' ?_ h2
    unfold Oro
    rw [List.length_append, List.flatMap_append]
    simpa using h1
end Go.Proofs.YtkceccajamdbjaaDoor
